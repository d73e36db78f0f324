/- The laws' own count of how great an operation is, by contracts; toId, eqId. -/
import Derived.Test.YtcabolcfoijglaaOpS
namespace Go.Proofs.Ytcabolcfoijglaa
open Go.RowKit
set_option linter.unusedVariables false

/-- What is left when n are taken: -1 where there aren't so many. -/
def left4 (n : Nat) (left : Int) : Int := if (n : Int) ≤ left then left - n else -1
theorem left4_in {n : Nat} {left : Int} (h : (n : Int) ≤ left) : left4 n left = left - n := if_pos h
theorem left4_out {n : Nat} {left : Int} (h : ¬ (n : Int) ≤ left) : left4 n left = -1 := if_neg h

theorem szB4_any (w : World) (a : Option Addr) (n cap : Nat) (left : Int) (hn : n ≤ maxLen) (h0 : 0 ≤ left) (h1 : left ≤ 1000000000) :
    Calls Try.prog 90 #[.slice a n cap, .int .i64 left] w fun e w' => e = .returned (.int .i64 (left4 n left)) ∧ w' = w := by
  unfold maxLen at hn
  by_cases h : (n : Int) ≤ left
  · have HR := hide (left4_in h)
    have hd : ¬ left - (n : Int) < 0 := by omega
    go_enter Try.func90, Try.ntmps90
    go_wp2
    go_ret
    exact ⟨by rw [unhide HR]; rfl, rfl⟩
  · have HR := hide (left4_out h)
    have hd : left - (n : Int) < 0 := by omega
    go_enter Try.func90, Try.ntmps90
    go_wp2
    go_ret
    exact ⟨by rw [unhide HR]; rfl, rfl⟩

theorem szZ4_any (w : World) (a : Option Addr) (n cap : Nat) (left : Int) (hn : n ≤ maxLen) (h0 : 0 ≤ left) (h1 : left ≤ 1000000000) :
    Calls Try.prog 89 #[.slice a n cap, .int .i64 left] w fun e w' => e = .returned (.int .i64 (left4 n left)) ∧ w' = w := by
  unfold maxLen at hn
  by_cases h : (n : Int) ≤ left
  · have HR := hide (left4_in h)
    have hd : ¬ left - (n : Int) < 0 := by omega
    go_enter Try.func89, Try.ntmps89
    go_wp2
    go_ret
    exact ⟨by rw [unhide HR]; rfl, rfl⟩
  · have HR := hide (left4_out h)
    have hd : left - (n : Int) < 0 := by omega
    go_enter Try.func89, Try.ntmps89
    go_wp2
    go_ret
    exact ⟨by rw [unhide HR]; rfl, rfl⟩

set_option maxRecDepth 8000 in
set_option maxHeartbeats 1600000 in
theorem szOp_any (w : World) (v : Value) (o : OpV) (left : Int) (h : RdOp w v o) (h0 : 0 ≤ left) (h1 : left ≤ 1000000000) :
    Calls Try.prog 61 #[v, .int .i64 left] w fun e w' => e = .returned (.int .i64 (left4 (o.key.length + o.name.length + o.text.length) left)) ∧ Below w.heap.size w w' := by
  obtain ⟨k, n, t, rfl, hk, hn, ht⟩ := h
  have m1 := hk.2.1
  have m2 := hn.2.1
  have m3 := ht.2.1
  obtain ⟨ak, ck, rfl, _, _⟩ := hk.shape
  obtain ⟨an, cn, rfl, _, _⟩ := hn.shape
  obtain ⟨at', ct, rfl, _, _⟩ := ht.shape
  clear hk hn ht
  generalize o.key.length = nK at *
  generalize o.name.length = nN at *
  generalize o.text.length = nT at *
  have HA := hide ((Below.refl w.heap.size w).alloc (Nat.le_refl _) (.cells #[.int .i64 o.kind, .int .i64 o.atN, .int .i64 o.atR, .int .i64 o.nodeN, .int .i64 o.nodeR, .int .i64 o.parN, .int .i64 o.parR, .slice ak nK ck, .int .i64 o.elem, .slice an nN cn, .slice at' nT ct, .bool o.gone] 82))
  unfold opVal
  go_enter Try.func61, Try.ntmps61
  go_wp2_with fail
  refine (szZ4_any _ _ _ _ left m1 h0 h1).mono ?_
  rintro e w1 ⟨rfl, rfl⟩
  by_cases h2 : (nK : Int) ≤ left
  · rw [left4_in h2]
    have hd : ¬ left - (nK : Int) < 0 := by omega
    go_wp2_with fail
    refine (szB4_any _ _ _ _ (left - (nK : Int)) m2 (by omega) (by omega)).mono ?_
    rintro e w2 ⟨rfl, rfl⟩
    by_cases h3 : (nN : Int) ≤ left - (nK : Int)
    · rw [left4_in h3]
      have hd2 : ¬ left - (nK : Int) - (nN : Int) < 0 := by omega
      go_wp2_with fail
      refine (szB4_any _ _ _ _ (left - (nK : Int) - (nN : Int)) m3 (by omega) (by omega)).mono ?_
      rintro e w2 ⟨rfl, rfl⟩
      by_cases h4 : (nT : Int) ≤ left - (nK : Int) - (nN : Int)
      · rw [left4_in h4]
        have HR := hide (show left4 (nK + nN + nT) left = left - (nK : Int) - (nN : Int) - (nT : Int) by rw [left4_in (by omega)]; omega)
        have hd3 : ¬ left - (nK : Int) - (nN : Int) - (nT : Int) < 0 := by omega
        go_wp2_with fail
        go_ret
        exact ⟨by rw [unhide HR]; rfl, unhide HA⟩
      · rw [left4_out h4]
        have HR := hide (show left4 (nK + nN + nT) left = -1 by rw [left4_out (by omega)])
        go_wp2_with fail
        go_ret
        exact ⟨by rw [unhide HR]; rfl, unhide HA⟩
    · rw [left4_out h3]
      have HR := hide (show left4 (nK + nN + nT) left = -1 by rw [left4_out (by omega)])
      go_wp2_with fail
      go_ret
      exact ⟨by rw [unhide HR]; rfl, unhide HA⟩
  · rw [left4_out h2]
    have HR := hide (show left4 (nK + nN + nT) left = -1 by rw [left4_out (by omega)])
    go_wp2_with fail
    go_ret
    exact ⟨by rw [unhide HR]; rfl, unhide HA⟩

end Go.Proofs.Ytcabolcfoijglaa
