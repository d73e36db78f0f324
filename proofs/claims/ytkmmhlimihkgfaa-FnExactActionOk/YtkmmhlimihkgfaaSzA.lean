/- The laws' own count of how great an edit, an action is, by contracts. -/
import Derived.Test.YtkmmhlimihkgfaaAcT
import Derived.Test.YtkmmhlimihkgfaaSzB
namespace Go.Proofs.Ytkmmhlimihkgfaa
open Go.RowKit
set_option linter.unusedVariables false
set_option maxRecDepth 100000

set_option maxHeartbeats 3200000 in
theorem szEd_any (w : World) (v : Value) (e : EdV) (left : Int) (h : RdEd w v e) (h0 : 0 ≤ left) (h1 : left ≤ 1000000000) :
    Calls Try.prog 9 #[v, .int .i64 left] w fun r w' => r = .returned (.int .i64 (left4 (e.name.length + e.text.length) left)) ∧ Below w.heap.size w w' := by
  obtain ⟨n, t, rfl, hn, ht⟩ := h
  have m2 := hn.2.1
  have m3 := ht.2.1
  obtain ⟨a1, c1, rfl, _, _⟩ := hn.shape
  obtain ⟨a2, c2, rfl, _, _⟩ := ht.shape
  clear hn ht
  generalize e.name.length = nN at *
  generalize e.text.length = nT at *
  have HA := hide ((Below.refl w.heap.size w).alloc (Nat.le_refl _) (.cells #[.int .i64 e.kind, .int .i64 e.nodeN, .int .i64 e.nodeR, .int .i64 e.toN, .int .i64 e.toR, .int .i64 e.i, .int .i64 e.elem, .slice a1 nN c1, .slice a2 nT c2, .bool e.gone] 26))
  unfold edVal
  go_enter Try.func9, Try.ntmps9
  go_wp2_with fail
  refine (szB4_any _ _ _ _ left m2 h0 h1).mono ?_
  rintro e w1 ⟨rfl, rfl⟩
  by_cases h2 : (nN : Int) ≤ left
  · rw [left4_in h2]
    have hd : ¬ left - (nN : Int) < 0 := by omega
    go_wp2_with fail
    refine (szB4_any _ _ _ _ (left - (nN : Int)) m3 (by omega) (by omega)).mono ?_
    rintro e w2 ⟨rfl, rfl⟩
    by_cases h3 : (nT : Int) ≤ left - (nN : Int)
    · rw [left4_in h3]
      have HR := hide (show left4 (nN + nT) left = left - (nN : Int) - (nT : Int) by rw [left4_in (by omega)]; omega)
      have hd2 : ¬ left - (nN : Int) - (nT : Int) < 0 := by omega
      go_wp2_with fail
      go_ret
      exact ⟨by rw [unhide HR]; rfl, unhide HA⟩
    · rw [left4_out h3]
      have HR := hide (show left4 (nN + nT) left = -1 by rw [left4_out (by omega)])
      go_wp2_with fail
      go_ret
      exact ⟨by rw [unhide HR]; rfl, unhide HA⟩
  · rw [left4_out h2]
    have HR := hide (show left4 (nN + nT) left = -1 by rw [left4_out (by omega)])
    go_wp2_with fail
    go_ret
    exact ⟨by rw [unhide HR]; rfl, unhide HA⟩

set_option maxHeartbeats 3200000 in
theorem szAc_any (w : World) (v : Value) (c : AcV) (left : Int) (h : RdAc w v c) (h0 : 0 ≤ left) (h1 : left ≤ 1000000000) :
    Calls Try.prog 4 #[v, .int .i64 left] w fun r w' => r = .returned (.int .i64 (left4 (c.e.name.length + c.e.text.length) left)) ∧ Below w.heap.size w w' := by
  obtain ⟨n, t, rfl, hn, ht⟩ := h
  obtain ⟨a1, c1, rfl, _, _⟩ := hn.shape
  obtain ⟨a2, c2, rfl, _, _⟩ := ht.shape
  have hA := (Below.refl w.heap.size w).alloc (Nat.le_refl _) (.cells #[.int .i64 c.kind, .int .i64 c.a, .int .i64 c.b, .int .i64 c.e.kind, .int .i64 c.e.nodeN, .int .i64 c.e.nodeR, .int .i64 c.e.toN, .int .i64 c.e.toR, .int .i64 c.e.i, .int .i64 c.e.elem, .slice a1 c.e.name.length c1, .slice a2 c.e.text.length c2, .bool c.e.gone] 28)
  have HS := hide (szEd_any _ _ c.e left ⟨_, _, rfl, hn.keep hA, ht.keep hA⟩ h0 h1)
  clear hn ht
  unfold edVal at HS
  unfold acVal
  by_cases hd : ((c.e.name.length + c.e.text.length : Nat) : Int) ≤ left
  · have hr := left4_in hd
    have hd2 : ¬ left - ((c.e.name.length + c.e.text.length : Nat) : Int) < 0 := by omega
    rw [hr] at HS ⊢
    generalize left - ((c.e.name.length + c.e.text.length : Nat) : Int) = r at *
    clear hr hd
    go_enter Try.func4, Try.ntmps4
    go_wp2_with fail
    refine (unhide HS).mono ?_
    rintro e w1 ⟨rfl, hB⟩
    have hB' := bstep hA hB
    go_wp2_with fail
    go_ret
    exact ⟨rfl, hB'⟩
  · have hr := left4_out hd
    rw [hr] at HS ⊢
    clear hr hd
    go_enter Try.func4, Try.ntmps4
    go_wp2_with fail
    refine (unhide HS).mono ?_
    rintro e w1 ⟨rfl, hB⟩
    have hB' := bstep hA hB
    go_wp2_with fail
    go_ret
    exact ⟨rfl, hB'⟩
end Go.Proofs.Ytkmmhlimihkgfaa
