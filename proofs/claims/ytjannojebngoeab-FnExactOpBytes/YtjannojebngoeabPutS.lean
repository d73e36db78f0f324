/- spec.PutNum answers what the plain function putAll says. -/
import Derived.Test.YtjannojebngoeabApp
import Derived.Test.YtjannojebngoeabPutM
namespace Go.Proofs.Ytjannojebngoeab
open Go.RowKit
set_option linter.unusedVariables false

set_option maxHeartbeats 1600000 in
theorem putS_out (w : World) (v : Value) (l : List Int) (n : Int) (h : Byt w v l) (hl : l.length ≤ 67108864) (hn : n < 0 ∨ 2147483647 < n) :
    Calls Try.prog 46 #[v, .int .i64 n] w fun e w' => ∃ v', e = .returned v' ∧ Own w' w.heap.size v' l ∧ Below w.heap.size w w' := by
  go_enter Try.func46, Try.ntmps46
  go_wp2_with (at_builtin; refine wpList_app rfl _ _ rfl w.heap.size _ [] rfl (own_none w) v l rfl (h.alloc _) ?c1 ?c2 ?_)
  case c1 => first | omega | (simp; omega)
  case c2 => simp
  intro v1 w1 ho1 hg1
  have hB1 : Below w.heap.size w w1 := bstepBy ((Below.refl _ _).alloc (Nat.le_refl _) _) hg1 (fun g hg => by simp [Value.ownBlock] at hg; omega)
  clear hg1
  by_cases hneg : n < 0
  · go_wp2
    go_ret
    exact ⟨_, rfl, ho1, hB1⟩
  · have h2 : 2147483647 < n := by omega
    have h3 : decide (n < 0) = false := by simpa using hneg
    go_wp2
    go_ret
    exact ⟨_, rfl, ho1, hB1⟩

set_option maxHeartbeats 1600000 in
theorem putS_in (w : World) (v : Value) (l : List Int) (n : Int) (h : Byt w v l) (hl : l.length ≤ 67108864) (hn0 : 0 ≤ n) (hn1 : n ≤ 2147483647) :
    Calls Try.prog 46 #[v, .int .i64 n] w fun e w' => ∃ v', e = .returned v' ∧ Own w' w.heap.size v' (l ++ putN n) ∧ Below w.heap.size w w' := by
  have h3 : decide (n < 0) = false := by simp; omega
  go_enter Try.func46, Try.ntmps46
  go_wp2_with (at_builtin; refine wpList_app rfl _ _ rfl w.heap.size _ [] rfl (own_none w) v l rfl (h.alloc _) ?c1 ?c2 ?_)
  case c1 => first | omega | (simp; omega)
  case c2 => simp
  intro v1 w1 ho1 hg1
  have hB1 : Below w.heap.size w w1 := bstepBy ((Below.refl _ _).alloc (Nat.le_refl _) _) hg1 (fun g hg => by simp [Value.ownBlock] at hg; omega)
  clear hg1
  go_wp2
  go_loopw [1, 5] (fun m u wr => ∃ (f : Nat) (k : Int) (pre : List Int), f ≤ 4 ∧ m = .int .i64 k ∧ 0 ≤ k ∧ k ≤ 2147483647 ∧ k < sc (f + 1) ∧ Own wr w.heap.size u (l ++ pre) ∧ pre.length ≤ 4 ∧ pre.length + f = 4 ∧ Hid (putN n = pre ++ putGo f k) ∧ Below w.heap.size w wr) (fun m _ _ => (intOf m).toNat)
  case atStart => exact ⟨4, n, [], by omega, rfl, hn0, hn1, by simp only [sc]; omega, by rw [List.append_nil]; exact ho1, by simp, by simp, hide rfl, hB1⟩
  case round =>
    obtain ⟨f, k, pre, hf, rfl, hk0, hk1, hk2, ho, hp, hpf, HP, hB⟩ := hrel
    clear ho1 hB1
    by_cases hk : 127 < k
    · cases f with
      | zero => simp [sc] at hk2; omega
      | succ f =>
        have hss := sc_step (f + 1) (by omega)
        have hk3 : k / 128 < sc (f + 1) := by omega
        clear hss hk2
        have HK3 := hide hk3
        clear hk3
        go_wp2_with (at_builtin; refine wpList_app rfl _ _ rfl w.heap.size _ (l ++ pre) rfl (ho.alloc _) _ [k % 128 + 128] rfl (byt_one wr (k % 128 + 128) (by omega) (by omega)) ?c1 ?c2 ?_)
        case c1 => first | omega | (simp; omega)
        case c2 => have := hB.size; first | omega | (simp; omega)
        intro v2 w2 ho2 hg2
        have hB2 : Below w.heap.size w w2 := bstepBy (hB.alloc hB.size _) hg2 ho.base_le
        go_wp2
        go_roundw
        case rel => exact ⟨f, k / 128, pre ++ [k % 128 + 128], by omega, rfl, by omega, by omega, unhide HK3, ho2, by simp; omega, by simp; omega, hide (by rw [unhide HP, putGo_on hk]; simp), hB2⟩
        case measure => simp [intOf]; omega
    · have HR := hide (show putN n = pre ++ [k] by rw [unhide HP, putGo_end hk])
      clear HP hk2
      have hk' : ¬ (127 : Int) < k := hk
      go_wp2_with (at_builtin; refine wpList_app rfl _ _ rfl w.heap.size _ (l ++ pre) rfl (ho.alloc _) _ [k] rfl (byt_one wr k (by omega) (by omega)) ?c1 ?c2 ?_)
      case c1 => first | omega | (simp; omega)
      case c2 => have := hB.size; first | omega | (simp; omega)
      intro v2 w2 ho2 hg2
      have hB2 : Below w.heap.size w w2 := bstepBy (hB.alloc hB.size _) hg2 ho.base_le
      go_wp2
      go_ret
      exact ⟨_, rfl, by rw [unhide HR]; exact ho2, hB2⟩

/-- spec.PutNum, whatever it is asked. -/
theorem putS_any (w : World) (v : Value) (l : List Int) (n : Int) (h : Byt w v l) (hl : l.length ≤ 67108864) :
    Calls Try.prog 46 #[v, .int .i64 n] w fun e w' => ∃ v', e = .returned v' ∧ Own w' w.heap.size v' (putAll l n) ∧ Below w.heap.size w w' := by
  by_cases hn : n < 0 ∨ 2147483647 < n
  · rw [putAll_out hn]; exact putS_out w v l n h hl hn
  · rw [putAll_in (by omega) (by omega)]; exact putS_in w v l n h hl (by omega) (by omega)

end Go.Proofs.Ytjannojebngoeab
