/- spec.PutText and impl.PutText answer what the plain function putT says. -/
import Derived.Test.YtjannojebngoeabTextM
import Derived.Test.YtjannojebngoeabPutS
import Derived.Test.YtjannojebngoeabPutI
namespace Go.Proofs.Ytjannojebngoeab
open Go.RowKit
set_option linter.unusedVariables false

set_option maxHeartbeats 1600000 in
theorem putTS_any (w : World) (v u : Value) (l t : List Int) (h : Byt w v l) (hu : Byt w u t) (hl : l.length ≤ 60000000) :
    Calls Try.prog 48 #[v, u] w fun e w' => ∃ v', e = .returned v' ∧ Own w' w.heap.size v' (putT l t) ∧ Below w.heap.size w w' := by
  obtain ⟨a, c, rfl, _, _⟩ := hu.shape
  have hm := hu.2.1
  unfold maxLen at hm
  by_cases ht : 30 < t.length
  · have ht' : (30 : Int) < (t.length : Int) := by omega
    have HR := hide (putT_out (l := l) ht)
    go_enter Try.func48, Try.ntmps48
    go_wp2_with (at_builtin; refine wpList_app rfl _ _ rfl w.heap.size _ [] rfl (own_none w) v l rfl (h.alloc _) ?c1 ?c2 ?_)
    case c1 => first | omega | (simp; omega)
    case c2 => simp
    intro v1 w1 ho1 hg1
    have hB1 : Below w.heap.size w w1 := bstepBy ((Below.refl _ _).alloc (Nat.le_refl _) _) hg1 (fun g hg => by simp [Value.ownBlock] at hg; omega)
    clear hg1
    go_wp2
    go_ret
    exact ⟨_, rfl, by rw [unhide HR]; exact ho1, hB1⟩
  · have ht' : ¬ (30 : Int) < (t.length : Int) := by omega
    have HR := hide (putT_in (l := l) ht)
    have hp := putN_len t.length
    have HA := hide (putAll_in (l := l) (n := (t.length : Int)) (by omega) (by omega))
    go_enter Try.func48, Try.ntmps48
    go_wp2_with fail
    refine (putS_any w v l (t.length : Int) h (by omega)).mono ?_
    rintro e w1 ⟨v1, rfl, ho1, hB1⟩
    rw [unhide HA] at ho1
    go_wp2_with (at_builtin; refine wpList_app rfl _ _ rfl w.heap.size _ (l ++ putN t.length) rfl ho1 _ t rfl (hu.keep hB1) ?c1 ?c2 ?_)
    case c1 => first | omega | (simp; omega)
    case c2 => exact hB1.size
    intro v2 w2 ho2 hg2
    have hB2 : Below w.heap.size w w2 := bstepBy hB1 hg2 ho1.base_le
    clear hg2
    go_wp2
    go_ret
    exact ⟨_, rfl, by rw [unhide HR]; first | exact ho2 | (rw [List.append_assoc]; exact ho2), hB2⟩

set_option maxHeartbeats 1600000 in
theorem putTI_any (w : World) (v u : Value) (l t : List Int) (h : Byt w v l) (hu : Byt w u t) (hl : l.length ≤ 60000000) :
    Calls Try.prog 28 #[v, u] w fun e w' => ∃ v', e = .returned v' ∧ Own w' w.heap.size v' (putT l t) ∧ Below w.heap.size w w' := by
  obtain ⟨a', c', rfl, _, _⟩ := h.shape
  obtain ⟨a, c, rfl, _, _⟩ := hu.shape
  have hm := hu.2.1
  unfold maxLen at hm
  by_cases ht : 30 < t.length
  · have ht' : (30 : Int) < (t.length : Int) := by omega
    have HR := hide (putT_out (l := l) ht)
    have hcat := concat_any (w.alloc (.cells #[.slice a' l.length c'] 25)) w.heap.size 0 1 1 [.slice a' l.length c'] [l] rfl (by omega) (by simp) (fun i hi => by obtain rfl : i = 0 := (by omega); simp) (fun i hi => by obtain rfl : i = 0 := (by omega); exact h.alloc _) (by simp [sumLen]; omega)
    go_enter Try.func28, Try.ntmps28
    go_wp2_with fail
    refine hcat.mono ?_
    rintro e w1 ⟨v1, rfl, ho1, hB1⟩
    have hb : Below w.heap.size w w1 := bstep ((Below.refl _ _).alloc (Nat.le_refl _) _) hB1
    clear hB1 hcat
    go_wp2
    go_ret
    exact ⟨_, rfl, by rw [unhide HR]; simpa using ho1.mono (by simp), hb⟩
  · have ht' : ¬ (30 : Int) < (t.length : Int) := by omega
    have HR := hide (putT_in (l := l) ht)
    go_enter Try.func28, Try.ntmps28
    go_wp2_with fail
    refine (numRow_any w (t.length : Int) (by omega) (by omega)).mono ?_
    rintro e w1 ⟨c0, c1, c2, c3, c4, rfl, htk, hB1⟩
    have hp5 := putN_len t.length
    have hfive := byt_five w1 c0 c1 c2 c3 c4 (putN t.length).length hp5 (putN t.length) htk (putN_ok (by omega) (by omega))
    have hsl := fun wx => slice5 w1.heap.size (putN t.length).length hp5 wx
    generalize hs : putN t.length = s at *
    have HS := hide hs
    clear htk hs
    go_wp2_with fail
    refine (concat_any _ (w1.heap.size + 1) 0 3 3 [.slice a' l.length c', .slice (some ⟨w1.heap.size, 0, none⟩) s.length 5, .slice a t.length c] [l, s, t] rfl (by omega) ?c1 ?c2 ?c3 ?c4).mono ?_
    case c1 => simp
    case c2 =>
      intro i hi
      have : i = 0 ∨ i = 1 ∨ i = 2 := by omega
      rcases this with rfl | rfl | rfl <;> simp
    case c3 =>
      intro i hi
      have : i = 0 ∨ i = 1 ∨ i = 2 := by omega
      rcases this with rfl | rfl | rfl
      · exact ((h.keep hB1).alloc _).alloc _
      · exact hfive.alloc _
      · exact ((hu.keep hB1).alloc _).alloc _
    case c4 => simp [sumLen]; omega
    rintro e w2 ⟨v2, rfl, ho2, hB2⟩
    have hb : Below w.heap.size w w2 := bstep ((hB1.alloc hB1.size _).alloc (by have := hB1.size; simp; omega) _) hB2
    have ho3 : Own w2 w.heap.size v2 (l ++ s ++ t) := by simpa using ho2.mono (by have := hB1.size; simp; omega)
    have HO := hide ho3
    clear hB2 ho2 hfive ho3
    go_wp2
    go_ret
    exact ⟨_, rfl, by rw [unhide HR]; exact unhide HO, hb⟩

end Go.Proofs.Ytjannojebngoeab
