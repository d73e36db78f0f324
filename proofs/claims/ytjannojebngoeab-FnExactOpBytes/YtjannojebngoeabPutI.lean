/- impl.PutNum answers what the plain function putAll says. -/
import Derived.Test.YtjannojebngoeabCat
import Derived.Test.YtjannojebngoeabRow
namespace Go.Proofs.Ytjannojebngoeab
open Go.RowKit
set_option linter.unusedVariables false

theorem Try.arr78 : Try.prog.arrayLen 78 = 5 := by kernel_rfl
theorem Try.elem78 : Try.prog.elem 78 = 5 := by kernel_rfl
theorem slice5 (b k : Nat) (hk : k ≤ 5) (w : World) : (Instr.sliceAt 78 (.pointer (some ⟨b, 0, none⟩)) none (some (.int .i64 (k : Int))) none).run Try.prog w = .ok (.slice (some ⟨b, 0, none⟩) k 5) w := by
  obtain ⟨i0, hi, hz0, hz1, hz2⟩ := info_parts Try.info5
  have h := run_sliceAt_array_h (P := Try.prog) w 78 ⟨b, 0, none⟩ (by kernel_rfl) .i64 (k : Int) (by omega) (by rw [Try.arr78]; omega)
  rw [h, Try.arr78, Try.elem78]
  simp [sizeOf, typeInfo, hi, slicedAt, add_plain]

/-- The first k of five bytes in a new block can be read. -/
theorem byt_five (w : World) (c0 c1 c2 c3 c4 : Int) (k : Nat) (hk : k ≤ 5) (l : List Int) (hl : [c0, c1, c2, c3, c4].take k = l) (hok : okB l) :
    Byt (w.alloc (.cells #[.int .u8 c0, .int .u8 c1, .int .u8 c2, .int .u8 c3, .int .u8 c4] 78)) (.slice (some ⟨w.heap.size, 0, none⟩) k 5) l := by
  have hlen : l.length = k := by rw [← hl]; simp; omega
  by_cases h0 : k = 0
  · subst h0
    have e : l = [] := List.eq_nil_of_length_eq_zero hlen
    subst e
    exact ⟨okB_nil, by simp [maxLen], .inr (.inl ⟨_, 5, rfl, by simp [maxLen], rfl⟩)⟩
  · refine ⟨hok, by unfold maxLen; omega, .inr (.inr ⟨w.heap.size, 0, 5, by rw [hlen], by omega, by simp [maxLen], fun e => by rw [e] at hlen; simp at hlen; omega, by simp, fun i hi => ?_⟩)⟩
    have hi5 : i = 0 ∨ i = 1 ∨ i = 2 ∨ i = 3 ∨ i = 4 := by omega
    have hik : i < k := by omega
    rw [← hl, List.getD_eq_getElem?_getD, List.getElem?_take, if_pos hik]
    rcases hi5 with rfl | rfl | rfl | rfl | rfl <;> simp

set_option maxHeartbeats 1600000 in
theorem putI_out (w : World) (v : Value) (l : List Int) (n : Int) (h : Byt w v l) (hl : l.length ≤ 60000000) (hn : n < 0 ∨ 2147483647 < n) :
    Calls Try.prog 57 #[v, .int .i64 n] w fun e w' => ∃ v', e = .returned v' ∧ Own w' w.heap.size v' l ∧ Below w.heap.size w w' := by
  have hcat := concat_any (w.alloc (.cells #[v] 25)) w.heap.size 0 1 1 [v] [l] rfl (by omega) (by simp) (fun i hi => by obtain rfl : i = 0 := (by omega); simp) (fun i hi => by obtain rfl : i = 0 := (by omega); exact h.alloc _) (by simp [sumLen]; omega)
  obtain ⟨a, c, rfl, _, _⟩ := h.shape
  by_cases hneg : n < 0
  · go_enter Try.func57, Try.ntmps57
    go_wp2_with fail
    refine hcat.mono ?_
    rintro e w1 ⟨v1, rfl, ho1, hB1⟩
    have hb : Below w.heap.size w w1 := bstep ((Below.refl _ _).alloc (Nat.le_refl _) _) hB1
    clear hB1 hcat
    go_wp2
    go_ret
    exact ⟨_, rfl, by simpa using ho1.mono (by simp), hb⟩
  · have h2 : 2147483647 < n := by omega
    have h3 : decide (n < 0) = false := by simpa using hneg
    go_enter Try.func57, Try.ntmps57
    go_wp2_with fail
    refine hcat.mono ?_
    rintro e w1 ⟨v1, rfl, ho1, hB1⟩
    have hb : Below w.heap.size w w1 := bstep ((Below.refl _ _).alloc (Nat.le_refl _) _) hB1
    clear hB1 hcat
    go_wp2
    go_ret
    exact ⟨_, rfl, by simpa using ho1.mono (by simp), hb⟩

set_option maxHeartbeats 1600000 in
theorem putI_in (w : World) (v : Value) (l : List Int) (n : Int) (h : Byt w v l) (hl : l.length ≤ 60000000) (hn0 : 0 ≤ n) (hn1 : n ≤ 2147483647) :
    Calls Try.prog 57 #[v, .int .i64 n] w fun e w' => ∃ v', e = .returned v' ∧ Own w' w.heap.size v' (l ++ putN n) ∧ Below w.heap.size w w' := by
  have h3 : decide (n < 0) = false := by simp; omega
  obtain ⟨a, c, hv, _, _⟩ := h.shape
  subst hv
  go_enter Try.func57, Try.ntmps57
  go_wp2_with fail
  refine (numRow_any w n hn0 hn1).mono ?_
  rintro e w1 ⟨c0, c1, c2, c3, c4, rfl, htk, hB1⟩
  have hp5 := putN_len n
  have hfive := byt_five w1 c0 c1 c2 c3 c4 (putN n).length hp5 (putN n) htk (putN_ok hn0 hn1)
  have hsl := fun wx => slice5 w1.heap.size (putN n).length hp5 wx
  generalize ht : putN n = t at *
  have HT := hide ht
  clear htk ht
  go_wp2_with fail
  refine (concat_any _ (w1.heap.size + 1) 0 2 2 [.slice a l.length c, .slice (some ⟨w1.heap.size, 0, none⟩) t.length 5] [l, t] rfl (by omega) ?c1 ?c2 ?c3 ?c4).mono ?_
  case c1 => simp
  case c2 => 
    intro i hi
    have : i = 0 ∨ i = 1 := by omega
    rcases this with rfl | rfl <;> simp
  case c3 =>
    intro i hi
    have : i = 0 ∨ i = 1 := by omega
    rcases this with rfl | rfl
    · exact ((h.keep hB1).alloc _).alloc _
    · exact hfive.alloc _
  case c4 => simp [sumLen]; omega
  rintro e w2 ⟨v2, rfl, ho2, hB2⟩
  have hb : Below w.heap.size w w2 := bstep ((hB1.alloc hB1.size _).alloc (by have := hB1.size; simp; omega) _) hB2
  have ho3 : Own w2 w.heap.size v2 (l ++ t) := by simpa using ho2.mono (by have := hB1.size; simp; omega)
  clear hB2 ho2 hfive
  go_wp2
  go_ret
  exact ⟨_, rfl, by rw [unhide HT]; exact ho3, hb⟩

/-- impl.PutNum, whatever it is asked. -/
theorem putI_any (w : World) (v : Value) (l : List Int) (n : Int) (h : Byt w v l) (hl : l.length ≤ 60000000) :
    Calls Try.prog 57 #[v, .int .i64 n] w fun e w' => ∃ v', e = .returned v' ∧ Own w' w.heap.size v' (putAll l n) ∧ Below w.heap.size w w' := by
  by_cases hn : n < 0 ∨ 2147483647 < n
  · rw [putAll_out hn]; exact putI_out w v l n h hl hn
  · rw [putAll_in (by omega) (by omega)]; exact putI_in w v l n h hl (by omega) (by omega)

end Go.Proofs.Ytjannojebngoeab
