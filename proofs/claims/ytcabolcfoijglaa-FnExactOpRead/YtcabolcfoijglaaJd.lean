/- Own texts joined: PutS, Row, PutI, TextP, PutOS, BytS, Str. -/
import Derived.Test.YtcabolcfoijglaaJa
import Derived.Test.YtcabolcfoijglaaJb
import Derived.Test.YtcabolcfoijglaaJc
import Derived.Deep.RegionHeld3

/- spec.PutNum answers what the plain function putAll says. -/
namespace Go.Proofs.Ytcabolcfoijglaa
open Go.RowKit
set_option linter.unusedVariables false

set_option maxHeartbeats 1600000 in
theorem putS_out (w : World) (v : Value) (l : List Int) (n : Int) (h : Byt w v l) (hl : l.length ≤ 67108864) (hn : n < 0 ∨ 2147483647 < n) :
    Calls Try.prog 79 #[v, .int .i64 n] w fun e w' => ∃ v', e = .returned v' ∧ Own w' w.heap.size v' l ∧ Below w.heap.size w w' := by
  go_enter Try.func79, Try.ntmps79
  go_wp2_with (at_builtin; refine wpList_app rfl _ _ rfl w.heap.size _ [] rfl (own_none w) v l rfl (h.alloc _) ?c1 ?c2 ?_)
  case c1 => first | omega | (simp; omega)
  case c2 => simp
  intro v1 w1 ho1 hg1
  have hB1 : Below w.heap.size w w1 := bstepBy ((Below.refl _ _).alloc (Nat.le_refl _) _) hg1 (fun g hg => by simp [Value.ownBlock] at hg; omega)
  clear hg1
  by_cases hneg : n < 0
  · go_wp2
    go_ret
    exact ⟨_, rfl, ho1, hB1⟩
  · have h2 : 2147483647 < n := by omega
    have h3 : decide (n < 0) = false := by simpa using hneg
    go_wp2
    go_ret
    exact ⟨_, rfl, ho1, hB1⟩

set_option maxHeartbeats 1600000 in
theorem putS_in (w : World) (v : Value) (l : List Int) (n : Int) (h : Byt w v l) (hl : l.length ≤ 67108864) (hn0 : 0 ≤ n) (hn1 : n ≤ 2147483647) :
    Calls Try.prog 79 #[v, .int .i64 n] w fun e w' => ∃ v', e = .returned v' ∧ Own w' w.heap.size v' (l ++ putN n) ∧ Below w.heap.size w w' := by
  have h3 : decide (n < 0) = false := by simp; omega
  go_enter Try.func79, Try.ntmps79
  go_wp2_with (at_builtin; refine wpList_app rfl _ _ rfl w.heap.size _ [] rfl (own_none w) v l rfl (h.alloc _) ?c1 ?c2 ?_)
  case c1 => first | omega | (simp; omega)
  case c2 => simp
  intro v1 w1 ho1 hg1
  have hB1 : Below w.heap.size w w1 := bstepBy ((Below.refl _ _).alloc (Nat.le_refl _) _) hg1 (fun g hg => by simp [Value.ownBlock] at hg; omega)
  clear hg1
  go_wp2
  go_loopw [1, 5] (fun m u wr => ∃ (f : Nat) (k : Int) (pre : List Int), f ≤ 4 ∧ m = .int .i64 k ∧ 0 ≤ k ∧ k ≤ 2147483647 ∧ k < sc (f + 1) ∧ Own wr w.heap.size u (l ++ pre) ∧ pre.length ≤ 4 ∧ pre.length + f = 4 ∧ Hid (putN n = pre ++ putGo f k) ∧ Below w.heap.size w wr) (fun m _ _ => (intOf m).toNat)
  case atStart => exact ⟨4, n, [], by omega, rfl, hn0, hn1, by simp only [sc]; omega, by rw [List.append_nil]; exact ho1, by simp, by simp, hide rfl, hB1⟩
  case round =>
    obtain ⟨f, k, pre, hf, rfl, hk0, hk1, hk2, ho, hp, hpf, HP, hB⟩ := hrel
    clear ho1 hB1
    by_cases hk : 127 < k
    · cases f with
      | zero => simp [sc] at hk2; omega
      | succ f =>
        have hss := sc_step (f + 1) (by omega)
        have hk3 : k / 128 < sc (f + 1) := by omega
        clear hss hk2
        have HK3 := hide hk3
        clear hk3
        go_wp2_with (at_builtin; refine wpList_app rfl _ _ rfl w.heap.size _ (l ++ pre) rfl (ho.alloc _) _ [k % 128 + 128] rfl (byt_one wr (k % 128 + 128) (by omega) (by omega)) ?c1 ?c2 ?_)
        case c1 => first | omega | (simp; omega)
        case c2 => have := hB.size; first | omega | (simp; omega)
        intro v2 w2 ho2 hg2
        have hB2 : Below w.heap.size w w2 := bstepBy (hB.alloc hB.size _) hg2 ho.base_le
        go_wp2
        go_roundw
        case rel => exact ⟨f, k / 128, pre ++ [k % 128 + 128], by omega, rfl, by omega, by omega, unhide HK3, ho2, by simp; omega, by simp; omega, hide (by rw [unhide HP, putGo_on hk]; simp), hB2⟩
        case measure => simp [intOf]; omega
    · have HR := hide (show putN n = pre ++ [k] by rw [unhide HP, putGo_end hk])
      clear HP hk2
      have hk' : ¬ (127 : Int) < k := hk
      go_wp2_with (at_builtin; refine wpList_app rfl _ _ rfl w.heap.size _ (l ++ pre) rfl (ho.alloc _) _ [k] rfl (byt_one wr k (by omega) (by omega)) ?c1 ?c2 ?_)
      case c1 => first | omega | (simp; omega)
      case c2 => have := hB.size; first | omega | (simp; omega)
      intro v2 w2 ho2 hg2
      have hB2 : Below w.heap.size w w2 := bstepBy (hB.alloc hB.size _) hg2 ho.base_le
      go_wp2
      go_ret
      exact ⟨_, rfl, by rw [unhide HR]; exact ho2, hB2⟩

/-- spec.PutNum, whatever it is asked. -/
theorem putS_any (w : World) (v : Value) (l : List Int) (n : Int) (h : Byt w v l) (hl : l.length ≤ 67108864) :
    Calls Try.prog 79 #[v, .int .i64 n] w fun e w' => ∃ v', e = .returned v' ∧ Own w' w.heap.size v' (putAll l n) ∧ Below w.heap.size w w' := by
  by_cases hn : n < 0 ∨ 2147483647 < n
  · rw [putAll_out hn]; exact putS_out w v l n h hl hn
  · rw [putAll_in (by omega) (by omega)]; exact putS_in w v l n h hl (by omega) (by omega)

end Go.Proofs.Ytcabolcfoijglaa

/- impl.numRow: the bytes of a number in a new array of five, by its contract. -/
namespace Go.Proofs.Ytcabolcfoijglaa
open Go.RowKit
set_option linter.unusedVariables false

/-- An array of five bytes in a new block. -/
def five (c0 c1 c2 c3 c4 : Int) : Obj := .cells #[.int .u8 c0, .int .u8 c1, .int .u8 c2, .int .u8 c3, .int .u8 c4] 91

set_option maxHeartbeats 1600000 in
set_option maxRecDepth 1000000 in
theorem numRow_any (w : World) (n : Int) (h0 : 0 ≤ n) (h1 : n ≤ 2147483647) :
    Calls Try.prog 69 #[.int .i64 n] w fun e w' => ∃ c0 c1 c2 c3 c4 : Int, e = .returned (.tuple #[.agg #[.int .u8 c0, .int .u8 c1, .int .u8 c2, .int .u8 c3, .int .u8 c4], .int .i64 ((putN n).length : Nat)]) ∧
      [c0, c1, c2, c3, c4].take (putN n).length = putN n ∧ Below w.heap.size w w' := by
  go_enter Try.func69, Try.ntmps69
  go_wp2
  go_loopw [0, 3] (fun m s wr => ∃ (k f : Nat) (q c0 c1 c2 c3 c4 : Int), k + f = 4 ∧ m = .int .i64 q ∧ s = .int .i64 k ∧ 0 ≤ q ∧ q ≤ 2147483647 ∧ q < sc (f + 1) ∧ wr = w.alloc (.cells #[.int .u8 c0, .int .u8 c1, .int .u8 c2, .int .u8 c3, .int .u8 c4] 91) ∧ Hid (putN n = [c0, c1, c2, c3, c4].take k ++ putGo f q)) (fun m _ _ => (intOf m).toNat)
  case atStart => exact ⟨0, 4, n, 0, 0, 0, 0, 0, rfl, rfl, rfl, h0, h1, by simp only [sc]; omega, rfl, hide rfl⟩
  case round =>
    obtain ⟨k, f, q, c0, c1, c2, c3, c4, hkf, rfl, rfl, hq0, hq1, hq2, rfl, HP⟩ := hrel
    by_cases hq : 128 ≤ q
    · have hf : 1 ≤ f := by
        cases f with
        | zero => simp [sc] at hq2; omega
        | succ f => omega
      obtain ⟨f, rfl⟩ : ∃ g, f = g + 1 := ⟨f - 1, by omega⟩
      have hss := sc_step (f + 1) (by omega)
      have HQ := hide (show q / 128 < sc (f + 1) by omega)
      have HP2 := hide ((unhide HP).trans (congrArg ([c0, c1, c2, c3, c4].take k ++ ·) (putGo_on (f := f) (show 127 < q by omega))))
      clear hss hq2 HP
      have : k = 0 ∨ k = 1 ∨ k = 2 ∨ k = 3 := by omega
      rcases this with rfl | rfl | rfl | rfl
      all_goals
        go_wp2
        go_roundw
        case measure => simp [intOf]; omega
      case rel => exact ⟨1, f, q / 128, _, _, _, _, _, by omega, rfl, rfl, by omega, by omega, unhide HQ, rfl, hide (by simpa using unhide HP2)⟩
      case rel => exact ⟨2, f, q / 128, _, _, _, _, _, by omega, rfl, rfl, by omega, by omega, unhide HQ, rfl, hide (by simpa using unhide HP2)⟩
      case rel => exact ⟨3, f, q / 128, _, _, _, _, _, by omega, rfl, rfl, by omega, by omega, unhide HQ, rfl, hide (by simpa using unhide HP2)⟩
      case rel => exact ⟨4, f, q / 128, _, _, _, _, _, by omega, rfl, rfl, by omega, by omega, unhide HQ, rfl, hide (by simpa using unhide HP2)⟩
    · have HP2 := hide ((unhide HP).trans (congrArg ([c0, c1, c2, c3, c4].take k ++ ·) (putGo_end (f := f) (show ¬ 127 < q by omega))))
      clear HP hq2
      have hq' : ¬ (128 : Int) ≤ q := hq
      have : k = 0 ∨ k = 1 ∨ k = 2 ∨ k = 3 ∨ k = 4 := by omega
      rcases this with rfl | rfl | rfl | rfl | rfl
      · go_wp2
        rw [unhide HP2]
        exact bodyPost_ret (v := .tuple #[.agg #[.int .u8 q, .int .u8 c1, .int .u8 c2, .int .u8 c3, .int .u8 c4], .int .i64 1]) (by simp [results, Try.results69, go_sem]) rfl ⟨q, c1, c2, c3, c4, rfl, by simp, (Below.refl _ _).alloc (Nat.le_refl _) _⟩
      · go_wp2
        rw [unhide HP2]
        exact bodyPost_ret (v := .tuple #[.agg #[.int .u8 c0, .int .u8 q, .int .u8 c2, .int .u8 c3, .int .u8 c4], .int .i64 2]) (by simp [results, Try.results69, go_sem]) rfl ⟨c0, q, c2, c3, c4, rfl, by simp, (Below.refl _ _).alloc (Nat.le_refl _) _⟩
      · go_wp2
        rw [unhide HP2]
        exact bodyPost_ret (v := .tuple #[.agg #[.int .u8 c0, .int .u8 c1, .int .u8 q, .int .u8 c3, .int .u8 c4], .int .i64 3]) (by simp [results, Try.results69, go_sem]) rfl ⟨c0, c1, q, c3, c4, rfl, by simp, (Below.refl _ _).alloc (Nat.le_refl _) _⟩
      · go_wp2
        rw [unhide HP2]
        exact bodyPost_ret (v := .tuple #[.agg #[.int .u8 c0, .int .u8 c1, .int .u8 c2, .int .u8 q, .int .u8 c4], .int .i64 4]) (by simp [results, Try.results69, go_sem]) rfl ⟨c0, c1, c2, q, c4, rfl, by simp, (Below.refl _ _).alloc (Nat.le_refl _) _⟩
      · go_wp2
        rw [unhide HP2]
        exact bodyPost_ret (v := .tuple #[.agg #[.int .u8 c0, .int .u8 c1, .int .u8 c2, .int .u8 c3, .int .u8 q], .int .i64 5]) (by simp [results, Try.results69, go_sem]) rfl ⟨c0, c1, c2, c3, q, rfl, by simp, (Below.refl _ _).alloc (Nat.le_refl _) _⟩
end Go.Proofs.Ytcabolcfoijglaa

/- impl.PutNum answers what the plain function putAll says. -/
namespace Go.Proofs.Ytcabolcfoijglaa
open Go.RowKit
set_option linter.unusedVariables false

theorem Try.arr91 : Try.prog.arrayLen 91 = 5 := by kernel_rfl
theorem Try.elem91 : Try.prog.elem 91 = 5 := by kernel_rfl
theorem slice5 (b k : Nat) (hk : k ≤ 5) (w : World) : (Instr.sliceAt 91 (.pointer (some ⟨b, 0, none⟩)) none (some (.int .i64 (k : Int))) none).run Try.prog w = .ok (.slice (some ⟨b, 0, none⟩) k 5) w := by
  obtain ⟨i0, hi, hz0, hz1, hz2⟩ := info_parts Try.info5
  have h := run_sliceAt_array_h (P := Try.prog) w 91 ⟨b, 0, none⟩ (by kernel_rfl) .i64 (k : Int) (by omega) (by rw [Try.arr91]; omega)
  rw [h, Try.arr91, Try.elem91]
  simp [sizeOf, typeInfo, hi, slicedAt, add_plain]

/-- The first k of five bytes in a new block can be read. -/
theorem byt_five (w : World) (c0 c1 c2 c3 c4 : Int) (k : Nat) (hk : k ≤ 5) (l : List Int) (hl : [c0, c1, c2, c3, c4].take k = l) (hok : okB l) :
    Byt (w.alloc (.cells #[.int .u8 c0, .int .u8 c1, .int .u8 c2, .int .u8 c3, .int .u8 c4] 91)) (.slice (some ⟨w.heap.size, 0, none⟩) k 5) l := by
  have hlen : l.length = k := by rw [← hl]; simp; omega
  by_cases h0 : k = 0
  · subst h0
    have e : l = [] := List.eq_nil_of_length_eq_zero hlen
    subst e
    exact ⟨okB_nil, by simp [maxLen], .inr (.inl ⟨_, 5, rfl, by simp [maxLen], rfl⟩)⟩
  · refine ⟨hok, by unfold maxLen; omega, .inr (.inr ⟨w.heap.size, 0, 5, by rw [hlen], by omega, by simp [maxLen], fun e => by rw [e] at hlen; simp at hlen; omega, by simp, fun i hi => ?_⟩)⟩
    have hi5 : i = 0 ∨ i = 1 ∨ i = 2 ∨ i = 3 ∨ i = 4 := by omega
    have hik : i < k := by omega
    rw [← hl, List.getD_eq_getElem?_getD, List.getElem?_take, if_pos hik]
    rcases hi5 with rfl | rfl | rfl | rfl | rfl <;> simp

set_option maxHeartbeats 1600000 in
theorem putI_out (w : World) (v : Value) (l : List Int) (n : Int) (h : Byt w v l) (hl : l.length ≤ 60000000) (hn : n < 0 ∨ 2147483647 < n) :
    Calls Try.prog 67 #[v, .int .i64 n] w fun e w' => ∃ v', e = .returned v' ∧ Own w' w.heap.size v' l ∧ Below w.heap.size w w' := by
  have hcat := concat_any (w.alloc (.cells #[v] 22)) w.heap.size 0 1 1 [v] [l] rfl (by omega) (by simp) (fun i hi => by obtain rfl : i = 0 := (by omega); simp) (fun i hi => by obtain rfl : i = 0 := (by omega); exact h.alloc _) (by simp [sumLen]; omega)
  obtain ⟨a, c, rfl, _, _⟩ := h.shape
  by_cases hneg : n < 0
  · go_enter Try.func67, Try.ntmps67
    go_wp2_with fail
    refine hcat.mono ?_
    rintro e w1 ⟨v1, rfl, ho1, hB1⟩
    have hb : Below w.heap.size w w1 := bstep ((Below.refl _ _).alloc (Nat.le_refl _) _) hB1
    clear hB1 hcat
    go_wp2
    go_ret
    exact ⟨_, rfl, by simpa using ho1.mono (by simp), hb⟩
  · have h2 : 2147483647 < n := by omega
    have h3 : decide (n < 0) = false := by simpa using hneg
    go_enter Try.func67, Try.ntmps67
    go_wp2_with fail
    refine hcat.mono ?_
    rintro e w1 ⟨v1, rfl, ho1, hB1⟩
    have hb : Below w.heap.size w w1 := bstep ((Below.refl _ _).alloc (Nat.le_refl _) _) hB1
    clear hB1 hcat
    go_wp2
    go_ret
    exact ⟨_, rfl, by simpa using ho1.mono (by simp), hb⟩

set_option maxHeartbeats 1600000 in
theorem putI_in (w : World) (v : Value) (l : List Int) (n : Int) (h : Byt w v l) (hl : l.length ≤ 60000000) (hn0 : 0 ≤ n) (hn1 : n ≤ 2147483647) :
    Calls Try.prog 67 #[v, .int .i64 n] w fun e w' => ∃ v', e = .returned v' ∧ Own w' w.heap.size v' (l ++ putN n) ∧ Below w.heap.size w w' := by
  have h3 : decide (n < 0) = false := by simp; omega
  obtain ⟨a, c, hv, _, _⟩ := h.shape
  subst hv
  go_enter Try.func67, Try.ntmps67
  go_wp2_with fail
  refine (numRow_any w n hn0 hn1).mono ?_
  rintro e w1 ⟨c0, c1, c2, c3, c4, rfl, htk, hB1⟩
  have hp5 := putN_len n
  have hfive := byt_five w1 c0 c1 c2 c3 c4 (putN n).length hp5 (putN n) htk (putN_ok hn0 hn1)
  have hsl := fun wx => slice5 w1.heap.size (putN n).length hp5 wx
  generalize ht : putN n = t at *
  have HT := hide ht
  clear htk ht
  go_wp2_with fail
  refine (concat_any _ (w1.heap.size + 1) 0 2 2 [.slice a l.length c, .slice (some ⟨w1.heap.size, 0, none⟩) t.length 5] [l, t] rfl (by omega) ?c1 ?c2 ?c3 ?c4).mono ?_
  case c1 => simp
  case c2 => 
    intro i hi
    have : i = 0 ∨ i = 1 := by omega
    rcases this with rfl | rfl <;> simp
  case c3 =>
    intro i hi
    have : i = 0 ∨ i = 1 := by omega
    rcases this with rfl | rfl
    · exact ((h.keep hB1).alloc _).alloc _
    · exact hfive.alloc _
  case c4 => simp [sumLen]; omega
  rintro e w2 ⟨v2, rfl, ho2, hB2⟩
  have hb : Below w.heap.size w w2 := bstep ((hB1.alloc hB1.size _).alloc (by have := hB1.size; simp; omega) _) hB2
  have ho3 : Own w2 w.heap.size v2 (l ++ t) := by simpa using ho2.mono (by have := hB1.size; simp; omega)
  clear hB2 ho2 hfive
  go_wp2
  go_ret
  exact ⟨_, rfl, by rw [unhide HT]; exact ho3, hb⟩

/-- impl.PutNum, whatever it is asked. -/
theorem putI_any (w : World) (v : Value) (l : List Int) (n : Int) (h : Byt w v l) (hl : l.length ≤ 60000000) :
    Calls Try.prog 67 #[v, .int .i64 n] w fun e w' => ∃ v', e = .returned v' ∧ Own w' w.heap.size v' (putAll l n) ∧ Below w.heap.size w w' := by
  by_cases hn : n < 0 ∨ 2147483647 < n
  · rw [putAll_out hn]; exact putI_out w v l n h hl hn
  · rw [putAll_in (by omega) (by omega)]; exact putI_in w v l n h hl (by omega) (by omega)

end Go.Proofs.Ytcabolcfoijglaa

/- spec.PutText and impl.PutText answer what the plain function putT says. -/
namespace Go.Proofs.Ytcabolcfoijglaa
open Go.RowKit
set_option linter.unusedVariables false

set_option maxHeartbeats 1600000 in
theorem putTS_any (w : World) (v u : Value) (l t : List Int) (h : Byt w v l) (hu : Byt w u t) (hl : l.length ≤ 60000000) :
    Calls Try.prog 81 #[v, u] w fun e w' => ∃ v', e = .returned v' ∧ Own w' w.heap.size v' (putT l t) ∧ Below w.heap.size w w' := by
  obtain ⟨a, c, rfl, _, _⟩ := hu.shape
  have hm := hu.2.1
  unfold maxLen at hm
  by_cases ht : 30 < t.length
  · have ht' : (30 : Int) < (t.length : Int) := by omega
    have HR := hide (putT_out (l := l) ht)
    go_enter Try.func81, Try.ntmps81
    go_wp2_with (at_builtin; refine wpList_app rfl _ _ rfl w.heap.size _ [] rfl (own_none w) v l rfl (h.alloc _) ?c1 ?c2 ?_)
    case c1 => first | omega | (simp; omega)
    case c2 => simp
    intro v1 w1 ho1 hg1
    have hB1 : Below w.heap.size w w1 := bstepBy ((Below.refl _ _).alloc (Nat.le_refl _) _) hg1 (fun g hg => by simp [Value.ownBlock] at hg; omega)
    clear hg1
    go_wp2
    go_ret
    exact ⟨_, rfl, by rw [unhide HR]; exact ho1, hB1⟩
  · have ht' : ¬ (30 : Int) < (t.length : Int) := by omega
    have HR := hide (putT_in (l := l) ht)
    have hp := putN_len t.length
    have HA := hide (putAll_in (l := l) (n := (t.length : Int)) (by omega) (by omega))
    go_enter Try.func81, Try.ntmps81
    go_wp2_with fail
    refine (putS_any w v l (t.length : Int) h (by omega)).mono ?_
    rintro e w1 ⟨v1, rfl, ho1, hB1⟩
    rw [unhide HA] at ho1
    go_wp2_with (at_builtin; refine wpList_app rfl _ _ rfl w.heap.size _ (l ++ putN t.length) rfl ho1 _ t rfl (hu.keep hB1) ?c1 ?c2 ?_)
    case c1 => first | omega | (simp; omega)
    case c2 => exact hB1.size
    intro v2 w2 ho2 hg2
    have hB2 : Below w.heap.size w w2 := bstepBy hB1 hg2 ho1.base_le
    clear hg2
    go_wp2
    go_ret
    exact ⟨_, rfl, by rw [unhide HR]; first | exact ho2 | (rw [List.append_assoc]; exact ho2), hB2⟩

set_option maxHeartbeats 1600000 in
theorem putTI_any (w : World) (v u : Value) (l t : List Int) (h : Byt w v l) (hu : Byt w u t) (hl : l.length ≤ 60000000) :
    Calls Try.prog 31 #[v, u] w fun e w' => ∃ v', e = .returned v' ∧ Own w' w.heap.size v' (putT l t) ∧ Below w.heap.size w w' := by
  obtain ⟨a', c', rfl, _, _⟩ := h.shape
  obtain ⟨a, c, rfl, _, _⟩ := hu.shape
  have hm := hu.2.1
  unfold maxLen at hm
  by_cases ht : 30 < t.length
  · have ht' : (30 : Int) < (t.length : Int) := by omega
    have HR := hide (putT_out (l := l) ht)
    have hcat := concat_any (w.alloc (.cells #[.slice a' l.length c'] 22)) w.heap.size 0 1 1 [.slice a' l.length c'] [l] rfl (by omega) (by simp) (fun i hi => by obtain rfl : i = 0 := (by omega); simp) (fun i hi => by obtain rfl : i = 0 := (by omega); exact h.alloc _) (by simp [sumLen]; omega)
    go_enter Try.func31, Try.ntmps31
    go_wp2_with fail
    refine hcat.mono ?_
    rintro e w1 ⟨v1, rfl, ho1, hB1⟩
    have hb : Below w.heap.size w w1 := bstep ((Below.refl _ _).alloc (Nat.le_refl _) _) hB1
    clear hB1 hcat
    go_wp2
    go_ret
    exact ⟨_, rfl, by rw [unhide HR]; simpa using ho1.mono (by simp), hb⟩
  · have ht' : ¬ (30 : Int) < (t.length : Int) := by omega
    have HR := hide (putT_in (l := l) ht)
    go_enter Try.func31, Try.ntmps31
    go_wp2_with fail
    refine (numRow_any w (t.length : Int) (by omega) (by omega)).mono ?_
    rintro e w1 ⟨c0, c1, c2, c3, c4, rfl, htk, hB1⟩
    have hp5 := putN_len t.length
    have hfive := byt_five w1 c0 c1 c2 c3 c4 (putN t.length).length hp5 (putN t.length) htk (putN_ok (by omega) (by omega))
    have hsl := fun wx => slice5 w1.heap.size (putN t.length).length hp5 wx
    generalize hs : putN t.length = s at *
    have HS := hide hs
    clear htk hs
    go_wp2_with fail
    refine (concat_any _ (w1.heap.size + 1) 0 3 3 [.slice a' l.length c', .slice (some ⟨w1.heap.size, 0, none⟩) s.length 5, .slice a t.length c] [l, s, t] rfl (by omega) ?c1 ?c2 ?c3 ?c4).mono ?_
    case c1 => simp
    case c2 =>
      intro i hi
      have : i = 0 ∨ i = 1 ∨ i = 2 := by omega
      rcases this with rfl | rfl | rfl <;> simp
    case c3 =>
      intro i hi
      have : i = 0 ∨ i = 1 ∨ i = 2 := by omega
      rcases this with rfl | rfl | rfl
      · exact ((h.keep hB1).alloc _).alloc _
      · exact hfive.alloc _
      · exact ((hu.keep hB1).alloc _).alloc _
    case c4 => simp [sumLen]; omega
    rintro e w2 ⟨v2, rfl, ho2, hB2⟩
    have hb : Below w.heap.size w w2 := bstep ((hB1.alloc hB1.size _).alloc (by have := hB1.size; simp; omega) _) hB2
    have ho3 : Own w2 w.heap.size v2 (l ++ s ++ t) := by simpa using ho2.mono (by have := hB1.size; simp; omega)
    have HO := hide ho3
    clear hB2 ho2 hfive ho3
    go_wp2
    go_ret
    exact ⟨_, rfl, by rw [unhide HR]; exact unhide HO, hb⟩

end Go.Proofs.Ytcabolcfoijglaa

/- spec.l4putId and spec.l4putKey, by their contracts. -/
namespace Go.Proofs.Ytcabolcfoijglaa
open Go.RowKit
set_option linter.unusedVariables false
set_option maxRecDepth 100000

theorem putS_own (w : World) (v : Value) (l : List Int) (n : Int) (h : Byt w v l) (hl : l.length ≤ 60000000) :
    Calls Try.prog 79 #[v, .int .i64 n] w fun e w' => ∃ a c, e = .returned (.slice a (putAll l n).length c) ∧ Own w' w.heap.size (.slice a (putAll l n).length c) (putAll l n) ∧ Below w.heap.size w w' := by
  refine (putS_any w v l n h (by omega)).mono ?_
  rintro e w' ⟨v', rfl, ho, hB⟩
  obtain ⟨a, c, rfl, _, _⟩ := ho.byt.shape
  exact ⟨a, c, rfl, ho, hB⟩

theorem putId_len (l : List Int) (n r : Int) : (putId l n r).length ≤ l.length + 10 := by
  unfold putId
  have := putAll_len (putAll l n) r
  have := putAll_len l n
  omega
theorem putNs_len (l k : List Int) : (putNs l k).length ≤ l.length + 5 * k.length := by
  induction k generalizing l with
  | nil => simp [putNs]
  | cons x k ih =>
    rw [putNs, List.length_cons]
    have := ih (putAll l x)
    have := putAll_len l x
    omega
theorem putKey_len (l k : List Int) : (putKey l k).length ≤ l.length + 5 + 5 * k.length := by
  unfold putKey
  have := putNs_len (putAll l k.length) k
  have := putAll_len l (k.length : Int)
  omega

/-- Put a step further. -/
theorem putNs_step (l k : List Int) (j : Nat) (h : j < k.length) : putNs l (k.take (j + 1)) = putAll (putNs l (k.take j)) (k.getD j 0) := by
  induction k generalizing l j with
  | nil => simp at h
  | cons x k ih =>
    cases j with
    | zero => simp [putNs]
    | succ j =>
      rw [List.take_succ_cons, List.take_succ_cons, putNs, putNs, ih _ j (by simpa using h)]
      simp

set_option maxHeartbeats 3200000 in
theorem putIdS_any (w : World) (v : Value) (l : List Int) (n r : Int) (h : Byt w v l) (hl : l.length ≤ 50000000) :
    Calls Try.prog 78 #[v, .agg #[.int .i64 n, .int .i64 r]] w fun e w' => ∃ a c, e = .returned (.slice a (putId l n r).length c) ∧ Own w' w.heap.size (.slice a (putId l n r).length c) (putId l n r) ∧ Below w.heap.size w w' := by
  have hA := (Below.refl w.heap.size w).alloc (Nat.le_refl _) (.cells #[.int .i64 n, .int .i64 r] 24)
  have l0 := Loc.made w #[.int .i64 n, .int .i64 r] 24
  have hp := putAll_len l n
  have HV := hide (h.keep hA)
  obtain ⟨a, c, rfl, _, _⟩ := h.shape
  clear h
  go_enter Try.func78, Try.ntmps78
  go_wp2_with fail
  generalize (w.alloc (.cells #[.int .i64 n, .int .i64 r] 24)) = w0 at *
  have H1 := hide (fun (W : World) (hW : Below w0.heap.size w0 W) => putS_own W _ l n ((unhide HV).keep hW) (by omega))
  clear HV
  have x0 := l0.cell 0
  have x1 := l0.cell 1
  go_region_held3 (fun w' => w'.cell? ⟨w.heap.size, 0, none⟩ = some (.int .i64 n) ∧ w'.cell? ⟨w.heap.size, 1, none⟩ = some (.int .i64 r))
    (first | exact ⟨by assumption, by assumption⟩ | simp [*])
    (first
      | (go_at_call 79; refine (unhide H1 _ ((Below.refl _ _).drew)).mono ?_; clear H1; rintro e w1 ⟨a1, c1, rfl, ho1, hB1⟩; have hD1 := bstep ((Below.refl w0.heap.size w0).drew) hB1; have x0 := (l0.all hD1).cell 0; have x1 := (l0.all hD1).cell 1)
      | (go_at_call 79; refine (putS_own w1 _ (putAll l n) r ho1.byt (by omega)).mono ?_; rintro e w2 ⟨a2, c2, rfl, ho2, hB2⟩; have hD2 := bstep hD1 hB2; have x0 := (l0.all hD2).cell 0; have x1 := (l0.all hD2).cell 1))
  all_goals
    go_wp2
    go_ret
    exact ⟨a2, c2, rfl, ho2.mono (by have := hA.size; have := hD1.size; omega), bstep hA hD2⟩

set_option maxHeartbeats 3200000 in
theorem putKeyS_any (w : World) (v u : Value) (l k : List Int) (h : Byt w v l) (hu : Ints w u k) (hl : l.length ≤ 20000000) (hk : k.length ≤ 2097152) :
    Calls Try.prog 80 #[v, u] w fun e w' => ∃ a c, e = .returned (.slice a (putKey l k).length c) ∧ Own w' w.heap.size (.slice a (putKey l k).length c) (putKey l k) ∧ Below w.heap.size w w' := by
  have H1 := hide (putS_own w v l (k.length : Int) h (by omega))
  have HU := hide hu
  have hp := putAll_len l (k.length : Int)
  obtain ⟨a, c, rfl, _, _⟩ := h.shape
  obtain ⟨a', c', rfl, _, _⟩ := hu.shape
  clear h hu
  unfold putKey
  generalize putAll l (k.length : Int) = lp at *
  go_enter Try.func80, Try.ntmps80
  go_wp2_with fail
  refine (unhide H1).mono ?_
  clear H1
  rintro e w1 ⟨a1, c1, rfl, ho1, hB1⟩
  go_wp2_with fail
  go_loopw [0, 5] (fun b i wr => ∃ (j : Nat) (a2 : Option Addr) (c2 : Nat), j ≤ k.length ∧ i = .int .i64 j ∧ b = .slice a2 (putNs lp (k.take j)).length c2 ∧ Own wr w.heap.size (.slice a2 (putNs lp (k.take j)).length c2) (putNs lp (k.take j)) ∧ Below w.heap.size w wr) (fun _ i _ => k.length - (intOf i).toNat)
  case atStart => exact ⟨0, a1, c1, Nat.zero_le _, rfl, rfl, ho1, hB1⟩
  case round =>
    obtain ⟨j, a2, c2, hj, rfl, rfl, ho, hB⟩ := hrel
    clear ho1 hB1
    by_cases hlt : j < k.length
    · have HS := hide (putNs_step lp k j hlt)
      have hq := putNs_len lp (k.take j)
      rw [List.length_take, Nat.min_eq_left hj] at hq
      generalize hpt : putNs lp (k.take j) = lj at *
      clear hpt
      have hlt' : (j : Int) < (k.length : Int) := by omega
      obtain ⟨x, hx⟩ : ∃ x, x = k.getD j 0 := ⟨_, rfl⟩
      rw [← hx] at HS
      obtain ⟨hok, hm, ⟨_, e⟩ | ⟨_, _, _, _, e⟩ | ⟨b, off, cap, e, h1, h2, h3, h4, h5⟩⟩ := (unhide HU).keep hB
      · rw [e] at hlt; simp at hlt
      · rw [e] at hlt; simp at hlt
      have e1 : a' = some ⟨b, off, none⟩ := by injection e
      have hcx := h5 j hlt
      rw [← hx] at hcx
      clear hx h5 e HU
      subst e1
      go_wp2_with fail
      refine (putS_own wr _ lj x ho.byt (by omega)).mono ?_
      rintro e w2 ⟨a3, c3, rfl, ho3, hB3⟩
      rw [← unhide HS] at ho3 ⊢
      go_wp2_with fail
      go_roundw
      case rel => exact ⟨j + 1, a3, c3, by omega, by go_num, rfl, ho3.mono hB.size, bstep hB hB3⟩
      case measure => simp [intOf]; omega
    · obtain rfl : j = k.length := by omega
      have HE := hide (show putNs lp (k.take k.length) = putNs lp k by rw [List.take_of_length_le (Nat.le_refl _)])
      rw [unhide HE] at ho ⊢
      clear HE
      go_wp2_with fail
      go_ret
      exact ⟨a2, c2, rfl, ho, hB⟩
end Go.Proofs.Ytcabolcfoijglaa

/- spec.l4bytes and spec.OpBytes tell the bytes of an operation. -/
namespace Go.Proofs.Ytcabolcfoijglaa
open Go.RowKit
set_option linter.unusedVariables false
set_option maxRecDepth 100000

theorem cell_later {w w' : World} (hB : Below w.heap.size w w') {p : Addr} {v : Value} (h : w.cell? p = some v) : w'.cell? p = some v := (hB.cell (lt_of_cell h)).trans h
theorem balloc2 {w w' : World} {o : Obj} (h : Below w.heap.size w w') : Below w.heap.size w (w'.alloc o) := h.alloc h.size o
theorem rw_base {f : FuncId} {args : Array Value} {W : World} {r : List Int} {B : Nat} (h : Calls Try.prog f args W fun e w' => ∃ a c, e = .returned (.slice a r.length c) ∧ Own w' W.heap.size (.slice a r.length c) r ∧ Below W.heap.size W w') (hb : B ≤ W.heap.size) :
    Calls Try.prog f args W fun e w' => ∃ a c, e = .returned (.slice a r.length c) ∧ Own w' B (.slice a r.length c) r ∧ Below W.heap.size W w' :=
  h.mono fun _ _ ⟨a, c, q1, q2, q3⟩ => ⟨a, c, q1, q2.mono hb, q3⟩
theorem own_nil2 (w : World) (base : Nat) : Own w base (.slice none 0 0) [] := ⟨okB_nil, rfl, .inl ⟨rfl, rfl⟩⟩
theorem putTS_own2 (w : World) (v u : Value) (l t : List Int) (h : Byt w v l) (hu : Byt w u t) (hl : l.length ≤ 60000000) :
    Calls Try.prog 81 #[v, u] w fun e w' => ∃ a c, e = .returned (.slice a (putT l t).length c) ∧ Own w' w.heap.size (.slice a (putT l t).length c) (putT l t) ∧ Below w.heap.size w w' := by
  refine (putTS_any w v u l t h hu hl).mono ?_
  rintro e w' ⟨v', rfl, ho, hB⟩
  obtain ⟨a, c, rfl, _, _⟩ := ho.byt.shape
  exact ⟨a, c, rfl, ho, hB⟩

set_option maxHeartbeats 12800000 in
theorem bytesS_0 (w : World) (o : OpV) (a1 a2 a3 : Option Addr) (c1 c2 c3 : Nat) (hk : Ints w (.slice a1 o.key.length c1) o.key) (hn : Byt w (.slice a2 o.name.length c2) o.name) (ht : Byt w (.slice a3 o.text.length c3) o.text) (hs : o.key.length ≤ 2097152) (k0 : o.kind = 0) :
    Calls Try.prog 48 #[opVal o (.slice a1 o.key.length c1) (.slice a2 o.name.length c2) (.slice a3 o.text.length c3)] w fun e w' => ∃ a c, e = .returned (.slice a (opBytes o).length c) ∧ Own w' w.heap.size (.slice a (opBytes o).length c) (opBytes o) ∧ Below w.heap.size w w' := by
  have HK := hide hk
  have HM := hide hn
  have HX := hide ht
  clear hk hn ht
  have Ln : ([] : List Int).length = 0 := rfl
  obtain ⟨r1, e1⟩ : ∃ r, r = putAll ([] : List Int) 0 := ⟨_, rfl⟩
  have L1 := putAll_len ([] : List Int) 0
  have H1 := hide (fun (W : World) (hW : Below w.heap.size w W) (v : Value) (h : Own W w.heap.size v ([] : List Int)) => rw_base (putS_own W v ([] : List Int) 0 h.byt (by omega)) hW.size)
  rw [← e1] at L1 H1
  obtain ⟨r2, e2⟩ : ∃ r, r = putId r1 o.atN o.atR := ⟨_, rfl⟩
  have L2 := putId_len r1 o.atN o.atR
  have H2 := hide (fun (W : World) (hW : Below w.heap.size w W) (v : Value) (h : Own W w.heap.size v r1) => rw_base (putIdS_any W v r1 o.atN o.atR h.byt (by omega)) hW.size)
  rw [← e2] at L2 H2
  obtain ⟨r3, e3⟩ : ∃ r, r = putId r2 o.parN o.parR := ⟨_, rfl⟩
  have L3 := putId_len r2 o.parN o.parR
  have H3 := hide (fun (W : World) (hW : Below w.heap.size w W) (v : Value) (h : Own W w.heap.size v r2) => rw_base (putIdS_any W v r2 o.parN o.parR h.byt (by omega)) hW.size)
  rw [← e3] at L3 H3
  obtain ⟨r4, e4⟩ : ∃ r, r = putKey r3 o.key := ⟨_, rfl⟩
  have L4 := putKey_len r3 o.key
  have H4 := hide (fun (W : World) (hW : Below w.heap.size w W) (v : Value) (h : Own W w.heap.size v r3) => rw_base (putKeyS_any W v _ r3 o.key h.byt ((unhide HK).keep hW) (by omega) (by omega)) hW.size)
  rw [← e4] at L4 H4
  obtain ⟨r5, e5⟩ : ∃ r, r = putAll r4 o.elem := ⟨_, rfl⟩
  have L5 := putAll_len r4 o.elem
  have H5 := hide (fun (W : World) (hW : Below w.heap.size w W) (v : Value) (h : Own W w.heap.size v r4) => rw_base (putS_own W v r4 o.elem h.byt (by omega)) hW.size)
  rw [← e5] at L5 H5
  obtain ⟨r6, e6⟩ : ∃ r, r = putT r5 o.name := ⟨_, rfl⟩
  have L6 := putT_len r5 o.name
  have H6 := hide (fun (W : World) (hW : Below w.heap.size w W) (v : Value) (h : Own W w.heap.size v r5) => rw_base (putTS_own2 W v _ r5 o.name h.byt ((unhide HM).keep hW) (by omega)) hW.size)
  rw [← e6] at L6 H6
  obtain ⟨r7, e7⟩ : ∃ r, r = putT r6 o.text := ⟨_, rfl⟩
  have L7 := putT_len r6 o.text
  have H7 := hide (fun (W : World) (hW : Below w.heap.size w W) (v : Value) (h : Own W w.heap.size v r6) => rw_base (putTS_own2 W v _ r6 o.text h.byt ((unhide HX).keep hW) (by omega)) hW.size)
  rw [← e7] at L7 H7
  have HE := hide (show opBytes o = r7 by unfold opBytes opHd; rw [k0, if_pos rfl]; rw [e7, e6, e5, e4, e3, e2, e1])
  clear e7 L7 e6 L6 e5 L5 e4 L4 e3 L3 e2 L2 e1 L1
  have hA0 : Below w.heap.size w (w.alloc (.cells #[.int .i64 0, .int .i64 o.atN, .int .i64 o.atR, .int .i64 o.nodeN, .int .i64 o.nodeR, .int .i64 o.parN, .int .i64 o.parR, .slice a1 o.key.length c1, .int .i64 o.elem, .slice a2 o.name.length c2, .slice a3 o.text.length c3, .bool o.gone] 27)) := (Below.refl w.heap.size w).alloc (Nat.le_refl _) _
  have l0 := Loc.made w #[.int .i64 0, .int .i64 o.atN, .int .i64 o.atR, .int .i64 o.nodeN, .int .i64 o.nodeR, .int .i64 o.parN, .int .i64 o.parR, .slice a1 o.key.length c1, .int .i64 o.elem, .slice a2 o.name.length c2, .slice a3 o.text.length c3, .bool o.gone] 27
  rw [unhide HE]
  clear HE
  unfold opVal
  rw [k0]
  go_enter Try.func48, Try.ntmps48
  go_wp2_with fail
  generalize (w.alloc (.cells #[.int .i64 0, .int .i64 o.atN, .int .i64 o.atR, .int .i64 o.nodeN, .int .i64 o.nodeR, .int .i64 o.parN, .int .i64 o.parR, .slice a1 o.key.length c1, .int .i64 o.elem, .slice a2 o.name.length c2, .slice a3 o.text.length c3, .bool o.gone] 27)) = w0 at *
  obtain ⟨x0, x1, x2, x3, x4, x5, x6, x7, x8, x9, x10, x11⟩ := l0.twelve
  go_region_held3 (fun w' => w'.cell? ⟨w.heap.size, 0, none⟩ = some (.int .i64 0) ∧ w'.cell? ⟨w.heap.size, 1, none⟩ = some (.int .i64 o.atN) ∧ w'.cell? ⟨w.heap.size, 2, none⟩ = some (.int .i64 o.atR))
    (first | exact ⟨by assumption, by assumption, by assumption⟩ | go_keep)
    (first
      | (go_at_call 79; refine (unhide H1 _ (by repeat (first | exact hA0 | exact Below.refl _ _ | refine balloc2 ?_ | refine Below.drew ?_)) _ (own_nil2 _ _)).mono ?_; clear H1; rintro e w11 ⟨b1, d1, rfl, ho1, hB1⟩; have hA11 := bstep (a := w) (by repeat (first | exact hA0 | exact Below.refl _ _ | refine balloc2 ?_ | refine Below.drew ?_)) hB1; have hD11 := bstep (a := w0) (by repeat (first | exact Below.refl _ _ | exact Below.refl _ _ | refine balloc2 ?_ | refine Below.drew ?_)) hB1; have hY1 := fun p v h => cell_later hB1 (p := p) (v := v) h; obtain ⟨x0, x1, x2, x3, x4, x5, x6, x7, x8, x9, x10, x11⟩ := (l0.all hD11).twelve)
      | (go_at_call 78; refine (unhide H2 _ (by repeat (first | exact hA11 | exact Below.refl _ _ | refine balloc2 ?_ | refine Below.drew ?_)) _ (ho1.keep (by repeat (first | exact Below.refl _ _ | exact Below.refl _ _ | refine balloc2 ?_ | refine Below.drew ?_)))).mono ?_; clear H2; rintro e w12 ⟨b2, d2, rfl, ho2, hB2⟩; have hA12 := bstep (a := w) (by repeat (first | exact hA11 | exact Below.refl _ _ | refine balloc2 ?_ | refine Below.drew ?_)) hB2; have hD12 := bstep (a := w0) (by repeat (first | exact hD11 | exact Below.refl _ _ | refine balloc2 ?_ | refine Below.drew ?_)) hB2; have hY2 := fun p v h => cell_later hB2 (p := p) (v := v) h; obtain ⟨x0, x1, x2, x3, x4, x5, x6, x7, x8, x9, x10, x11⟩ := (l0.all hD12).twelve))
  all_goals
    have l12 := l0.all hD12
    clear x0 x1 x2 x3 x4 x5 x6 x7 x8 x9 x10 x11 hY1 hB1 hD11 hY2 hB2 hD12 ho1 hA11
    obtain ⟨x0, x1, x2, x3, x4, x5, x6, x7, x8, x9, x10, x11⟩ := l12.twelve
    go_wp2_with fail
    clear x0 x1 x2 x3 x4 x5 x6 x7 x8 x9 x10 x11
    obtain ⟨x0, x1, x2, x3, x4, x5, x6, x7, x8, x9, x10, x11⟩ := l12.twelve
    go_region_held3 (fun w' => w'.cell? ⟨w.heap.size, 5, none⟩ = some (.int .i64 o.parN) ∧ w'.cell? ⟨w.heap.size, 6, none⟩ = some (.int .i64 o.parR) ∧ w'.cell? ⟨w.heap.size, 7, none⟩ = some (.slice a1 o.key.length c1))
      (first | exact ⟨by assumption, by assumption, by assumption⟩ | go_keep)
      (first
        | (go_at_call 78; refine (unhide H3 _ (by repeat (first | exact hA12 | exact Below.refl _ _ | refine balloc2 ?_ | refine Below.drew ?_)) _ (ho2.keep (by repeat (first | exact Below.refl _ _ | exact Below.refl _ _ | refine balloc2 ?_ | refine Below.drew ?_)))).mono ?_; clear H3; rintro e w13 ⟨b3, d3, rfl, ho3, hB3⟩; have hA13 := bstep (a := w) (by repeat (first | exact hA12 | exact Below.refl _ _ | refine balloc2 ?_ | refine Below.drew ?_)) hB3; have hD13 := bstep (a := w12) (by repeat (first | exact Below.refl _ _ | exact Below.refl _ _ | refine balloc2 ?_ | refine Below.drew ?_)) hB3; have hY3 := fun p v h => cell_later hB3 (p := p) (v := v) h; obtain ⟨x0, x1, x2, x3, x4, x5, x6, x7, x8, x9, x10, x11⟩ := (l12.all hD13).twelve)
        | (go_at_call 80; refine (unhide H4 _ (by repeat (first | exact hA13 | exact Below.refl _ _ | refine balloc2 ?_ | refine Below.drew ?_)) _ (ho3.keep (by repeat (first | exact Below.refl _ _ | exact Below.refl _ _ | refine balloc2 ?_ | refine Below.drew ?_)))).mono ?_; clear H4; rintro e w14 ⟨b4, d4, rfl, ho4, hB4⟩; have hA14 := bstep (a := w) (by repeat (first | exact hA13 | exact Below.refl _ _ | refine balloc2 ?_ | refine Below.drew ?_)) hB4; have hD14 := bstep (a := w12) (by repeat (first | exact hD13 | exact Below.refl _ _ | refine balloc2 ?_ | refine Below.drew ?_)) hB4; have hY4 := fun p v h => cell_later hB4 (p := p) (v := v) h; obtain ⟨x0, x1, x2, x3, x4, x5, x6, x7, x8, x9, x10, x11⟩ := (l12.all hD14).twelve))
    all_goals
      have l14 := l12.all hD14
      clear x0 x1 x2 x3 x4 x5 x6 x7 x8 x9 x10 x11 hY3 hB3 hD13 hY4 hB4 hD14 ho3 hA13
      obtain ⟨x0, x1, x2, x3, x4, x5, x6, x7, x8, x9, x10, x11⟩ := l14.twelve
      go_wp2_with fail
      clear x0 x1 x2 x3 x4 x5 x6 x7 x8 x9 x10 x11
      obtain ⟨x0, x1, x2, x3, x4, x5, x6, x7, x8, x9, x10, x11⟩ := l14.twelve
      go_region_held3 (fun w' => w'.cell? ⟨w.heap.size, 8, none⟩ = some (.int .i64 o.elem) ∧ w'.cell? ⟨w.heap.size, 9, none⟩ = some (.slice a2 o.name.length c2) ∧ w'.cell? ⟨w.heap.size, 10, none⟩ = some (.slice a3 o.text.length c3))
        (first | exact ⟨by assumption, by assumption, by assumption⟩ | go_keep)
        (first
          | (go_at_call 79; refine (unhide H5 _ (by repeat (first | exact hA14 | exact Below.refl _ _ | refine balloc2 ?_ | refine Below.drew ?_)) _ (ho4.keep (by repeat (first | exact Below.refl _ _ | exact Below.refl _ _ | refine balloc2 ?_ | refine Below.drew ?_)))).mono ?_; clear H5; rintro e w15 ⟨b5, d5, rfl, ho5, hB5⟩; have hA15 := bstep (a := w) (by repeat (first | exact hA14 | exact Below.refl _ _ | refine balloc2 ?_ | refine Below.drew ?_)) hB5; have hD15 := bstep (a := w14) (by repeat (first | exact Below.refl _ _ | exact Below.refl _ _ | refine balloc2 ?_ | refine Below.drew ?_)) hB5; have hY5 := fun p v h => cell_later hB5 (p := p) (v := v) h; obtain ⟨x0, x1, x2, x3, x4, x5, x6, x7, x8, x9, x10, x11⟩ := (l14.all hD15).twelve)
          | (go_at_call 81; refine (unhide H6 _ (by repeat (first | exact hA15 | exact Below.refl _ _ | refine balloc2 ?_ | refine Below.drew ?_)) _ (ho5.keep (by repeat (first | exact Below.refl _ _ | exact Below.refl _ _ | refine balloc2 ?_ | refine Below.drew ?_)))).mono ?_; clear H6; rintro e w16 ⟨b6, d6, rfl, ho6, hB6⟩; have hA16 := bstep (a := w) (by repeat (first | exact hA15 | exact Below.refl _ _ | refine balloc2 ?_ | refine Below.drew ?_)) hB6; have hD16 := bstep (a := w14) (by repeat (first | exact hD15 | exact Below.refl _ _ | refine balloc2 ?_ | refine Below.drew ?_)) hB6; have hY6 := fun p v h => cell_later hB6 (p := p) (v := v) h; obtain ⟨x0, x1, x2, x3, x4, x5, x6, x7, x8, x9, x10, x11⟩ := (l14.all hD16).twelve)
          | (go_at_call 81; refine (unhide H7 _ (by repeat (first | exact hA16 | exact Below.refl _ _ | refine balloc2 ?_ | refine Below.drew ?_)) _ (ho6.keep (by repeat (first | exact Below.refl _ _ | exact Below.refl _ _ | refine balloc2 ?_ | refine Below.drew ?_)))).mono ?_; clear H7; rintro e w17 ⟨b7, d7, rfl, ho7, hB7⟩; have hA17 := bstep (a := w) (by repeat (first | exact hA16 | exact Below.refl _ _ | refine balloc2 ?_ | refine Below.drew ?_)) hB7; have hD17 := bstep (a := w14) (by repeat (first | exact hD16 | exact Below.refl _ _ | refine balloc2 ?_ | refine Below.drew ?_)) hB7; have hY7 := fun p v h => cell_later hB7 (p := p) (v := v) h; obtain ⟨x0, x1, x2, x3, x4, x5, x6, x7, x8, x9, x10, x11⟩ := (l14.all hD17).twelve))
      all_goals
        have l17 := l14.all hD17
        clear x0 x1 x2 x3 x4 x5 x6 x7 x8 x9 x10 x11 hY5 hB5 hD15 hY6 hB6 hD16 hY7 hB7 hD17 ho5 ho6 hA15 hA16
        obtain ⟨x0, x1, x2, x3, x4, x5, x6, x7, x8, x9, x10, x11⟩ := l17.twelve
        go_wp2_with fail
        clear x0 x1 x2 x3 x4 x5 x6 x7 x8 x9 x10 x11
        go_ret
        exact ⟨b7, d7, rfl, ho7, hA17⟩

set_option maxHeartbeats 12800000 in
theorem bytesS_1 (w : World) (o : OpV) (a1 a2 a3 : Option Addr) (c1 c2 c3 : Nat) (hk : Ints w (.slice a1 o.key.length c1) o.key) (hn : Byt w (.slice a2 o.name.length c2) o.name) (ht : Byt w (.slice a3 o.text.length c3) o.text) (hs : o.key.length ≤ 2097152) (k0 : o.kind = 1) :
    Calls Try.prog 48 #[opVal o (.slice a1 o.key.length c1) (.slice a2 o.name.length c2) (.slice a3 o.text.length c3)] w fun e w' => ∃ a c, e = .returned (.slice a (opBytes o).length c) ∧ Own w' w.heap.size (.slice a (opBytes o).length c) (opBytes o) ∧ Below w.heap.size w w' := by
  have HK := hide hk
  have HM := hide hn
  have HX := hide ht
  clear hk hn ht
  have Ln : ([] : List Int).length = 0 := rfl
  obtain ⟨r1, e1⟩ : ∃ r, r = putAll ([] : List Int) 1 := ⟨_, rfl⟩
  have L1 := putAll_len ([] : List Int) 1
  have H1 := hide (fun (W : World) (hW : Below w.heap.size w W) (v : Value) (h : Own W w.heap.size v ([] : List Int)) => rw_base (putS_own W v ([] : List Int) 1 h.byt (by omega)) hW.size)
  rw [← e1] at L1 H1
  obtain ⟨r2, e2⟩ : ∃ r, r = putId r1 o.atN o.atR := ⟨_, rfl⟩
  have L2 := putId_len r1 o.atN o.atR
  have H2 := hide (fun (W : World) (hW : Below w.heap.size w W) (v : Value) (h : Own W w.heap.size v r1) => rw_base (putIdS_any W v r1 o.atN o.atR h.byt (by omega)) hW.size)
  rw [← e2] at L2 H2
  obtain ⟨r3, e3⟩ : ∃ r, r = putId r2 o.nodeN o.nodeR := ⟨_, rfl⟩
  have L3 := putId_len r2 o.nodeN o.nodeR
  have H3 := hide (fun (W : World) (hW : Below w.heap.size w W) (v : Value) (h : Own W w.heap.size v r2) => rw_base (putIdS_any W v r2 o.nodeN o.nodeR h.byt (by omega)) hW.size)
  rw [← e3] at L3 H3
  obtain ⟨r4, e4⟩ : ∃ r, r = putId r3 o.parN o.parR := ⟨_, rfl⟩
  have L4 := putId_len r3 o.parN o.parR
  have H4 := hide (fun (W : World) (hW : Below w.heap.size w W) (v : Value) (h : Own W w.heap.size v r3) => rw_base (putIdS_any W v r3 o.parN o.parR h.byt (by omega)) hW.size)
  rw [← e4] at L4 H4
  obtain ⟨r5, e5⟩ : ∃ r, r = putKey r4 o.key := ⟨_, rfl⟩
  have L5 := putKey_len r4 o.key
  have H5 := hide (fun (W : World) (hW : Below w.heap.size w W) (v : Value) (h : Own W w.heap.size v r4) => rw_base (putKeyS_any W v _ r4 o.key h.byt ((unhide HK).keep hW) (by omega) (by omega)) hW.size)
  rw [← e5] at L5 H5
  have HE := hide (show opBytes o = r5 by unfold opBytes opHd; rw [k0, if_neg (by decide), if_pos rfl]; rw [e5, e4, e3, e2, e1])
  clear e5 L5 e4 L4 e3 L3 e2 L2 e1 L1
  have hA0 : Below w.heap.size w (w.alloc (.cells #[.int .i64 1, .int .i64 o.atN, .int .i64 o.atR, .int .i64 o.nodeN, .int .i64 o.nodeR, .int .i64 o.parN, .int .i64 o.parR, .slice a1 o.key.length c1, .int .i64 o.elem, .slice a2 o.name.length c2, .slice a3 o.text.length c3, .bool o.gone] 27)) := (Below.refl w.heap.size w).alloc (Nat.le_refl _) _
  have l0 := Loc.made w #[.int .i64 1, .int .i64 o.atN, .int .i64 o.atR, .int .i64 o.nodeN, .int .i64 o.nodeR, .int .i64 o.parN, .int .i64 o.parR, .slice a1 o.key.length c1, .int .i64 o.elem, .slice a2 o.name.length c2, .slice a3 o.text.length c3, .bool o.gone] 27
  rw [unhide HE]
  clear HE
  unfold opVal
  rw [k0]
  go_enter Try.func48, Try.ntmps48
  go_wp2_with fail
  generalize (w.alloc (.cells #[.int .i64 1, .int .i64 o.atN, .int .i64 o.atR, .int .i64 o.nodeN, .int .i64 o.nodeR, .int .i64 o.parN, .int .i64 o.parR, .slice a1 o.key.length c1, .int .i64 o.elem, .slice a2 o.name.length c2, .slice a3 o.text.length c3, .bool o.gone] 27)) = w0 at *
  obtain ⟨x0, x1, x2, x3, x4, x5, x6, x7, x8, x9, x10, x11⟩ := l0.twelve
  go_region_held3 (fun w' => w'.cell? ⟨w.heap.size, 0, none⟩ = some (.int .i64 1) ∧ w'.cell? ⟨w.heap.size, 1, none⟩ = some (.int .i64 o.atN) ∧ w'.cell? ⟨w.heap.size, 2, none⟩ = some (.int .i64 o.atR))
    (first | exact ⟨by assumption, by assumption, by assumption⟩ | go_keep)
    (first
      | (go_at_call 79; refine (unhide H1 _ (by repeat (first | exact hA0 | exact Below.refl _ _ | refine balloc2 ?_ | refine Below.drew ?_)) _ (own_nil2 _ _)).mono ?_; clear H1; rintro e w11 ⟨b1, d1, rfl, ho1, hB1⟩; have hA11 := bstep (a := w) (by repeat (first | exact hA0 | exact Below.refl _ _ | refine balloc2 ?_ | refine Below.drew ?_)) hB1; have hD11 := bstep (a := w0) (by repeat (first | exact Below.refl _ _ | exact Below.refl _ _ | refine balloc2 ?_ | refine Below.drew ?_)) hB1; have hY1 := fun p v h => cell_later hB1 (p := p) (v := v) h; obtain ⟨x0, x1, x2, x3, x4, x5, x6, x7, x8, x9, x10, x11⟩ := (l0.all hD11).twelve)
      | (go_at_call 78; refine (unhide H2 _ (by repeat (first | exact hA11 | exact Below.refl _ _ | refine balloc2 ?_ | refine Below.drew ?_)) _ (ho1.keep (by repeat (first | exact Below.refl _ _ | exact Below.refl _ _ | refine balloc2 ?_ | refine Below.drew ?_)))).mono ?_; clear H2; rintro e w12 ⟨b2, d2, rfl, ho2, hB2⟩; have hA12 := bstep (a := w) (by repeat (first | exact hA11 | exact Below.refl _ _ | refine balloc2 ?_ | refine Below.drew ?_)) hB2; have hD12 := bstep (a := w0) (by repeat (first | exact hD11 | exact Below.refl _ _ | refine balloc2 ?_ | refine Below.drew ?_)) hB2; have hY2 := fun p v h => cell_later hB2 (p := p) (v := v) h; obtain ⟨x0, x1, x2, x3, x4, x5, x6, x7, x8, x9, x10, x11⟩ := (l0.all hD12).twelve))
  all_goals
    have l12 := l0.all hD12
    clear x0 x1 x2 x3 x4 x5 x6 x7 x8 x9 x10 x11 hY1 hB1 hD11 hY2 hB2 hD12 ho1 hA11
    obtain ⟨x0, x1, x2, x3, x4, x5, x6, x7, x8, x9, x10, x11⟩ := l12.twelve
    go_wp2_with fail
    clear x0 x1 x2 x3 x4 x5 x6 x7 x8 x9 x10 x11
    obtain ⟨x0, x1, x2, x3, x4, x5, x6, x7, x8, x9, x10, x11⟩ := l12.twelve
    go_region_held3 (fun w' => w'.cell? ⟨w.heap.size, 3, none⟩ = some (.int .i64 o.nodeN) ∧ w'.cell? ⟨w.heap.size, 4, none⟩ = some (.int .i64 o.nodeR) ∧ w'.cell? ⟨w.heap.size, 5, none⟩ = some (.int .i64 o.parN) ∧ w'.cell? ⟨w.heap.size, 6, none⟩ = some (.int .i64 o.parR) ∧ w'.cell? ⟨w.heap.size, 7, none⟩ = some (.slice a1 o.key.length c1))
      (first | exact ⟨by assumption, by assumption, by assumption, by assumption, by assumption⟩ | go_keep)
      (first
        | (go_at_call 78; refine (unhide H3 _ (by repeat (first | exact hA12 | exact Below.refl _ _ | refine balloc2 ?_ | refine Below.drew ?_)) _ (ho2.keep (by repeat (first | exact Below.refl _ _ | exact Below.refl _ _ | refine balloc2 ?_ | refine Below.drew ?_)))).mono ?_; clear H3; rintro e w13 ⟨b3, d3, rfl, ho3, hB3⟩; have hA13 := bstep (a := w) (by repeat (first | exact hA12 | exact Below.refl _ _ | refine balloc2 ?_ | refine Below.drew ?_)) hB3; have hD13 := bstep (a := w12) (by repeat (first | exact Below.refl _ _ | exact Below.refl _ _ | refine balloc2 ?_ | refine Below.drew ?_)) hB3; have hY3 := fun p v h => cell_later hB3 (p := p) (v := v) h; obtain ⟨x0, x1, x2, x3, x4, x5, x6, x7, x8, x9, x10, x11⟩ := (l12.all hD13).twelve)
        | (go_at_call 78; refine (unhide H4 _ (by repeat (first | exact hA13 | exact Below.refl _ _ | refine balloc2 ?_ | refine Below.drew ?_)) _ (ho3.keep (by repeat (first | exact Below.refl _ _ | exact Below.refl _ _ | refine balloc2 ?_ | refine Below.drew ?_)))).mono ?_; clear H4; rintro e w14 ⟨b4, d4, rfl, ho4, hB4⟩; have hA14 := bstep (a := w) (by repeat (first | exact hA13 | exact Below.refl _ _ | refine balloc2 ?_ | refine Below.drew ?_)) hB4; have hD14 := bstep (a := w12) (by repeat (first | exact hD13 | exact Below.refl _ _ | refine balloc2 ?_ | refine Below.drew ?_)) hB4; have hY4 := fun p v h => cell_later hB4 (p := p) (v := v) h; obtain ⟨x0, x1, x2, x3, x4, x5, x6, x7, x8, x9, x10, x11⟩ := (l12.all hD14).twelve)
        | (go_at_call 80; refine (unhide H5 _ (by repeat (first | exact hA14 | exact Below.refl _ _ | refine balloc2 ?_ | refine Below.drew ?_)) _ (ho4.keep (by repeat (first | exact Below.refl _ _ | exact Below.refl _ _ | refine balloc2 ?_ | refine Below.drew ?_)))).mono ?_; clear H5; rintro e w15 ⟨b5, d5, rfl, ho5, hB5⟩; have hA15 := bstep (a := w) (by repeat (first | exact hA14 | exact Below.refl _ _ | refine balloc2 ?_ | refine Below.drew ?_)) hB5; have hD15 := bstep (a := w12) (by repeat (first | exact hD14 | exact Below.refl _ _ | refine balloc2 ?_ | refine Below.drew ?_)) hB5; have hY5 := fun p v h => cell_later hB5 (p := p) (v := v) h; obtain ⟨x0, x1, x2, x3, x4, x5, x6, x7, x8, x9, x10, x11⟩ := (l12.all hD15).twelve))
    all_goals
      have l15 := l12.all hD15
      clear x0 x1 x2 x3 x4 x5 x6 x7 x8 x9 x10 x11 hY3 hB3 hD13 hY4 hB4 hD14 hY5 hB5 hD15 ho3 ho4 hA13 hA14
      obtain ⟨x0, x1, x2, x3, x4, x5, x6, x7, x8, x9, x10, x11⟩ := l15.twelve
      go_wp2_with fail
      clear x0 x1 x2 x3 x4 x5 x6 x7 x8 x9 x10 x11
      go_ret
      exact ⟨b5, d5, rfl, ho5, hA15⟩

set_option maxHeartbeats 12800000 in
theorem bytesS_2 (w : World) (o : OpV) (a1 a2 a3 : Option Addr) (c1 c2 c3 : Nat) (hk : Ints w (.slice a1 o.key.length c1) o.key) (hn : Byt w (.slice a2 o.name.length c2) o.name) (ht : Byt w (.slice a3 o.text.length c3) o.text) (hs : o.key.length ≤ 2097152) (k0 : o.kind = 2) :
    Calls Try.prog 48 #[opVal o (.slice a1 o.key.length c1) (.slice a2 o.name.length c2) (.slice a3 o.text.length c3)] w fun e w' => ∃ a c, e = .returned (.slice a (opBytes o).length c) ∧ Own w' w.heap.size (.slice a (opBytes o).length c) (opBytes o) ∧ Below w.heap.size w w' := by
  have HK := hide hk
  have HM := hide hn
  have HX := hide ht
  clear hk hn ht
  have Ln : ([] : List Int).length = 0 := rfl
  obtain ⟨r1, e1⟩ : ∃ r, r = putAll ([] : List Int) 2 := ⟨_, rfl⟩
  have L1 := putAll_len ([] : List Int) 2
  have H1 := hide (fun (W : World) (hW : Below w.heap.size w W) (v : Value) (h : Own W w.heap.size v ([] : List Int)) => rw_base (putS_own W v ([] : List Int) 2 h.byt (by omega)) hW.size)
  rw [← e1] at L1 H1
  obtain ⟨r2, e2⟩ : ∃ r, r = putId r1 o.atN o.atR := ⟨_, rfl⟩
  have L2 := putId_len r1 o.atN o.atR
  have H2 := hide (fun (W : World) (hW : Below w.heap.size w W) (v : Value) (h : Own W w.heap.size v r1) => rw_base (putIdS_any W v r1 o.atN o.atR h.byt (by omega)) hW.size)
  rw [← e2] at L2 H2
  obtain ⟨r3, e3⟩ : ∃ r, r = putId r2 o.nodeN o.nodeR := ⟨_, rfl⟩
  have L3 := putId_len r2 o.nodeN o.nodeR
  have H3 := hide (fun (W : World) (hW : Below w.heap.size w W) (v : Value) (h : Own W w.heap.size v r2) => rw_base (putIdS_any W v r2 o.nodeN o.nodeR h.byt (by omega)) hW.size)
  rw [← e3] at L3 H3
  obtain ⟨r4, e4⟩ : ∃ r, r = putT r3 o.text := ⟨_, rfl⟩
  have L4 := putT_len r3 o.text
  have H4 := hide (fun (W : World) (hW : Below w.heap.size w W) (v : Value) (h : Own W w.heap.size v r3) => rw_base (putTS_own2 W v _ r3 o.text h.byt ((unhide HX).keep hW) (by omega)) hW.size)
  rw [← e4] at L4 H4
  have HE := hide (show opBytes o = r4 by unfold opBytes opHd; rw [k0, if_neg (by decide), if_neg (by decide), if_pos rfl]; rw [e4, e3, e2, e1])
  clear e4 L4 e3 L3 e2 L2 e1 L1
  have hA0 : Below w.heap.size w (w.alloc (.cells #[.int .i64 2, .int .i64 o.atN, .int .i64 o.atR, .int .i64 o.nodeN, .int .i64 o.nodeR, .int .i64 o.parN, .int .i64 o.parR, .slice a1 o.key.length c1, .int .i64 o.elem, .slice a2 o.name.length c2, .slice a3 o.text.length c3, .bool o.gone] 27)) := (Below.refl w.heap.size w).alloc (Nat.le_refl _) _
  have l0 := Loc.made w #[.int .i64 2, .int .i64 o.atN, .int .i64 o.atR, .int .i64 o.nodeN, .int .i64 o.nodeR, .int .i64 o.parN, .int .i64 o.parR, .slice a1 o.key.length c1, .int .i64 o.elem, .slice a2 o.name.length c2, .slice a3 o.text.length c3, .bool o.gone] 27
  rw [unhide HE]
  clear HE
  unfold opVal
  rw [k0]
  go_enter Try.func48, Try.ntmps48
  go_wp2_with fail
  generalize (w.alloc (.cells #[.int .i64 2, .int .i64 o.atN, .int .i64 o.atR, .int .i64 o.nodeN, .int .i64 o.nodeR, .int .i64 o.parN, .int .i64 o.parR, .slice a1 o.key.length c1, .int .i64 o.elem, .slice a2 o.name.length c2, .slice a3 o.text.length c3, .bool o.gone] 27)) = w0 at *
  obtain ⟨x0, x1, x2, x3, x4, x5, x6, x7, x8, x9, x10, x11⟩ := l0.twelve
  go_region_held3 (fun w' => w'.cell? ⟨w.heap.size, 0, none⟩ = some (.int .i64 2) ∧ w'.cell? ⟨w.heap.size, 1, none⟩ = some (.int .i64 o.atN) ∧ w'.cell? ⟨w.heap.size, 2, none⟩ = some (.int .i64 o.atR))
    (first | exact ⟨by assumption, by assumption, by assumption⟩ | go_keep)
    (first
      | (go_at_call 79; refine (unhide H1 _ (by repeat (first | exact hA0 | exact Below.refl _ _ | refine balloc2 ?_ | refine Below.drew ?_)) _ (own_nil2 _ _)).mono ?_; clear H1; rintro e w11 ⟨b1, d1, rfl, ho1, hB1⟩; have hA11 := bstep (a := w) (by repeat (first | exact hA0 | exact Below.refl _ _ | refine balloc2 ?_ | refine Below.drew ?_)) hB1; have hD11 := bstep (a := w0) (by repeat (first | exact Below.refl _ _ | exact Below.refl _ _ | refine balloc2 ?_ | refine Below.drew ?_)) hB1; have hY1 := fun p v h => cell_later hB1 (p := p) (v := v) h; obtain ⟨x0, x1, x2, x3, x4, x5, x6, x7, x8, x9, x10, x11⟩ := (l0.all hD11).twelve)
      | (go_at_call 78; refine (unhide H2 _ (by repeat (first | exact hA11 | exact Below.refl _ _ | refine balloc2 ?_ | refine Below.drew ?_)) _ (ho1.keep (by repeat (first | exact Below.refl _ _ | exact Below.refl _ _ | refine balloc2 ?_ | refine Below.drew ?_)))).mono ?_; clear H2; rintro e w12 ⟨b2, d2, rfl, ho2, hB2⟩; have hA12 := bstep (a := w) (by repeat (first | exact hA11 | exact Below.refl _ _ | refine balloc2 ?_ | refine Below.drew ?_)) hB2; have hD12 := bstep (a := w0) (by repeat (first | exact hD11 | exact Below.refl _ _ | refine balloc2 ?_ | refine Below.drew ?_)) hB2; have hY2 := fun p v h => cell_later hB2 (p := p) (v := v) h; obtain ⟨x0, x1, x2, x3, x4, x5, x6, x7, x8, x9, x10, x11⟩ := (l0.all hD12).twelve))
  all_goals
    have l12 := l0.all hD12
    clear x0 x1 x2 x3 x4 x5 x6 x7 x8 x9 x10 x11 hY1 hB1 hD11 hY2 hB2 hD12 ho1 hA11
    obtain ⟨x0, x1, x2, x3, x4, x5, x6, x7, x8, x9, x10, x11⟩ := l12.twelve
    go_wp2_with fail
    clear x0 x1 x2 x3 x4 x5 x6 x7 x8 x9 x10 x11
    obtain ⟨x0, x1, x2, x3, x4, x5, x6, x7, x8, x9, x10, x11⟩ := l12.twelve
    go_region_held3 (fun w' => w'.cell? ⟨w.heap.size, 3, none⟩ = some (.int .i64 o.nodeN) ∧ w'.cell? ⟨w.heap.size, 4, none⟩ = some (.int .i64 o.nodeR) ∧ w'.cell? ⟨w.heap.size, 10, none⟩ = some (.slice a3 o.text.length c3))
      (first | exact ⟨by assumption, by assumption, by assumption⟩ | go_keep)
      (first
        | (go_at_call 78; refine (unhide H3 _ (by repeat (first | exact hA12 | exact Below.refl _ _ | refine balloc2 ?_ | refine Below.drew ?_)) _ (ho2.keep (by repeat (first | exact Below.refl _ _ | exact Below.refl _ _ | refine balloc2 ?_ | refine Below.drew ?_)))).mono ?_; clear H3; rintro e w13 ⟨b3, d3, rfl, ho3, hB3⟩; have hA13 := bstep (a := w) (by repeat (first | exact hA12 | exact Below.refl _ _ | refine balloc2 ?_ | refine Below.drew ?_)) hB3; have hD13 := bstep (a := w12) (by repeat (first | exact Below.refl _ _ | exact Below.refl _ _ | refine balloc2 ?_ | refine Below.drew ?_)) hB3; have hY3 := fun p v h => cell_later hB3 (p := p) (v := v) h; obtain ⟨x0, x1, x2, x3, x4, x5, x6, x7, x8, x9, x10, x11⟩ := (l12.all hD13).twelve)
        | (go_at_call 81; refine (unhide H4 _ (by repeat (first | exact hA13 | exact Below.refl _ _ | refine balloc2 ?_ | refine Below.drew ?_)) _ (ho3.keep (by repeat (first | exact Below.refl _ _ | exact Below.refl _ _ | refine balloc2 ?_ | refine Below.drew ?_)))).mono ?_; clear H4; rintro e w14 ⟨b4, d4, rfl, ho4, hB4⟩; have hA14 := bstep (a := w) (by repeat (first | exact hA13 | exact Below.refl _ _ | refine balloc2 ?_ | refine Below.drew ?_)) hB4; have hD14 := bstep (a := w12) (by repeat (first | exact hD13 | exact Below.refl _ _ | refine balloc2 ?_ | refine Below.drew ?_)) hB4; have hY4 := fun p v h => cell_later hB4 (p := p) (v := v) h; obtain ⟨x0, x1, x2, x3, x4, x5, x6, x7, x8, x9, x10, x11⟩ := (l12.all hD14).twelve))
    all_goals
      have l14 := l12.all hD14
      clear x0 x1 x2 x3 x4 x5 x6 x7 x8 x9 x10 x11 hY3 hB3 hD13 hY4 hB4 hD14 ho3 hA13
      obtain ⟨x0, x1, x2, x3, x4, x5, x6, x7, x8, x9, x10, x11⟩ := l14.twelve
      go_wp2_with fail
      clear x0 x1 x2 x3 x4 x5 x6 x7 x8 x9 x10 x11
      go_ret
      exact ⟨b4, d4, rfl, ho4, hA14⟩

set_option maxHeartbeats 12800000 in
theorem bytesS_g (w : World) (o : OpV) (a1 a2 a3 : Option Addr) (c1 c2 c3 : Nat) (hk : Ints w (.slice a1 o.key.length c1) o.key) (hn : Byt w (.slice a2 o.name.length c2) o.name) (ht : Byt w (.slice a3 o.text.length c3) o.text) (hs : o.key.length ≤ 2097152) (k0 : o.kind ≠ 0) (k1 : o.kind ≠ 1) (k2 : o.kind ≠ 2) (hg : o.gone = true) :
    Calls Try.prog 48 #[opVal o (.slice a1 o.key.length c1) (.slice a2 o.name.length c2) (.slice a3 o.text.length c3)] w fun e w' => ∃ a c, e = .returned (.slice a (opBytes o).length c) ∧ Own w' w.heap.size (.slice a (opBytes o).length c) (opBytes o) ∧ Below w.heap.size w w' := by
  have HK := hide hk
  have HM := hide hn
  have HX := hide ht
  clear hk hn ht
  have Ln : ([] : List Int).length = 0 := rfl
  obtain ⟨r1, e1⟩ : ∃ r, r = putAll ([] : List Int) o.kind := ⟨_, rfl⟩
  have L1 := putAll_len ([] : List Int) o.kind
  have H1 := hide (fun (W : World) (hW : Below w.heap.size w W) (v : Value) (h : Own W w.heap.size v ([] : List Int)) => rw_base (putS_own W v ([] : List Int) o.kind h.byt (by omega)) hW.size)
  rw [← e1] at L1 H1
  obtain ⟨r2, e2⟩ : ∃ r, r = putId r1 o.atN o.atR := ⟨_, rfl⟩
  have L2 := putId_len r1 o.atN o.atR
  have H2 := hide (fun (W : World) (hW : Below w.heap.size w W) (v : Value) (h : Own W w.heap.size v r1) => rw_base (putIdS_any W v r1 o.atN o.atR h.byt (by omega)) hW.size)
  rw [← e2] at L2 H2
  obtain ⟨r3, e3⟩ : ∃ r, r = putId r2 o.nodeN o.nodeR := ⟨_, rfl⟩
  have L3 := putId_len r2 o.nodeN o.nodeR
  have H3 := hide (fun (W : World) (hW : Below w.heap.size w W) (v : Value) (h : Own W w.heap.size v r2) => rw_base (putIdS_any W v r2 o.nodeN o.nodeR h.byt (by omega)) hW.size)
  rw [← e3] at L3 H3
  obtain ⟨r4, e4⟩ : ∃ r, r = putT r3 o.name := ⟨_, rfl⟩
  have L4 := putT_len r3 o.name
  have H4 := hide (fun (W : World) (hW : Below w.heap.size w W) (v : Value) (h : Own W w.heap.size v r3) => rw_base (putTS_own2 W v _ r3 o.name h.byt ((unhide HM).keep hW) (by omega)) hW.size)
  rw [← e4] at L4 H4
  obtain ⟨r5, e5⟩ : ∃ r, r = putAll r4 1 := ⟨_, rfl⟩
  have L5 := putAll_len r4 1
  have H5 := hide (fun (W : World) (hW : Below w.heap.size w W) (v : Value) (h : Own W w.heap.size v r4) => rw_base (putS_own W v r4 1 h.byt (by omega)) hW.size)
  rw [← e5] at L5 H5
  have HE := hide (show opBytes o = r5 by unfold opBytes opHd; rw [if_neg k0, if_neg k1, if_neg k2, if_pos hg]; rw [e5, e4, e3, e2, e1])
  clear e5 L5 e4 L4 e3 L3 e2 L2 e1 L1
  have hA0 : Below w.heap.size w (w.alloc (.cells #[.int .i64 o.kind, .int .i64 o.atN, .int .i64 o.atR, .int .i64 o.nodeN, .int .i64 o.nodeR, .int .i64 o.parN, .int .i64 o.parR, .slice a1 o.key.length c1, .int .i64 o.elem, .slice a2 o.name.length c2, .slice a3 o.text.length c3, .bool o.gone] 27)) := (Below.refl w.heap.size w).alloc (Nat.le_refl _) _
  have l0 := Loc.made w #[.int .i64 o.kind, .int .i64 o.atN, .int .i64 o.atR, .int .i64 o.nodeN, .int .i64 o.nodeR, .int .i64 o.parN, .int .i64 o.parR, .slice a1 o.key.length c1, .int .i64 o.elem, .slice a2 o.name.length c2, .slice a3 o.text.length c3, .bool o.gone] 27
  rw [unhide HE]
  clear HE
  unfold opVal
  have q0 : (o.kind == 0) = false := by simpa using k0
  have q1 : (o.kind == 1) = false := by simpa using k1
  have q2 : (o.kind == 2) = false := by simpa using k2
  clear k0 k1 k2
  have HG := hide hg
  clear hg
  go_enter Try.func48, Try.ntmps48
  go_wp2_with fail
  generalize (w.alloc (.cells #[.int .i64 o.kind, .int .i64 o.atN, .int .i64 o.atR, .int .i64 o.nodeN, .int .i64 o.nodeR, .int .i64 o.parN, .int .i64 o.parR, .slice a1 o.key.length c1, .int .i64 o.elem, .slice a2 o.name.length c2, .slice a3 o.text.length c3, .bool o.gone] 27)) = w0 at *
  obtain ⟨x0, x1, x2, x3, x4, x5, x6, x7, x8, x9, x10, x11⟩ := l0.twelve
  go_region_held3 (fun w' => w'.cell? ⟨w.heap.size, 0, none⟩ = some (.int .i64 o.kind) ∧ w'.cell? ⟨w.heap.size, 1, none⟩ = some (.int .i64 o.atN) ∧ w'.cell? ⟨w.heap.size, 2, none⟩ = some (.int .i64 o.atR))
    (first | exact ⟨by assumption, by assumption, by assumption⟩ | go_keep)
    (first
      | (go_at_call 79; refine (unhide H1 _ (by repeat (first | exact hA0 | exact Below.refl _ _ | refine balloc2 ?_ | refine Below.drew ?_)) _ (own_nil2 _ _)).mono ?_; clear H1; rintro e w11 ⟨b1, d1, rfl, ho1, hB1⟩; have hA11 := bstep (a := w) (by repeat (first | exact hA0 | exact Below.refl _ _ | refine balloc2 ?_ | refine Below.drew ?_)) hB1; have hD11 := bstep (a := w0) (by repeat (first | exact Below.refl _ _ | exact Below.refl _ _ | refine balloc2 ?_ | refine Below.drew ?_)) hB1; have hY1 := fun p v h => cell_later hB1 (p := p) (v := v) h; obtain ⟨x0, x1, x2, x3, x4, x5, x6, x7, x8, x9, x10, x11⟩ := (l0.all hD11).twelve)
      | (go_at_call 78; refine (unhide H2 _ (by repeat (first | exact hA11 | exact Below.refl _ _ | refine balloc2 ?_ | refine Below.drew ?_)) _ (ho1.keep (by repeat (first | exact Below.refl _ _ | exact Below.refl _ _ | refine balloc2 ?_ | refine Below.drew ?_)))).mono ?_; clear H2; rintro e w12 ⟨b2, d2, rfl, ho2, hB2⟩; have hA12 := bstep (a := w) (by repeat (first | exact hA11 | exact Below.refl _ _ | refine balloc2 ?_ | refine Below.drew ?_)) hB2; have hD12 := bstep (a := w0) (by repeat (first | exact hD11 | exact Below.refl _ _ | refine balloc2 ?_ | refine Below.drew ?_)) hB2; have hY2 := fun p v h => cell_later hB2 (p := p) (v := v) h; obtain ⟨x0, x1, x2, x3, x4, x5, x6, x7, x8, x9, x10, x11⟩ := (l0.all hD12).twelve))
  all_goals
    have l12 := l0.all hD12
    clear x0 x1 x2 x3 x4 x5 x6 x7 x8 x9 x10 x11 hY1 hB1 hD11 hY2 hB2 hD12 ho1 hA11
    obtain ⟨x0, x1, x2, x3, x4, x5, x6, x7, x8, x9, x10, x11⟩ := l12.twelve
    go_wp2_with fail
    clear x0 x1 x2 x3 x4 x5 x6 x7 x8 x9 x10 x11
    obtain ⟨x0, x1, x2, x3, x4, x5, x6, x7, x8, x9, x10, x11⟩ := l12.twelve
    go_region_held3 (fun w' => w'.cell? ⟨w.heap.size, 3, none⟩ = some (.int .i64 o.nodeN) ∧ w'.cell? ⟨w.heap.size, 4, none⟩ = some (.int .i64 o.nodeR) ∧ w'.cell? ⟨w.heap.size, 9, none⟩ = some (.slice a2 o.name.length c2))
      (first | exact ⟨by assumption, by assumption, by assumption⟩ | go_keep)
      (first
        | (go_at_call 78; refine (unhide H3 _ (by repeat (first | exact hA12 | exact Below.refl _ _ | refine balloc2 ?_ | refine Below.drew ?_)) _ (ho2.keep (by repeat (first | exact Below.refl _ _ | exact Below.refl _ _ | refine balloc2 ?_ | refine Below.drew ?_)))).mono ?_; clear H3; rintro e w13 ⟨b3, d3, rfl, ho3, hB3⟩; have hA13 := bstep (a := w) (by repeat (first | exact hA12 | exact Below.refl _ _ | refine balloc2 ?_ | refine Below.drew ?_)) hB3; have hD13 := bstep (a := w12) (by repeat (first | exact Below.refl _ _ | exact Below.refl _ _ | refine balloc2 ?_ | refine Below.drew ?_)) hB3; have hY3 := fun p v h => cell_later hB3 (p := p) (v := v) h; obtain ⟨x0, x1, x2, x3, x4, x5, x6, x7, x8, x9, x10, x11⟩ := (l12.all hD13).twelve)
        | (go_at_call 81; refine (unhide H4 _ (by repeat (first | exact hA13 | exact Below.refl _ _ | refine balloc2 ?_ | refine Below.drew ?_)) _ (ho3.keep (by repeat (first | exact Below.refl _ _ | exact Below.refl _ _ | refine balloc2 ?_ | refine Below.drew ?_)))).mono ?_; clear H4; rintro e w14 ⟨b4, d4, rfl, ho4, hB4⟩; have hA14 := bstep (a := w) (by repeat (first | exact hA13 | exact Below.refl _ _ | refine balloc2 ?_ | refine Below.drew ?_)) hB4; have hD14 := bstep (a := w12) (by repeat (first | exact hD13 | exact Below.refl _ _ | refine balloc2 ?_ | refine Below.drew ?_)) hB4; have hY4 := fun p v h => cell_later hB4 (p := p) (v := v) h; obtain ⟨x0, x1, x2, x3, x4, x5, x6, x7, x8, x9, x10, x11⟩ := (l12.all hD14).twelve))
    all_goals
      have l14 := l12.all hD14
      clear x0 x1 x2 x3 x4 x5 x6 x7 x8 x9 x10 x11 hY3 hB3 hD13 hY4 hB4 hD14 ho3 hA13
      obtain ⟨x0, x1, x2, x3, x4, x5, x6, x7, x8, x9, x10, x11⟩ := l14.twelve
      rw [unhide HG] at x11
      go_wp2_with fail
      clear x0 x1 x2 x3 x4 x5 x6 x7 x8 x9
      clear x10 x11
      refine (unhide H5 _ hA14 _ ho4).mono ?_
      rintro e w15 ⟨b5, d5, rfl, ho5, hB5⟩
      have hA15 := bstep hA14 hB5
      go_wp2_with fail
      go_ret
      exact ⟨b5, d5, rfl, ho5, hA15⟩

set_option maxHeartbeats 12800000 in
theorem bytesS_n (w : World) (o : OpV) (a1 a2 a3 : Option Addr) (c1 c2 c3 : Nat) (hk : Ints w (.slice a1 o.key.length c1) o.key) (hn : Byt w (.slice a2 o.name.length c2) o.name) (ht : Byt w (.slice a3 o.text.length c3) o.text) (hs : o.key.length ≤ 2097152) (k0 : o.kind ≠ 0) (k1 : o.kind ≠ 1) (k2 : o.kind ≠ 2) (hg : o.gone = false) :
    Calls Try.prog 48 #[opVal o (.slice a1 o.key.length c1) (.slice a2 o.name.length c2) (.slice a3 o.text.length c3)] w fun e w' => ∃ a c, e = .returned (.slice a (opBytes o).length c) ∧ Own w' w.heap.size (.slice a (opBytes o).length c) (opBytes o) ∧ Below w.heap.size w w' := by
  have HK := hide hk
  have HM := hide hn
  have HX := hide ht
  clear hk hn ht
  have Ln : ([] : List Int).length = 0 := rfl
  obtain ⟨r1, e1⟩ : ∃ r, r = putAll ([] : List Int) o.kind := ⟨_, rfl⟩
  have L1 := putAll_len ([] : List Int) o.kind
  have H1 := hide (fun (W : World) (hW : Below w.heap.size w W) (v : Value) (h : Own W w.heap.size v ([] : List Int)) => rw_base (putS_own W v ([] : List Int) o.kind h.byt (by omega)) hW.size)
  rw [← e1] at L1 H1
  obtain ⟨r2, e2⟩ : ∃ r, r = putId r1 o.atN o.atR := ⟨_, rfl⟩
  have L2 := putId_len r1 o.atN o.atR
  have H2 := hide (fun (W : World) (hW : Below w.heap.size w W) (v : Value) (h : Own W w.heap.size v r1) => rw_base (putIdS_any W v r1 o.atN o.atR h.byt (by omega)) hW.size)
  rw [← e2] at L2 H2
  obtain ⟨r3, e3⟩ : ∃ r, r = putId r2 o.nodeN o.nodeR := ⟨_, rfl⟩
  have L3 := putId_len r2 o.nodeN o.nodeR
  have H3 := hide (fun (W : World) (hW : Below w.heap.size w W) (v : Value) (h : Own W w.heap.size v r2) => rw_base (putIdS_any W v r2 o.nodeN o.nodeR h.byt (by omega)) hW.size)
  rw [← e3] at L3 H3
  obtain ⟨r4, e4⟩ : ∃ r, r = putT r3 o.name := ⟨_, rfl⟩
  have L4 := putT_len r3 o.name
  have H4 := hide (fun (W : World) (hW : Below w.heap.size w W) (v : Value) (h : Own W w.heap.size v r3) => rw_base (putTS_own2 W v _ r3 o.name h.byt ((unhide HM).keep hW) (by omega)) hW.size)
  rw [← e4] at L4 H4
  obtain ⟨r5, e5⟩ : ∃ r, r = putAll r4 0 := ⟨_, rfl⟩
  have L5 := putAll_len r4 0
  have H5 := hide (fun (W : World) (hW : Below w.heap.size w W) (v : Value) (h : Own W w.heap.size v r4) => rw_base (putS_own W v r4 0 h.byt (by omega)) hW.size)
  rw [← e5] at L5 H5
  obtain ⟨r6, e6⟩ : ∃ r, r = putT r5 o.text := ⟨_, rfl⟩
  have L6 := putT_len r5 o.text
  have H6 := hide (fun (W : World) (hW : Below w.heap.size w W) (v : Value) (h : Own W w.heap.size v r5) => rw_base (putTS_own2 W v _ r5 o.text h.byt ((unhide HX).keep hW) (by omega)) hW.size)
  rw [← e6] at L6 H6
  have HE := hide (show opBytes o = r6 by unfold opBytes opHd; rw [if_neg k0, if_neg k1, if_neg k2, if_neg (by rw [hg]; decide)]; rw [e6, e5, e4, e3, e2, e1])
  clear e6 L6 e5 L5 e4 L4 e3 L3 e2 L2 e1 L1
  have hA0 : Below w.heap.size w (w.alloc (.cells #[.int .i64 o.kind, .int .i64 o.atN, .int .i64 o.atR, .int .i64 o.nodeN, .int .i64 o.nodeR, .int .i64 o.parN, .int .i64 o.parR, .slice a1 o.key.length c1, .int .i64 o.elem, .slice a2 o.name.length c2, .slice a3 o.text.length c3, .bool o.gone] 27)) := (Below.refl w.heap.size w).alloc (Nat.le_refl _) _
  have l0 := Loc.made w #[.int .i64 o.kind, .int .i64 o.atN, .int .i64 o.atR, .int .i64 o.nodeN, .int .i64 o.nodeR, .int .i64 o.parN, .int .i64 o.parR, .slice a1 o.key.length c1, .int .i64 o.elem, .slice a2 o.name.length c2, .slice a3 o.text.length c3, .bool o.gone] 27
  rw [unhide HE]
  clear HE
  unfold opVal
  have q0 : (o.kind == 0) = false := by simpa using k0
  have q1 : (o.kind == 1) = false := by simpa using k1
  have q2 : (o.kind == 2) = false := by simpa using k2
  clear k0 k1 k2
  have HG := hide hg
  clear hg
  go_enter Try.func48, Try.ntmps48
  go_wp2_with fail
  generalize (w.alloc (.cells #[.int .i64 o.kind, .int .i64 o.atN, .int .i64 o.atR, .int .i64 o.nodeN, .int .i64 o.nodeR, .int .i64 o.parN, .int .i64 o.parR, .slice a1 o.key.length c1, .int .i64 o.elem, .slice a2 o.name.length c2, .slice a3 o.text.length c3, .bool o.gone] 27)) = w0 at *
  obtain ⟨x0, x1, x2, x3, x4, x5, x6, x7, x8, x9, x10, x11⟩ := l0.twelve
  go_region_held3 (fun w' => w'.cell? ⟨w.heap.size, 0, none⟩ = some (.int .i64 o.kind) ∧ w'.cell? ⟨w.heap.size, 1, none⟩ = some (.int .i64 o.atN) ∧ w'.cell? ⟨w.heap.size, 2, none⟩ = some (.int .i64 o.atR))
    (first | exact ⟨by assumption, by assumption, by assumption⟩ | go_keep)
    (first
      | (go_at_call 79; refine (unhide H1 _ (by repeat (first | exact hA0 | exact Below.refl _ _ | refine balloc2 ?_ | refine Below.drew ?_)) _ (own_nil2 _ _)).mono ?_; clear H1; rintro e w11 ⟨b1, d1, rfl, ho1, hB1⟩; have hA11 := bstep (a := w) (by repeat (first | exact hA0 | exact Below.refl _ _ | refine balloc2 ?_ | refine Below.drew ?_)) hB1; have hD11 := bstep (a := w0) (by repeat (first | exact Below.refl _ _ | exact Below.refl _ _ | refine balloc2 ?_ | refine Below.drew ?_)) hB1; have hY1 := fun p v h => cell_later hB1 (p := p) (v := v) h; obtain ⟨x0, x1, x2, x3, x4, x5, x6, x7, x8, x9, x10, x11⟩ := (l0.all hD11).twelve)
      | (go_at_call 78; refine (unhide H2 _ (by repeat (first | exact hA11 | exact Below.refl _ _ | refine balloc2 ?_ | refine Below.drew ?_)) _ (ho1.keep (by repeat (first | exact Below.refl _ _ | exact Below.refl _ _ | refine balloc2 ?_ | refine Below.drew ?_)))).mono ?_; clear H2; rintro e w12 ⟨b2, d2, rfl, ho2, hB2⟩; have hA12 := bstep (a := w) (by repeat (first | exact hA11 | exact Below.refl _ _ | refine balloc2 ?_ | refine Below.drew ?_)) hB2; have hD12 := bstep (a := w0) (by repeat (first | exact hD11 | exact Below.refl _ _ | refine balloc2 ?_ | refine Below.drew ?_)) hB2; have hY2 := fun p v h => cell_later hB2 (p := p) (v := v) h; obtain ⟨x0, x1, x2, x3, x4, x5, x6, x7, x8, x9, x10, x11⟩ := (l0.all hD12).twelve))
  all_goals
    have l12 := l0.all hD12
    clear x0 x1 x2 x3 x4 x5 x6 x7 x8 x9 x10 x11 hY1 hB1 hD11 hY2 hB2 hD12 ho1 hA11
    obtain ⟨x0, x1, x2, x3, x4, x5, x6, x7, x8, x9, x10, x11⟩ := l12.twelve
    go_wp2_with fail
    clear x0 x1 x2 x3 x4 x5 x6 x7 x8 x9 x10 x11
    obtain ⟨x0, x1, x2, x3, x4, x5, x6, x7, x8, x9, x10, x11⟩ := l12.twelve
    go_region_held3 (fun w' => w'.cell? ⟨w.heap.size, 3, none⟩ = some (.int .i64 o.nodeN) ∧ w'.cell? ⟨w.heap.size, 4, none⟩ = some (.int .i64 o.nodeR) ∧ w'.cell? ⟨w.heap.size, 9, none⟩ = some (.slice a2 o.name.length c2))
      (first | exact ⟨by assumption, by assumption, by assumption⟩ | go_keep)
      (first
        | (go_at_call 78; refine (unhide H3 _ (by repeat (first | exact hA12 | exact Below.refl _ _ | refine balloc2 ?_ | refine Below.drew ?_)) _ (ho2.keep (by repeat (first | exact Below.refl _ _ | exact Below.refl _ _ | refine balloc2 ?_ | refine Below.drew ?_)))).mono ?_; clear H3; rintro e w13 ⟨b3, d3, rfl, ho3, hB3⟩; have hA13 := bstep (a := w) (by repeat (first | exact hA12 | exact Below.refl _ _ | refine balloc2 ?_ | refine Below.drew ?_)) hB3; have hD13 := bstep (a := w12) (by repeat (first | exact Below.refl _ _ | exact Below.refl _ _ | refine balloc2 ?_ | refine Below.drew ?_)) hB3; have hY3 := fun p v h => cell_later hB3 (p := p) (v := v) h; obtain ⟨x0, x1, x2, x3, x4, x5, x6, x7, x8, x9, x10, x11⟩ := (l12.all hD13).twelve)
        | (go_at_call 81; refine (unhide H4 _ (by repeat (first | exact hA13 | exact Below.refl _ _ | refine balloc2 ?_ | refine Below.drew ?_)) _ (ho3.keep (by repeat (first | exact Below.refl _ _ | exact Below.refl _ _ | refine balloc2 ?_ | refine Below.drew ?_)))).mono ?_; clear H4; rintro e w14 ⟨b4, d4, rfl, ho4, hB4⟩; have hA14 := bstep (a := w) (by repeat (first | exact hA13 | exact Below.refl _ _ | refine balloc2 ?_ | refine Below.drew ?_)) hB4; have hD14 := bstep (a := w12) (by repeat (first | exact hD13 | exact Below.refl _ _ | refine balloc2 ?_ | refine Below.drew ?_)) hB4; have hY4 := fun p v h => cell_later hB4 (p := p) (v := v) h; obtain ⟨x0, x1, x2, x3, x4, x5, x6, x7, x8, x9, x10, x11⟩ := (l12.all hD14).twelve))
    all_goals
      have l14 := l12.all hD14
      clear x0 x1 x2 x3 x4 x5 x6 x7 x8 x9 x10 x11 hY3 hB3 hD13 hY4 hB4 hD14 ho3 hA13
      obtain ⟨x0, x1, x2, x3, x4, x5, x6, x7, x8, x9, x10, x11⟩ := l14.twelve
      rw [unhide HG] at x11
      go_wp2_with fail
      clear x0 x1 x2 x3 x4 x5 x6 x7 x8 x9
      go_region_held3 (fun w' => w'.cell? ⟨w.heap.size, 10, none⟩ = some (.slice a3 o.text.length c3))
        (first | assumption | go_keep)
        (first
          | (go_at_call 79; refine (unhide H5 _ (by repeat (first | exact hA14 | exact Below.refl _ _ | refine balloc2 ?_ | refine Below.drew ?_)) _ (ho4.keep (by repeat (first | exact Below.refl _ _ | exact Below.refl _ _ | refine balloc2 ?_ | refine Below.drew ?_)))).mono ?_; clear H5; rintro e w15 ⟨b5, d5, rfl, ho5, hB5⟩; have hA15 := bstep (a := w) (by repeat (first | exact hA14 | exact Below.refl _ _ | refine balloc2 ?_ | refine Below.drew ?_)) hB5; have hD15 := bstep (a := w14) (by repeat (first | exact Below.refl _ _ | exact Below.refl _ _ | refine balloc2 ?_ | refine Below.drew ?_)) hB5; have x10 := (l14.all hD15).twelve.2.2.2.2.2.2.2.2.2.2.1)
          | (go_at_call 81; refine (unhide H6 _ hA15 _ ho5).mono ?_; clear H6; rintro e w16 ⟨b6, d6, rfl, ho6, hB6⟩; have hA16 := bstep (a := w) hA15 hB6; have hD16 := bstep (a := w14) hD15 hB6; have x10 := (l14.all hD16).twelve.2.2.2.2.2.2.2.2.2.2.1))
      all_goals
        go_wp2_with fail
        go_ret
        exact ⟨b6, d6, rfl, ho6, hA16⟩

/-- spec.l4bytes, whatever it is asked. -/
theorem bytesS_any (w : World) (v : Value) (o : OpV) (h : RdOp w v o) (hs : o.key.length ≤ 2097152) :
    Calls Try.prog 48 #[v] w fun e w' => ∃ a c, e = .returned (.slice a (opBytes o).length c) ∧ Own w' w.heap.size (.slice a (opBytes o).length c) (opBytes o) ∧ Below w.heap.size w w' := by
  obtain ⟨k, n, t, rfl, hk, hn, ht⟩ := h
  obtain ⟨a1, c1, rfl, _, _⟩ := hk.shape
  obtain ⟨a2, c2, rfl, _, _⟩ := hn.shape
  obtain ⟨a3, c3, rfl, _, _⟩ := ht.shape
  by_cases k0 : o.kind = 0
  · exact bytesS_0 w o a1 a2 a3 c1 c2 c3 hk hn ht hs k0
  by_cases k1 : o.kind = 1
  · exact bytesS_1 w o a1 a2 a3 c1 c2 c3 hk hn ht hs k1
  by_cases k2 : o.kind = 2
  · exact bytesS_2 w o a1 a2 a3 c1 c2 c3 hk hn ht hs k2
  rcases Bool.eq_false_or_eq_true o.gone with hg | hg
  · exact bytesS_g w o a1 a2 a3 c1 c2 c3 hk hn ht hs k0 k1 k2 hg
  · exact bytesS_n w o a1 a2 a3 c1 c2 c3 hk hn ht hs k0 k1 k2 hg
end Go.Proofs.Ytcabolcfoijglaa

/- Rows of bytes as strings: the conversion, and when two are one. -/
namespace Go.Proofs.Ytcabolcfoijglaa
open Go.RowKit
set_option linter.unusedVariables false

/-- The string of a row of bytes. -/
def str (l : List Int) : ByteArray := l.foldl (fun r n => r.push (UInt8.ofNat n.toNat)) ByteArray.empty
theorem str_go (l : List Int) (s : ByteArray) : (l.foldl (fun r n => r.push (UInt8.ofNat n.toNat)) s).data.toList = s.data.toList ++ l.map (fun n => UInt8.ofNat n.toNat) := by
  induction l generalizing s with
  | nil => simp
  | cons x l ih => rw [List.foldl_cons, ih]; simp [ByteArray.push]
theorem str_list (l : List Int) : (str l).data.toList = l.map (fun n => UInt8.ofNat n.toNat) := by
  unfold str; rw [str_go]; rfl
theorem toList_data (s : ByteArray) : s.toList = s.data.toList := Go.ByteArray.toList_eq s
theorem str_inj {a b : List Int} (ha : okB a) (hb : okB b) (h : (str a).toList = (str b).toList) : a = b := by
  rw [toList_data, toList_data, str_list, str_list] at h
  have hg : ∀ l : List Int, okB l → (l.map (fun n => UInt8.ofNat n.toNat)).map (fun u => (u.toNat : Int)) = l := by
    intro l hl
    induction l with
    | nil => rfl
    | cons x l ih =>
      have hx := hl x (by simp)
      have e : ((UInt8.ofNat x.toNat).toNat : Int) = x := by
        rw [UInt8.toNat_ofNat']; omega
      rw [List.map_cons, List.map_cons, ih (fun y hy => hl y (by simp [hy])), e]
  rw [← hg a ha, ← hg b hb, h]
theorem str_beq {a b : List Int} (ha : okB a) (hb : okB b) : ((str a).toList == (str b).toList) = decide (a = b) := by
  by_cases h : a = b
  · subst h; simp
  · have : ¬ (str a).toList = (str b).toList := fun e => h (str_inj ha hb e)
    rw [decide_eq_false h, beq_eq_false_iff_ne]; exact this

theorem conv_any (w : World) (u : Value) (a : List Int) (hu : Byt w u a) : (convert 22 9 u).run Try.prog w = .ok (.string (str a)) w := by
  have hfull : ∀ (x : Addr) (c : Nat), (∀ j, j < a.length → w.cell? (x.add j) = some (.int .u8 (a.getD j 0))) → (convert 22 9 (.slice (some x) a.length c)).run Try.prog w = .ok (.string (str a)) w := by
    intro x c hc
    rw [run_convert_bytes_string w 22 9 5 (some x) a.length c Try.underlying22 Try.underlying5 Try.underlying9]
    refine run_bytesToString w x a.length c a ?_
    have h := run_loadCells_list (P := Try.prog) (w := w) x (vals a) (fun j v hj => by
      have hlt : j < a.length := by
        by_cases hlt : j < a.length
        · exact hlt
        · rw [List.getElem?_eq_none (by rw [vals_len]; omega)] at hj; cases hj
      rw [vals_at hlt] at hj
      rw [hc j hlt]; exact hj)
    rw [vals_len] at h
    exact h
  obtain ⟨hoka, _, ⟨rfl, rfl⟩ | ⟨x, cap, rfl, hc, rfl⟩ | ⟨p, off, cap, rfl, h1, h2, h3, h4, h5⟩⟩ := hu
  · rw [run_convert_bytes_string w 22 9 5 none 0 0 Try.underlying22 Try.underlying5 Try.underlying9]
    simp [Conv.bytesToString, str]
  · exact hfull x cap (fun j hj => by simp at hj)
  · exact hfull _ cap (fun j hj => by rw [add_plain]; exact h5 j hj)

end Go.Proofs.Ytcabolcfoijglaa
