/- Own texts joined: Cat, Row, PutI, TextP, PutOS, BytS, L5put. -/
import Derived.Test.YtaoodcielfabdaaGreatJa
import Derived.Test.YtaoodcielfabdaaGreatJb
import Derived.Test.YtaoodcielfabdaaGreatJc
import Derived.Test.YtaoodcielfabdaaGreatJd
import Derived.Test.YtaoodcielfabdaaGreatJe
import Derived.Test.YtaoodcielfabdaaGreatJf
import Derived.Test.YtaoodcielfabdaaGreatJg
import Derived.Test.YtaoodcielfabdaaGreatJh
import Derived.Test.YtaoodcielfabdaaGreatJi
import Derived.Lib.AppendZeros
import Derived.Deep.RegionHeld3
import Derived.Deep.CutBlock

/- slices.Grow of nothing and slices.Concat over rows of bytes, by their contracts. -/
namespace Go.Proofs.YtaoodcielfabdaaGreat
open Go.RowKit
set_option linter.unusedVariables false

theorem grow_nil (w : World) : Calls Tryz.prog 181 #[.slice none 0 0, .int .i64 0] w fun e w' => e = .returned (.slice none 0 0) ∧ w' = w := by
  go_enter Tryz.func181, Tryz.ntmps181
  go_wp2
  go_ret
  exact ⟨rfl, rfl⟩

set_option maxHeartbeats 1600000 in
theorem grow_some (w : World) (n : Nat) (h0 : 0 < n) (hn : n ≤ 134217728) :
    Calls Tryz.prog 181 #[.slice none 0 0, .int .i64 n] w fun e w' => ∃ v, e = .returned v ∧ w'.ownsRow w.heap.size 5 1 v 0 [] ∧ Below w.heap.size w w' := by
  obtain ⟨i0, hi, hz0, hz1, hz2⟩ := info_parts Tryz.info5
  obtain ⟨G, hG⟩ : ∃ G, G = grownCap w n 0 5 := ⟨_, rfl⟩
  have hGn : n ≤ G := by rw [hG]; exact grownCap_ge w _ _ _
  have hGm : G ≤ maxLen := by rw [hG]; exact grownCap_le_maxLen w _ _ _ (by unfold maxLen; omega)
  have hr := fun ty => Lib.run_append_nil_zeros w 22 3 ty 5 i0 (.int .u8 0) .i64 .i64 Tryz.underlying22 Tryz.underlying3 hi hz0 n h0 (by omega) (by omega) (by rw [hz2]; omega)
  rw [← hG] at hr
  obtain ⟨cs, hcs⟩ : ∃ cs, cs = Builtin.zeroCells (Value.int .u8 0).cells n ++ Builtin.zeroCells (Value.int .u8 0).cells (G - n) := ⟨_, rfl⟩
  have hsz : cs.size = G * 1 := by
    have h1 : (Value.int .u8 0).cells.size = 1 := rfl
    rw [hcs, Array.size_append, size_zeroCells, size_zeroCells, h1]; omega
  rw [← hcs] at hr
  clear hcs hG
  have hn0 : (0 : Int) < (n : Int) := by omega
  have hn1 : ¬ (n : Int) < 0 := by omega
  have hGz : G ≠ 0 := by omega
  have hGm' := hGm
  unfold maxLen at hGm'
  go_enter Tryz.func181, Tryz.ntmps181
  go_wp2_with (at_builtin; refine Lib.wpList_append_run _ rfl _ _ _ _ rfl _ _ rfl rfl _ _ (hr _) ?_)
  go_ret
  refine ⟨_, rfl, ?_, ((Below.refl _ _).drew).alloc (Nat.le_refl _) _⟩
  exact ⟨rfl, .inr ⟨w.heap.size, G, cs, rfl, Nat.le_refl _, heap_alloc_new w.drew _, Nat.zero_le _, hGm, hsz, by simp⟩⟩

theorem grow_any (w : World) (n : Nat) (hn : n ≤ 134217728) :
    Calls Tryz.prog 181 #[.slice none 0 0, .int .i64 n] w fun e w' => ∃ v, e = .returned v ∧ Own w' w.heap.size v [] ∧ Below w.heap.size w w' := by
  by_cases h0 : n = 0
  · subst h0
    refine (grow_nil w).mono ?_
    rintro e w' ⟨rfl, rfl⟩
    exact ⟨_, rfl, ⟨okB_nil, World.ownsRow_nil _ _ _ _⟩, Below.refl _ _⟩
  · refine (grow_some w n (by omega) hn).mono ?_
    rintro e w' ⟨v, rfl, h1, h2⟩
    exact ⟨_, rfl, ⟨okB_nil, h1⟩, h2⟩

/-- How many bytes the rows have together. -/
def sumLen (ls : List (List Int)) : Nat := (ls.map List.length).sum
theorem sumLen_take (ls : List (List Int)) (k : Nat) (h : k < ls.length) : sumLen (ls.take (k + 1)) = sumLen (ls.take k) + (ls[k]).length := by
  unfold sumLen
  rw [List.take_succ_eq_append_getElem h]
  simp only [List.map_append, List.sum_append, List.map_cons, List.map_nil, List.sum_cons, List.sum_nil, Nat.add_zero]
theorem sumLen_le (ls : List (List Int)) (k : Nat) : sumLen (ls.take k) ≤ sumLen ls := by
  have h : sumLen ls = sumLen (ls.take k) + sumLen (ls.drop k) := by
    unfold sumLen
    rw [← List.sum_append, ← List.map_append, List.take_append_drop]
  omega
theorem flatten_take (ls : List (List Int)) (k : Nat) (h : k < ls.length) : (ls.take (k + 1)).flatten = (ls.take k).flatten ++ ls[k] := by
  rw [List.take_succ_eq_append_getElem h]
  simp only [List.flatten_append, List.flatten_cons, List.flatten_nil, List.append_nil]
theorem flatten_len (ls : List (List Int)) : ls.flatten.length = sumLen ls := by unfold sumLen; rw [List.length_flatten]

set_option maxHeartbeats 1600000 in
theorem concat_any (w : World) (b off cap : Nat) (n : Nat) (vs : List Value) (ls : List (List Int)) (hn : n = ls.length) (hn1 : n ≤ 1000) (hb : b < w.heap.size)
    (hc : ∀ i, i < n → w.cell? ⟨b, off + i, none⟩ = some (vs.getD i undef)) (hv : ∀ i, i < n → Byt w (vs.getD i undef) (ls.getD i [])) (hs : sumLen ls ≤ 67108864) :
    Calls Tryz.prog 174 #[.slice (some ⟨b, off, none⟩) n cap] w fun e w' => ∃ v, e = .returned v ∧ Own w' w.heap.size v ls.flatten ∧ Below w.heap.size w w' := by
  have HN := hide hn
  clear hn
  go_enter Tryz.func174, Tryz.ntmps174
  go_wp2
  go_loop [3, 11] (fun s i => ∃ k : Nat, k ≤ n ∧ i = .int .i64 k ∧ s = .int .i64 (sumLen (ls.take k) : Nat)) (fun _ i => n - (intOf i).toNat)
  case atStart => exact ⟨0, Nat.zero_le _, rfl, rfl⟩
  case round =>
    obtain ⟨k, hk, rfl, rfl⟩ := hrel
    by_cases hlt : k < n
    · have hkl : k < ls.length := by have := unhide HN; omega
      have hvk := hv k hlt
      have hck := hc k hlt
      obtain ⟨a, c, hsh, hl1, hl2⟩ := hvk.shape
      rw [hsh] at hck
      have hqm : sumLen (ls.take (k + 1)) = sumLen (ls.take k) + (ls.getD k []).length := by rw [sumLen_take ls k hkl]; simp [hkl]
      have hle := sumLen_le ls (k + 1)
      rw [hqm] at hle
      generalize sumLen (ls.take k) = q at *
      generalize (ls.getD k []).length = m at *
      have HQ := hide hqm
      have hlt' : (k : Int) < (n : Int) := by omega
      have hpos : ¬ ((q : Int) + (m : Int)) < 0 := by omega
      clear hqm hvk hsh hc hv
      go_wp2
      go_round
      case rel => exact ⟨k + 1, by omega, by go_num, by rw [unhide HQ]; go_num⟩
      case measure => simp [intOf]; omega
    · have e : k = n := by omega
      subst e
      have hall : ls.take k = ls := List.take_of_length_le (by have := unhide HN; omega)
      rw [hall]
      clear hall
      go_wp2_with fail
      refine (grow_any w (sumLen ls) (by omega)).mono ?_
      rintro e w1 ⟨v1, rfl, ho1, hB1⟩
      go_wp2
      go_loopw [6, 27] (fun u i wr => ∃ j : Nat, j ≤ k ∧ i = .int .i64 j ∧ Own wr w.heap.size u (ls.take j).flatten ∧ Below w.heap.size w wr) (fun _ i _ => k - (intOf i).toNat)
      case atStart => exact ⟨0, Nat.zero_le _, rfl, ho1, hB1⟩
      case round =>
        obtain ⟨j, hj, rfl, ho, hB⟩ := hrel
        clear ho1 hB1
        by_cases hlt2 : j < k
        · have hkl : j < ls.length := by have := unhide HN; omega
          have hvk := (hv j hlt2)
          have hck := (hB.cell (p := ⟨b, off + j, none⟩) hb).trans (hc j hlt2)
          have hvr : Byt wr (vs.getD j undef) (ls.getD j []) := hvk.keep hB
          have hqm : sumLen (ls.take (j + 1)) = sumLen (ls.take j) + (ls.getD j []).length := by rw [sumLen_take ls j hkl]; simp [hkl]
          have hle := sumLen_le ls (j + 1)
          rw [hqm, ← flatten_len] at hle
          have hfl := flatten_take ls j hkl
          rw [show ls[j] = ls.getD j [] by simp [hkl]] at hfl
          have HF := hide hfl
          have hlt' : (j : Int) < (k : Int) := by omega
          generalize vs.getD j undef = u at *
          generalize ls.getD j [] = m at *
          generalize (ls.take j).flatten = L at *
          clear hqm hvk hc hv hfl
          go_wp2_with (at_builtin; refine wpList_app rfl _ _ rfl w.heap.size _ L rfl ho u m rfl hvr ?c1 ?c2 ?_)
          case c1 => omega
          case c2 => exact hB.size
          intro v2 w2 ho2 hg2
          have hB2 : Below w.heap.size w w2 := bstepBy hB hg2 ho.base_le
          go_wp2
          go_roundw
          case rel => exact ⟨j + 1, by omega, by go_num, by rw [unhide HF]; exact ho2, hB2⟩
          case measure => simp [intOf]; omega
        · have e : j = k := by omega
          subst e
          rw [List.take_of_length_le (by have := unhide HN; omega)] at ho
          clear hc hv
          go_wp2
          go_ret
          exact ⟨_, rfl, ho, hB⟩
end Go.Proofs.YtaoodcielfabdaaGreat

/- impl.numRow: the bytes of a number in a new array of five, by its contract. -/
namespace Go.Proofs.YtaoodcielfabdaaGreat
open Go.RowKit
set_option linter.unusedVariables false

/-- An array of five bytes in a new block. -/
def five (c0 c1 c2 c3 c4 : Int) : Obj := .cells #[.int .u8 c0, .int .u8 c1, .int .u8 c2, .int .u8 c3, .int .u8 c4] 192

set_option maxHeartbeats 1600000 in
set_option maxRecDepth 1000000 in
theorem numRow_any (w : World) (n : Int) (h0 : 0 ≤ n) (h1 : n ≤ 2147483647) :
    Calls Tryz.prog 175 #[.int .i64 n] w fun e w' => ∃ c0 c1 c2 c3 c4 : Int, e = .returned (.tuple #[.agg #[.int .u8 c0, .int .u8 c1, .int .u8 c2, .int .u8 c3, .int .u8 c4], .int .i64 ((putN n).length : Nat)]) ∧
      [c0, c1, c2, c3, c4].take (putN n).length = putN n ∧ Below w.heap.size w w' := by
  go_enter Tryz.func175, Tryz.ntmps175
  go_wp2
  go_loopw [0, 3] (fun m s wr => ∃ (k f : Nat) (q c0 c1 c2 c3 c4 : Int), k + f = 4 ∧ m = .int .i64 q ∧ s = .int .i64 k ∧ 0 ≤ q ∧ q ≤ 2147483647 ∧ q < sc (f + 1) ∧ wr = w.alloc (.cells #[.int .u8 c0, .int .u8 c1, .int .u8 c2, .int .u8 c3, .int .u8 c4] 192) ∧ Hid (putN n = [c0, c1, c2, c3, c4].take k ++ putGo f q)) (fun m _ _ => (intOf m).toNat)
  case atStart => exact ⟨0, 4, n, 0, 0, 0, 0, 0, rfl, rfl, rfl, h0, h1, by simp only [sc]; omega, rfl, hide rfl⟩
  case round =>
    obtain ⟨k, f, q, c0, c1, c2, c3, c4, hkf, rfl, rfl, hq0, hq1, hq2, rfl, HP⟩ := hrel
    by_cases hq : 128 ≤ q
    · have hf : 1 ≤ f := by
        cases f with
        | zero => simp [sc] at hq2; omega
        | succ f => omega
      obtain ⟨f, rfl⟩ : ∃ g, f = g + 1 := ⟨f - 1, by omega⟩
      have hss := sc_step (f + 1) (by omega)
      have HQ := hide (show q / 128 < sc (f + 1) by omega)
      have HP2 := hide ((unhide HP).trans (congrArg ([c0, c1, c2, c3, c4].take k ++ ·) (putGo_on (f := f) (show 127 < q by omega))))
      clear hss hq2 HP
      have : k = 0 ∨ k = 1 ∨ k = 2 ∨ k = 3 := by omega
      rcases this with rfl | rfl | rfl | rfl
      all_goals
        go_wp2
        go_roundw
        case measure => simp [intOf]; omega
      case rel => exact ⟨1, f, q / 128, _, _, _, _, _, by omega, rfl, rfl, by omega, by omega, unhide HQ, rfl, hide (by simpa using unhide HP2)⟩
      case rel => exact ⟨2, f, q / 128, _, _, _, _, _, by omega, rfl, rfl, by omega, by omega, unhide HQ, rfl, hide (by simpa using unhide HP2)⟩
      case rel => exact ⟨3, f, q / 128, _, _, _, _, _, by omega, rfl, rfl, by omega, by omega, unhide HQ, rfl, hide (by simpa using unhide HP2)⟩
      case rel => exact ⟨4, f, q / 128, _, _, _, _, _, by omega, rfl, rfl, by omega, by omega, unhide HQ, rfl, hide (by simpa using unhide HP2)⟩
    · have HP2 := hide ((unhide HP).trans (congrArg ([c0, c1, c2, c3, c4].take k ++ ·) (putGo_end (f := f) (show ¬ 127 < q by omega))))
      clear HP hq2
      have hq' : ¬ (128 : Int) ≤ q := hq
      have : k = 0 ∨ k = 1 ∨ k = 2 ∨ k = 3 ∨ k = 4 := by omega
      rcases this with rfl | rfl | rfl | rfl | rfl
      · go_wp2
        rw [unhide HP2]
        exact bodyPost_ret (v := .tuple #[.agg #[.int .u8 q, .int .u8 c1, .int .u8 c2, .int .u8 c3, .int .u8 c4], .int .i64 1]) (by simp [results, Tryz.results175, go_sem]) rfl ⟨q, c1, c2, c3, c4, rfl, by simp, (Below.refl _ _).alloc (Nat.le_refl _) _⟩
      · go_wp2
        rw [unhide HP2]
        exact bodyPost_ret (v := .tuple #[.agg #[.int .u8 c0, .int .u8 q, .int .u8 c2, .int .u8 c3, .int .u8 c4], .int .i64 2]) (by simp [results, Tryz.results175, go_sem]) rfl ⟨c0, q, c2, c3, c4, rfl, by simp, (Below.refl _ _).alloc (Nat.le_refl _) _⟩
      · go_wp2
        rw [unhide HP2]
        exact bodyPost_ret (v := .tuple #[.agg #[.int .u8 c0, .int .u8 c1, .int .u8 q, .int .u8 c3, .int .u8 c4], .int .i64 3]) (by simp [results, Tryz.results175, go_sem]) rfl ⟨c0, c1, q, c3, c4, rfl, by simp, (Below.refl _ _).alloc (Nat.le_refl _) _⟩
      · go_wp2
        rw [unhide HP2]
        exact bodyPost_ret (v := .tuple #[.agg #[.int .u8 c0, .int .u8 c1, .int .u8 c2, .int .u8 q, .int .u8 c4], .int .i64 4]) (by simp [results, Tryz.results175, go_sem]) rfl ⟨c0, c1, c2, q, c4, rfl, by simp, (Below.refl _ _).alloc (Nat.le_refl _) _⟩
      · go_wp2
        rw [unhide HP2]
        exact bodyPost_ret (v := .tuple #[.agg #[.int .u8 c0, .int .u8 c1, .int .u8 c2, .int .u8 c3, .int .u8 q], .int .i64 5]) (by simp [results, Tryz.results175, go_sem]) rfl ⟨c0, c1, c2, c3, q, rfl, by simp, (Below.refl _ _).alloc (Nat.le_refl _) _⟩
end Go.Proofs.YtaoodcielfabdaaGreat

/- impl.PutNum answers what the plain function putAll says. -/
namespace Go.Proofs.YtaoodcielfabdaaGreat
open Go.RowKit
set_option linter.unusedVariables false

theorem Tryz.arr192 : Tryz.prog.arrayLen 192 = 5 := by kernel_rfl
theorem Tryz.elem192 : Tryz.prog.elem 192 = 5 := by kernel_rfl
theorem slice5 (b k : Nat) (hk : k ≤ 5) (w : World) : (Instr.sliceAt 192 (.pointer (some ⟨b, 0, none⟩)) none (some (.int .i64 (k : Int))) none).run Tryz.prog w = .ok (.slice (some ⟨b, 0, none⟩) k 5) w := by
  obtain ⟨i0, hi, hz0, hz1, hz2⟩ := info_parts Tryz.info5
  have h := run_sliceAt_array_h (P := Tryz.prog) w 192 ⟨b, 0, none⟩ (by kernel_rfl) .i64 (k : Int) (by omega) (by rw [Tryz.arr192]; omega)
  rw [h, Tryz.arr192, Tryz.elem192]
  simp [sizeOf, typeInfo, hi, slicedAt, add_plain]

/-- The first k of five bytes in a new block can be read. -/
theorem byt_five (w : World) (c0 c1 c2 c3 c4 : Int) (k : Nat) (hk : k ≤ 5) (l : List Int) (hl : [c0, c1, c2, c3, c4].take k = l) (hok : okB l) :
    Byt (w.alloc (.cells #[.int .u8 c0, .int .u8 c1, .int .u8 c2, .int .u8 c3, .int .u8 c4] 192)) (.slice (some ⟨w.heap.size, 0, none⟩) k 5) l := by
  have hlen : l.length = k := by rw [← hl]; simp; omega
  by_cases h0 : k = 0
  · subst h0
    have e : l = [] := List.eq_nil_of_length_eq_zero hlen
    subst e
    exact ⟨okB_nil, by simp [maxLen], .inr (.inl ⟨_, 5, rfl, by simp [maxLen], rfl⟩)⟩
  · refine ⟨hok, by unfold maxLen; omega, .inr (.inr ⟨w.heap.size, 0, 5, by rw [hlen], by omega, by simp [maxLen], fun e => by rw [e] at hlen; simp at hlen; omega, by simp, fun i hi => ?_⟩)⟩
    have hi5 : i = 0 ∨ i = 1 ∨ i = 2 ∨ i = 3 ∨ i = 4 := by omega
    have hik : i < k := by omega
    rw [← hl, List.getD_eq_getElem?_getD, List.getElem?_take, if_pos hik]
    rcases hi5 with rfl | rfl | rfl | rfl | rfl <;> simp

set_option maxHeartbeats 1600000 in
theorem putI_out (w : World) (v : Value) (l : List Int) (n : Int) (h : Byt w v l) (hl : l.length ≤ 60000000) (hn : n < 0 ∨ 2147483647 < n) :
    Calls Tryz.prog 173 #[v, .int .i64 n] w fun e w' => ∃ v', e = .returned v' ∧ Own w' w.heap.size v' l ∧ Below w.heap.size w w' := by
  have hcat := concat_any (w.alloc (.cells #[v] 22)) w.heap.size 0 1 1 [v] [l] rfl (by omega) (by simp) (fun i hi => by obtain rfl : i = 0 := (by omega); simp) (fun i hi => by obtain rfl : i = 0 := (by omega); exact h.alloc _) (by simp [sumLen]; omega)
  obtain ⟨a, c, rfl, _, _⟩ := h.shape
  by_cases hneg : n < 0
  · go_enter Tryz.func173, Tryz.ntmps173
    go_wp2_with fail
    refine hcat.mono ?_
    rintro e w1 ⟨v1, rfl, ho1, hB1⟩
    have hb : Below w.heap.size w w1 := bstep ((Below.refl _ _).alloc (Nat.le_refl _) _) hB1
    clear hB1 hcat
    go_wp2
    go_ret
    exact ⟨_, rfl, by simpa using ho1.mono (by simp), hb⟩
  · have h2 : 2147483647 < n := by omega
    have h3 : decide (n < 0) = false := by simpa using hneg
    go_enter Tryz.func173, Tryz.ntmps173
    go_wp2_with fail
    refine hcat.mono ?_
    rintro e w1 ⟨v1, rfl, ho1, hB1⟩
    have hb : Below w.heap.size w w1 := bstep ((Below.refl _ _).alloc (Nat.le_refl _) _) hB1
    clear hB1 hcat
    go_wp2
    go_ret
    exact ⟨_, rfl, by simpa using ho1.mono (by simp), hb⟩

set_option maxHeartbeats 1600000 in
theorem putI_in (w : World) (v : Value) (l : List Int) (n : Int) (h : Byt w v l) (hl : l.length ≤ 60000000) (hn0 : 0 ≤ n) (hn1 : n ≤ 2147483647) :
    Calls Tryz.prog 173 #[v, .int .i64 n] w fun e w' => ∃ v', e = .returned v' ∧ Own w' w.heap.size v' (l ++ putN n) ∧ Below w.heap.size w w' := by
  have h3 : decide (n < 0) = false := by simp; omega
  obtain ⟨a, c, hv, _, _⟩ := h.shape
  subst hv
  go_enter Tryz.func173, Tryz.ntmps173
  go_wp2_with fail
  refine (numRow_any w n hn0 hn1).mono ?_
  rintro e w1 ⟨c0, c1, c2, c3, c4, rfl, htk, hB1⟩
  have hp5 := putN_len n
  have hfive := byt_five w1 c0 c1 c2 c3 c4 (putN n).length hp5 (putN n) htk (putN_ok hn0 hn1)
  have hsl := fun wx => slice5 w1.heap.size (putN n).length hp5 wx
  generalize ht : putN n = t at *
  have HT := hide ht
  clear htk ht
  go_wp2_with fail
  refine (concat_any _ (w1.heap.size + 1) 0 2 2 [.slice a l.length c, .slice (some ⟨w1.heap.size, 0, none⟩) t.length 5] [l, t] rfl (by omega) ?c1 ?c2 ?c3 ?c4).mono ?_
  case c1 => simp
  case c2 => 
    intro i hi
    have : i = 0 ∨ i = 1 := by omega
    rcases this with rfl | rfl <;> simp
  case c3 =>
    intro i hi
    have : i = 0 ∨ i = 1 := by omega
    rcases this with rfl | rfl
    · exact ((h.keep hB1).alloc _).alloc _
    · exact hfive.alloc _
  case c4 => simp [sumLen]; omega
  rintro e w2 ⟨v2, rfl, ho2, hB2⟩
  have hb : Below w.heap.size w w2 := bstep ((hB1.alloc hB1.size _).alloc (by have := hB1.size; simp; omega) _) hB2
  have ho3 : Own w2 w.heap.size v2 (l ++ t) := by simpa using ho2.mono (by have := hB1.size; simp; omega)
  clear hB2 ho2 hfive
  go_wp2
  go_ret
  exact ⟨_, rfl, by rw [unhide HT]; exact ho3, hb⟩

/-- impl.PutNum, whatever it is asked. -/
theorem putI_any (w : World) (v : Value) (l : List Int) (n : Int) (h : Byt w v l) (hl : l.length ≤ 60000000) :
    Calls Tryz.prog 173 #[v, .int .i64 n] w fun e w' => ∃ v', e = .returned v' ∧ Own w' w.heap.size v' (putAll l n) ∧ Below w.heap.size w w' := by
  by_cases hn : n < 0 ∨ 2147483647 < n
  · rw [putAll_out hn]; exact putI_out w v l n h hl hn
  · rw [putAll_in (by omega) (by omega)]; exact putI_in w v l n h hl (by omega) (by omega)

end Go.Proofs.YtaoodcielfabdaaGreat

/- spec.PutText and impl.PutText answer what the plain function putT says. -/
namespace Go.Proofs.YtaoodcielfabdaaGreat
open Go.RowKit
set_option linter.unusedVariables false

set_option maxHeartbeats 1600000 in
theorem putTS_any (w : World) (v u : Value) (l t : List Int) (h : Byt w v l) (hu : Byt w u t) (hl : l.length ≤ 60000000) :
    Calls Tryz.prog 143 #[v, u] w fun e w' => ∃ v', e = .returned v' ∧ Own w' w.heap.size v' (putT l t) ∧ Below w.heap.size w w' := by
  obtain ⟨a, c, rfl, _, _⟩ := hu.shape
  have hm := hu.2.1
  unfold maxLen at hm
  by_cases ht : 30 < t.length
  · have ht' : (30 : Int) < (t.length : Int) := by omega
    have HR := hide (putT_out (l := l) ht)
    go_enter Tryz.func143, Tryz.ntmps143
    go_wp2_with (at_builtin; refine wpList_app rfl _ _ rfl w.heap.size _ [] rfl (own_none w) v l rfl (h.alloc _) ?c1 ?c2 ?_)
    case c1 => first | omega | (simp; omega)
    case c2 => simp
    intro v1 w1 ho1 hg1
    have hB1 : Below w.heap.size w w1 := bstepBy ((Below.refl _ _).alloc (Nat.le_refl _) _) hg1 (fun g hg => by simp [Value.ownBlock] at hg; omega)
    clear hg1
    go_wp2
    go_ret
    exact ⟨_, rfl, by rw [unhide HR]; exact ho1, hB1⟩
  · have ht' : ¬ (30 : Int) < (t.length : Int) := by omega
    have HR := hide (putT_in (l := l) ht)
    have hp := putN_len t.length
    have HA := hide (putAll_in (l := l) (n := (t.length : Int)) (by omega) (by omega))
    go_enter Tryz.func143, Tryz.ntmps143
    go_wp2_with fail
    refine (putS_any w v l (t.length : Int) h (by omega)).mono ?_
    rintro e w1 ⟨v1, rfl, ho1, hB1⟩
    rw [unhide HA] at ho1
    go_wp2_with (at_builtin; refine wpList_app rfl _ _ rfl w.heap.size _ (l ++ putN t.length) rfl ho1 _ t rfl (hu.keep hB1) ?c1 ?c2 ?_)
    case c1 => first | omega | (simp; omega)
    case c2 => exact hB1.size
    intro v2 w2 ho2 hg2
    have hB2 : Below w.heap.size w w2 := bstepBy hB1 hg2 ho1.base_le
    clear hg2
    go_wp2
    go_ret
    exact ⟨_, rfl, by rw [unhide HR]; first | exact ho2 | (rw [List.append_assoc]; exact ho2), hB2⟩

set_option maxHeartbeats 1600000 in
theorem putTI_any (w : World) (v u : Value) (l t : List Int) (h : Byt w v l) (hu : Byt w u t) (hl : l.length ≤ 60000000) :
    Calls Tryz.prog 164 #[v, u] w fun e w' => ∃ v', e = .returned v' ∧ Own w' w.heap.size v' (putT l t) ∧ Below w.heap.size w w' := by
  obtain ⟨a', c', rfl, _, _⟩ := h.shape
  obtain ⟨a, c, rfl, _, _⟩ := hu.shape
  have hm := hu.2.1
  unfold maxLen at hm
  by_cases ht : 30 < t.length
  · have ht' : (30 : Int) < (t.length : Int) := by omega
    have HR := hide (putT_out (l := l) ht)
    have hcat := concat_any (w.alloc (.cells #[.slice a' l.length c'] 22)) w.heap.size 0 1 1 [.slice a' l.length c'] [l] rfl (by omega) (by simp) (fun i hi => by obtain rfl : i = 0 := (by omega); simp) (fun i hi => by obtain rfl : i = 0 := (by omega); exact h.alloc _) (by simp [sumLen]; omega)
    go_enter Tryz.func164, Tryz.ntmps164
    go_wp2_with fail
    refine hcat.mono ?_
    rintro e w1 ⟨v1, rfl, ho1, hB1⟩
    have hb : Below w.heap.size w w1 := bstep ((Below.refl _ _).alloc (Nat.le_refl _) _) hB1
    clear hB1 hcat
    go_wp2
    go_ret
    exact ⟨_, rfl, by rw [unhide HR]; simpa using ho1.mono (by simp), hb⟩
  · have ht' : ¬ (30 : Int) < (t.length : Int) := by omega
    have HR := hide (putT_in (l := l) ht)
    go_enter Tryz.func164, Tryz.ntmps164
    go_wp2_with fail
    refine (numRow_any w (t.length : Int) (by omega) (by omega)).mono ?_
    rintro e w1 ⟨c0, c1, c2, c3, c4, rfl, htk, hB1⟩
    have hp5 := putN_len t.length
    have hfive := byt_five w1 c0 c1 c2 c3 c4 (putN t.length).length hp5 (putN t.length) htk (putN_ok (by omega) (by omega))
    have hsl := fun wx => slice5 w1.heap.size (putN t.length).length hp5 wx
    generalize hs : putN t.length = s at *
    have HS := hide hs
    clear htk hs
    go_wp2_with fail
    refine (concat_any _ (w1.heap.size + 1) 0 3 3 [.slice a' l.length c', .slice (some ⟨w1.heap.size, 0, none⟩) s.length 5, .slice a t.length c] [l, s, t] rfl (by omega) ?c1 ?c2 ?c3 ?c4).mono ?_
    case c1 => simp
    case c2 =>
      intro i hi
      have : i = 0 ∨ i = 1 ∨ i = 2 := by omega
      rcases this with rfl | rfl | rfl <;> simp
    case c3 =>
      intro i hi
      have : i = 0 ∨ i = 1 ∨ i = 2 := by omega
      rcases this with rfl | rfl | rfl
      · exact ((h.keep hB1).alloc _).alloc _
      · exact hfive.alloc _
      · exact ((hu.keep hB1).alloc _).alloc _
    case c4 => simp [sumLen]; omega
    rintro e w2 ⟨v2, rfl, ho2, hB2⟩
    have hb : Below w.heap.size w w2 := bstep ((hB1.alloc hB1.size _).alloc (by have := hB1.size; simp; omega) _) hB2
    have ho3 : Own w2 w.heap.size v2 (l ++ s ++ t) := by simpa using ho2.mono (by have := hB1.size; simp; omega)
    have HO := hide ho3
    clear hB2 ho2 hfive ho3
    go_wp2
    go_ret
    exact ⟨_, rfl, by rw [unhide HR]; exact unhide HO, hb⟩

end Go.Proofs.YtaoodcielfabdaaGreat

/- spec.l4putId and spec.l4putKey, by their contracts. -/
namespace Go.Proofs.YtaoodcielfabdaaGreat
open Go.RowKit
set_option linter.unusedVariables false
set_option maxRecDepth 100000

theorem putS_own (w : World) (v : Value) (l : List Int) (n : Int) (h : Byt w v l) (hl : l.length ≤ 60000000) :
    Calls Tryz.prog 141 #[v, .int .i64 n] w fun e w' => ∃ a c, e = .returned (.slice a (putAll l n).length c) ∧ Own w' w.heap.size (.slice a (putAll l n).length c) (putAll l n) ∧ Below w.heap.size w w' := by
  refine (putS_any w v l n h (by omega)).mono ?_
  rintro e w' ⟨v', rfl, ho, hB⟩
  obtain ⟨a, c, rfl, _, _⟩ := ho.byt.shape
  exact ⟨a, c, rfl, ho, hB⟩

theorem putId_len (l : List Int) (n r : Int) : (putId l n r).length ≤ l.length + 10 := by
  unfold putId
  have := putAll_len (putAll l n) r
  have := putAll_len l n
  omega
theorem putNs_len (l k : List Int) : (putNs l k).length ≤ l.length + 5 * k.length := by
  induction k generalizing l with
  | nil => simp [putNs]
  | cons x k ih =>
    rw [putNs, List.length_cons]
    have := ih (putAll l x)
    have := putAll_len l x
    omega
theorem putKey_len (l k : List Int) : (putKey l k).length ≤ l.length + 5 + 5 * k.length := by
  unfold putKey
  have := putNs_len (putAll l k.length) k
  have := putAll_len l (k.length : Int)
  omega

/-- Put a step further. -/
theorem putNs_step (l k : List Int) (j : Nat) (h : j < k.length) : putNs l (k.take (j + 1)) = putAll (putNs l (k.take j)) (k.getD j 0) := by
  induction k generalizing l j with
  | nil => simp at h
  | cons x k ih =>
    cases j with
    | zero => simp [putNs]
    | succ j =>
      rw [List.take_succ_cons, List.take_succ_cons, putNs, putNs, ih _ j (by simpa using h)]
      simp

set_option maxHeartbeats 3200000 in
theorem putIdS_any (w : World) (v : Value) (l : List Int) (n r : Int) (h : Byt w v l) (hl : l.length ≤ 50000000) :
    Calls Tryz.prog 140 #[v, .agg #[.int .i64 n, .int .i64 r]] w fun e w' => ∃ a c, e = .returned (.slice a (putId l n r).length c) ∧ Own w' w.heap.size (.slice a (putId l n r).length c) (putId l n r) ∧ Below w.heap.size w w' := by
  have hA := (Below.refl w.heap.size w).alloc (Nat.le_refl _) (.cells #[.int .i64 n, .int .i64 r] 35)
  have l0 := Loc.made w #[.int .i64 n, .int .i64 r] 35
  have hp := putAll_len l n
  have HV := hide (h.keep hA)
  obtain ⟨a, c, rfl, _, _⟩ := h.shape
  clear h
  go_enter Tryz.func140, Tryz.ntmps140
  go_wp2_with fail
  generalize (w.alloc (.cells #[.int .i64 n, .int .i64 r] 35)) = w0 at *
  have H1 := hide (fun (W : World) (hW : Below w0.heap.size w0 W) => putS_own W _ l n ((unhide HV).keep hW) (by omega))
  clear HV
  have x0 := l0.cell 0
  have x1 := l0.cell 1
  go_region_held3 (fun w' => w'.cell? ⟨w.heap.size, 0, none⟩ = some (.int .i64 n) ∧ w'.cell? ⟨w.heap.size, 1, none⟩ = some (.int .i64 r))
    (first | exact ⟨by assumption, by assumption⟩ | simp [*])
    (first
      | (go_at_call 141; refine (unhide H1 _ ((Below.refl _ _).drew)).mono ?_; clear H1; rintro e w1 ⟨a1, c1, rfl, ho1, hB1⟩; have hD1 := bstep ((Below.refl w0.heap.size w0).drew) hB1; have x0 := (l0.all hD1).cell 0; have x1 := (l0.all hD1).cell 1)
      | (go_at_call 141; refine (putS_own w1 _ (putAll l n) r ho1.byt (by omega)).mono ?_; rintro e w2 ⟨a2, c2, rfl, ho2, hB2⟩; have hD2 := bstep hD1 hB2; have x0 := (l0.all hD2).cell 0; have x1 := (l0.all hD2).cell 1))
  all_goals
    go_wp2
    go_ret
    exact ⟨a2, c2, rfl, ho2.mono (by have := hA.size; have := hD1.size; omega), bstep hA hD2⟩

set_option maxHeartbeats 3200000 in
theorem putKeyS_any (w : World) (v u : Value) (l k : List Int) (h : Byt w v l) (hu : Ints w u k) (hl : l.length ≤ 20000000) (hk : k.length ≤ 2097152) :
    Calls Tryz.prog 142 #[v, u] w fun e w' => ∃ a c, e = .returned (.slice a (putKey l k).length c) ∧ Own w' w.heap.size (.slice a (putKey l k).length c) (putKey l k) ∧ Below w.heap.size w w' := by
  have H1 := hide (putS_own w v l (k.length : Int) h (by omega))
  have HU := hide hu
  have hp := putAll_len l (k.length : Int)
  obtain ⟨a, c, rfl, _, _⟩ := h.shape
  obtain ⟨a', c', rfl, _, _⟩ := hu.shape
  clear h hu
  unfold putKey
  generalize putAll l (k.length : Int) = lp at *
  go_enter Tryz.func142, Tryz.ntmps142
  go_wp2_with fail
  refine (unhide H1).mono ?_
  clear H1
  rintro e w1 ⟨a1, c1, rfl, ho1, hB1⟩
  go_wp2_with fail
  go_loopw [0, 5] (fun b i wr => ∃ (j : Nat) (a2 : Option Addr) (c2 : Nat), j ≤ k.length ∧ i = .int .i64 j ∧ b = .slice a2 (putNs lp (k.take j)).length c2 ∧ Own wr w.heap.size (.slice a2 (putNs lp (k.take j)).length c2) (putNs lp (k.take j)) ∧ Below w.heap.size w wr) (fun _ i _ => k.length - (intOf i).toNat)
  case atStart => exact ⟨0, a1, c1, Nat.zero_le _, rfl, rfl, ho1, hB1⟩
  case round =>
    obtain ⟨j, a2, c2, hj, rfl, rfl, ho, hB⟩ := hrel
    clear ho1 hB1
    by_cases hlt : j < k.length
    · have HS := hide (putNs_step lp k j hlt)
      have hq := putNs_len lp (k.take j)
      rw [List.length_take, Nat.min_eq_left hj] at hq
      generalize hpt : putNs lp (k.take j) = lj at *
      clear hpt
      have hlt' : (j : Int) < (k.length : Int) := by omega
      obtain ⟨x, hx⟩ : ∃ x, x = k.getD j 0 := ⟨_, rfl⟩
      rw [← hx] at HS
      obtain ⟨hok, hm, ⟨_, e⟩ | ⟨_, _, _, _, e⟩ | ⟨b, off, cap, e, h1, h2, h3, h4, h5⟩⟩ := (unhide HU).keep hB
      · rw [e] at hlt; simp at hlt
      · rw [e] at hlt; simp at hlt
      have e1 : a' = some ⟨b, off, none⟩ := by injection e
      have hcx := h5 j hlt
      rw [← hx] at hcx
      clear hx h5 e HU
      subst e1
      go_wp2_with fail
      refine (putS_own wr _ lj x ho.byt (by omega)).mono ?_
      rintro e w2 ⟨a3, c3, rfl, ho3, hB3⟩
      rw [← unhide HS] at ho3 ⊢
      go_wp2_with fail
      go_roundw
      case rel => exact ⟨j + 1, a3, c3, by omega, by go_num, rfl, ho3.mono hB.size, bstep hB hB3⟩
      case measure => simp [intOf]; omega
    · obtain rfl : j = k.length := by omega
      have HE := hide (show putNs lp (k.take k.length) = putNs lp k by rw [List.take_of_length_le (Nat.le_refl _)])
      rw [unhide HE] at ho ⊢
      clear HE
      go_wp2_with fail
      go_ret
      exact ⟨a2, c2, rfl, ho, hB⟩
end Go.Proofs.YtaoodcielfabdaaGreat

/- spec.l4bytes and spec.OpBytes tell the bytes of an operation. -/
namespace Go.Proofs.YtaoodcielfabdaaGreat
open Go.RowKit
set_option linter.unusedVariables false
set_option maxRecDepth 100000

theorem cell_later {w w' : World} (hB : Below w.heap.size w w') {p : Addr} {v : Value} (h : w.cell? p = some v) : w'.cell? p = some v := (hB.cell (lt_of_cell h)).trans h
theorem balloc2 {w w' : World} {o : Obj} (h : Below w.heap.size w w') : Below w.heap.size w (w'.alloc o) := h.alloc h.size o
theorem rw_base {f : FuncId} {args : Array Value} {W : World} {r : List Int} {B : Nat} (h : Calls Tryz.prog f args W fun e w' => ∃ a c, e = .returned (.slice a r.length c) ∧ Own w' W.heap.size (.slice a r.length c) r ∧ Below W.heap.size W w') (hb : B ≤ W.heap.size) :
    Calls Tryz.prog f args W fun e w' => ∃ a c, e = .returned (.slice a r.length c) ∧ Own w' B (.slice a r.length c) r ∧ Below W.heap.size W w' :=
  h.mono fun _ _ ⟨a, c, q1, q2, q3⟩ => ⟨a, c, q1, q2.mono hb, q3⟩
theorem own_nil2 (w : World) (base : Nat) : Own w base (.slice none 0 0) [] := ⟨okB_nil, rfl, .inl ⟨rfl, rfl⟩⟩
theorem putTS_own2 (w : World) (v u : Value) (l t : List Int) (h : Byt w v l) (hu : Byt w u t) (hl : l.length ≤ 60000000) :
    Calls Tryz.prog 143 #[v, u] w fun e w' => ∃ a c, e = .returned (.slice a (putT l t).length c) ∧ Own w' w.heap.size (.slice a (putT l t).length c) (putT l t) ∧ Below w.heap.size w w' := by
  refine (putTS_any w v u l t h hu hl).mono ?_
  rintro e w' ⟨v', rfl, ho, hB⟩
  obtain ⟨a, c, rfl, _, _⟩ := ho.byt.shape
  exact ⟨a, c, rfl, ho, hB⟩

set_option maxHeartbeats 12800000 in
theorem bytesS_0 (w : World) (o : OpV) (a1 a2 a3 : Option Addr) (c1 c2 c3 : Nat) (hk : Ints w (.slice a1 o.key.length c1) o.key) (hn : Byt w (.slice a2 o.name.length c2) o.name) (ht : Byt w (.slice a3 o.text.length c3) o.text) (hs : o.key.length ≤ 2097152) (k0 : o.kind = 0) :
    Calls Tryz.prog 98 #[opVal o (.slice a1 o.key.length c1) (.slice a2 o.name.length c2) (.slice a3 o.text.length c3)] w fun e w' => ∃ a c, e = .returned (.slice a (opBytes o).length c) ∧ Own w' w.heap.size (.slice a (opBytes o).length c) (opBytes o) ∧ Below w.heap.size w w' := by
  have HK := hide hk
  have HM := hide hn
  have HX := hide ht
  clear hk hn ht
  have Ln : ([] : List Int).length = 0 := rfl
  obtain ⟨r1, e1⟩ : ∃ r, r = putAll ([] : List Int) 0 := ⟨_, rfl⟩
  have L1 := putAll_len ([] : List Int) 0
  have H1 := hide (fun (W : World) (hW : Below w.heap.size w W) (v : Value) (h : Own W w.heap.size v ([] : List Int)) => rw_base (putS_own W v ([] : List Int) 0 h.byt (by omega)) hW.size)
  rw [← e1] at L1 H1
  obtain ⟨r2, e2⟩ : ∃ r, r = putId r1 o.atN o.atR := ⟨_, rfl⟩
  have L2 := putId_len r1 o.atN o.atR
  have H2 := hide (fun (W : World) (hW : Below w.heap.size w W) (v : Value) (h : Own W w.heap.size v r1) => rw_base (putIdS_any W v r1 o.atN o.atR h.byt (by omega)) hW.size)
  rw [← e2] at L2 H2
  obtain ⟨r3, e3⟩ : ∃ r, r = putId r2 o.parN o.parR := ⟨_, rfl⟩
  have L3 := putId_len r2 o.parN o.parR
  have H3 := hide (fun (W : World) (hW : Below w.heap.size w W) (v : Value) (h : Own W w.heap.size v r2) => rw_base (putIdS_any W v r2 o.parN o.parR h.byt (by omega)) hW.size)
  rw [← e3] at L3 H3
  obtain ⟨r4, e4⟩ : ∃ r, r = putKey r3 o.key := ⟨_, rfl⟩
  have L4 := putKey_len r3 o.key
  have H4 := hide (fun (W : World) (hW : Below w.heap.size w W) (v : Value) (h : Own W w.heap.size v r3) => rw_base (putKeyS_any W v _ r3 o.key h.byt ((unhide HK).keep hW) (by omega) (by omega)) hW.size)
  rw [← e4] at L4 H4
  obtain ⟨r5, e5⟩ : ∃ r, r = putAll r4 o.elem := ⟨_, rfl⟩
  have L5 := putAll_len r4 o.elem
  have H5 := hide (fun (W : World) (hW : Below w.heap.size w W) (v : Value) (h : Own W w.heap.size v r4) => rw_base (putS_own W v r4 o.elem h.byt (by omega)) hW.size)
  rw [← e5] at L5 H5
  obtain ⟨r6, e6⟩ : ∃ r, r = putT r5 o.name := ⟨_, rfl⟩
  have L6 := putT_len r5 o.name
  have H6 := hide (fun (W : World) (hW : Below w.heap.size w W) (v : Value) (h : Own W w.heap.size v r5) => rw_base (putTS_own2 W v _ r5 o.name h.byt ((unhide HM).keep hW) (by omega)) hW.size)
  rw [← e6] at L6 H6
  obtain ⟨r7, e7⟩ : ∃ r, r = putT r6 o.text := ⟨_, rfl⟩
  have L7 := putT_len r6 o.text
  have H7 := hide (fun (W : World) (hW : Below w.heap.size w W) (v : Value) (h : Own W w.heap.size v r6) => rw_base (putTS_own2 W v _ r6 o.text h.byt ((unhide HX).keep hW) (by omega)) hW.size)
  rw [← e7] at L7 H7
  have HE := hide (show opBytes o = r7 by unfold opBytes opHd; rw [k0, if_pos rfl]; rw [e7, e6, e5, e4, e3, e2, e1])
  clear e7 L7 e6 L6 e5 L5 e4 L4 e3 L3 e2 L2 e1 L1
  have hA0 : Below w.heap.size w (w.alloc (.cells #[.int .i64 0, .int .i64 o.atN, .int .i64 o.atR, .int .i64 o.nodeN, .int .i64 o.nodeR, .int .i64 o.parN, .int .i64 o.parR, .slice a1 o.key.length c1, .int .i64 o.elem, .slice a2 o.name.length c2, .slice a3 o.text.length c3, .bool o.gone] 38)) := (Below.refl w.heap.size w).alloc (Nat.le_refl _) _
  have l0 := Loc.made w #[.int .i64 0, .int .i64 o.atN, .int .i64 o.atR, .int .i64 o.nodeN, .int .i64 o.nodeR, .int .i64 o.parN, .int .i64 o.parR, .slice a1 o.key.length c1, .int .i64 o.elem, .slice a2 o.name.length c2, .slice a3 o.text.length c3, .bool o.gone] 38
  rw [unhide HE]
  clear HE
  unfold opVal
  rw [k0]
  go_enter Tryz.func98, Tryz.ntmps98
  go_wp2_with fail
  generalize (w.alloc (.cells #[.int .i64 0, .int .i64 o.atN, .int .i64 o.atR, .int .i64 o.nodeN, .int .i64 o.nodeR, .int .i64 o.parN, .int .i64 o.parR, .slice a1 o.key.length c1, .int .i64 o.elem, .slice a2 o.name.length c2, .slice a3 o.text.length c3, .bool o.gone] 38)) = w0 at *
  obtain ⟨x0, x1, x2, x3, x4, x5, x6, x7, x8, x9, x10, x11⟩ := l0.twelve
  go_region_held3 (fun w' => w'.cell? ⟨w.heap.size, 0, none⟩ = some (.int .i64 0) ∧ w'.cell? ⟨w.heap.size, 1, none⟩ = some (.int .i64 o.atN) ∧ w'.cell? ⟨w.heap.size, 2, none⟩ = some (.int .i64 o.atR))
    (first | exact ⟨by assumption, by assumption, by assumption⟩ | go_keep)
    (first
      | (go_at_call 141; refine (unhide H1 _ (by repeat (first | exact hA0 | exact Below.refl _ _ | refine balloc2 ?_ | refine Below.drew ?_)) _ (own_nil2 _ _)).mono ?_; clear H1; rintro e w11 ⟨b1, d1, rfl, ho1, hB1⟩; have hA11 := bstep (a := w) (by repeat (first | exact hA0 | exact Below.refl _ _ | refine balloc2 ?_ | refine Below.drew ?_)) hB1; have hD11 := bstep (a := w0) (by repeat (first | exact Below.refl _ _ | exact Below.refl _ _ | refine balloc2 ?_ | refine Below.drew ?_)) hB1; have hY1 := fun p v h => cell_later hB1 (p := p) (v := v) h; obtain ⟨x0, x1, x2, x3, x4, x5, x6, x7, x8, x9, x10, x11⟩ := (l0.all hD11).twelve)
      | (go_at_call 140; refine (unhide H2 _ (by repeat (first | exact hA11 | exact Below.refl _ _ | refine balloc2 ?_ | refine Below.drew ?_)) _ (ho1.keep (by repeat (first | exact Below.refl _ _ | exact Below.refl _ _ | refine balloc2 ?_ | refine Below.drew ?_)))).mono ?_; clear H2; rintro e w12 ⟨b2, d2, rfl, ho2, hB2⟩; have hA12 := bstep (a := w) (by repeat (first | exact hA11 | exact Below.refl _ _ | refine balloc2 ?_ | refine Below.drew ?_)) hB2; have hD12 := bstep (a := w0) (by repeat (first | exact hD11 | exact Below.refl _ _ | refine balloc2 ?_ | refine Below.drew ?_)) hB2; have hY2 := fun p v h => cell_later hB2 (p := p) (v := v) h; obtain ⟨x0, x1, x2, x3, x4, x5, x6, x7, x8, x9, x10, x11⟩ := (l0.all hD12).twelve))
  all_goals
    have l12 := l0.all hD12
    clear x0 x1 x2 x3 x4 x5 x6 x7 x8 x9 x10 x11 hY1 hB1 hD11 hY2 hB2 hD12 ho1 hA11
    obtain ⟨x0, x1, x2, x3, x4, x5, x6, x7, x8, x9, x10, x11⟩ := l12.twelve
    go_wp2_with fail
    clear x0 x1 x2 x3 x4 x5 x6 x7 x8 x9 x10 x11
    obtain ⟨x0, x1, x2, x3, x4, x5, x6, x7, x8, x9, x10, x11⟩ := l12.twelve
    go_region_held3 (fun w' => w'.cell? ⟨w.heap.size, 5, none⟩ = some (.int .i64 o.parN) ∧ w'.cell? ⟨w.heap.size, 6, none⟩ = some (.int .i64 o.parR) ∧ w'.cell? ⟨w.heap.size, 7, none⟩ = some (.slice a1 o.key.length c1))
      (first | exact ⟨by assumption, by assumption, by assumption⟩ | go_keep)
      (first
        | (go_at_call 140; refine (unhide H3 _ (by repeat (first | exact hA12 | exact Below.refl _ _ | refine balloc2 ?_ | refine Below.drew ?_)) _ (ho2.keep (by repeat (first | exact Below.refl _ _ | exact Below.refl _ _ | refine balloc2 ?_ | refine Below.drew ?_)))).mono ?_; clear H3; rintro e w13 ⟨b3, d3, rfl, ho3, hB3⟩; have hA13 := bstep (a := w) (by repeat (first | exact hA12 | exact Below.refl _ _ | refine balloc2 ?_ | refine Below.drew ?_)) hB3; have hD13 := bstep (a := w12) (by repeat (first | exact Below.refl _ _ | exact Below.refl _ _ | refine balloc2 ?_ | refine Below.drew ?_)) hB3; have hY3 := fun p v h => cell_later hB3 (p := p) (v := v) h; obtain ⟨x0, x1, x2, x3, x4, x5, x6, x7, x8, x9, x10, x11⟩ := (l12.all hD13).twelve)
        | (go_at_call 142; refine (unhide H4 _ (by repeat (first | exact hA13 | exact Below.refl _ _ | refine balloc2 ?_ | refine Below.drew ?_)) _ (ho3.keep (by repeat (first | exact Below.refl _ _ | exact Below.refl _ _ | refine balloc2 ?_ | refine Below.drew ?_)))).mono ?_; clear H4; rintro e w14 ⟨b4, d4, rfl, ho4, hB4⟩; have hA14 := bstep (a := w) (by repeat (first | exact hA13 | exact Below.refl _ _ | refine balloc2 ?_ | refine Below.drew ?_)) hB4; have hD14 := bstep (a := w12) (by repeat (first | exact hD13 | exact Below.refl _ _ | refine balloc2 ?_ | refine Below.drew ?_)) hB4; have hY4 := fun p v h => cell_later hB4 (p := p) (v := v) h; obtain ⟨x0, x1, x2, x3, x4, x5, x6, x7, x8, x9, x10, x11⟩ := (l12.all hD14).twelve))
    all_goals
      have l14 := l12.all hD14
      clear x0 x1 x2 x3 x4 x5 x6 x7 x8 x9 x10 x11 hY3 hB3 hD13 hY4 hB4 hD14 ho3 hA13
      obtain ⟨x0, x1, x2, x3, x4, x5, x6, x7, x8, x9, x10, x11⟩ := l14.twelve
      go_wp2_with fail
      clear x0 x1 x2 x3 x4 x5 x6 x7 x8 x9 x10 x11
      obtain ⟨x0, x1, x2, x3, x4, x5, x6, x7, x8, x9, x10, x11⟩ := l14.twelve
      go_region_held3 (fun w' => w'.cell? ⟨w.heap.size, 8, none⟩ = some (.int .i64 o.elem) ∧ w'.cell? ⟨w.heap.size, 9, none⟩ = some (.slice a2 o.name.length c2) ∧ w'.cell? ⟨w.heap.size, 10, none⟩ = some (.slice a3 o.text.length c3))
        (first | exact ⟨by assumption, by assumption, by assumption⟩ | go_keep)
        (first
          | (go_at_call 141; refine (unhide H5 _ (by repeat (first | exact hA14 | exact Below.refl _ _ | refine balloc2 ?_ | refine Below.drew ?_)) _ (ho4.keep (by repeat (first | exact Below.refl _ _ | exact Below.refl _ _ | refine balloc2 ?_ | refine Below.drew ?_)))).mono ?_; clear H5; rintro e w15 ⟨b5, d5, rfl, ho5, hB5⟩; have hA15 := bstep (a := w) (by repeat (first | exact hA14 | exact Below.refl _ _ | refine balloc2 ?_ | refine Below.drew ?_)) hB5; have hD15 := bstep (a := w14) (by repeat (first | exact Below.refl _ _ | exact Below.refl _ _ | refine balloc2 ?_ | refine Below.drew ?_)) hB5; have hY5 := fun p v h => cell_later hB5 (p := p) (v := v) h; obtain ⟨x0, x1, x2, x3, x4, x5, x6, x7, x8, x9, x10, x11⟩ := (l14.all hD15).twelve)
          | (go_at_call 143; refine (unhide H6 _ (by repeat (first | exact hA15 | exact Below.refl _ _ | refine balloc2 ?_ | refine Below.drew ?_)) _ (ho5.keep (by repeat (first | exact Below.refl _ _ | exact Below.refl _ _ | refine balloc2 ?_ | refine Below.drew ?_)))).mono ?_; clear H6; rintro e w16 ⟨b6, d6, rfl, ho6, hB6⟩; have hA16 := bstep (a := w) (by repeat (first | exact hA15 | exact Below.refl _ _ | refine balloc2 ?_ | refine Below.drew ?_)) hB6; have hD16 := bstep (a := w14) (by repeat (first | exact hD15 | exact Below.refl _ _ | refine balloc2 ?_ | refine Below.drew ?_)) hB6; have hY6 := fun p v h => cell_later hB6 (p := p) (v := v) h; obtain ⟨x0, x1, x2, x3, x4, x5, x6, x7, x8, x9, x10, x11⟩ := (l14.all hD16).twelve)
          | (go_at_call 143; refine (unhide H7 _ (by repeat (first | exact hA16 | exact Below.refl _ _ | refine balloc2 ?_ | refine Below.drew ?_)) _ (ho6.keep (by repeat (first | exact Below.refl _ _ | exact Below.refl _ _ | refine balloc2 ?_ | refine Below.drew ?_)))).mono ?_; clear H7; rintro e w17 ⟨b7, d7, rfl, ho7, hB7⟩; have hA17 := bstep (a := w) (by repeat (first | exact hA16 | exact Below.refl _ _ | refine balloc2 ?_ | refine Below.drew ?_)) hB7; have hD17 := bstep (a := w14) (by repeat (first | exact hD16 | exact Below.refl _ _ | refine balloc2 ?_ | refine Below.drew ?_)) hB7; have hY7 := fun p v h => cell_later hB7 (p := p) (v := v) h; obtain ⟨x0, x1, x2, x3, x4, x5, x6, x7, x8, x9, x10, x11⟩ := (l14.all hD17).twelve))
      all_goals
        have l17 := l14.all hD17
        clear x0 x1 x2 x3 x4 x5 x6 x7 x8 x9 x10 x11 hY5 hB5 hD15 hY6 hB6 hD16 hY7 hB7 hD17 ho5 ho6 hA15 hA16
        obtain ⟨x0, x1, x2, x3, x4, x5, x6, x7, x8, x9, x10, x11⟩ := l17.twelve
        go_wp2_with fail
        clear x0 x1 x2 x3 x4 x5 x6 x7 x8 x9 x10 x11
        go_ret
        exact ⟨b7, d7, rfl, ho7, hA17⟩

set_option maxHeartbeats 12800000 in
theorem bytesS_1 (w : World) (o : OpV) (a1 a2 a3 : Option Addr) (c1 c2 c3 : Nat) (hk : Ints w (.slice a1 o.key.length c1) o.key) (hn : Byt w (.slice a2 o.name.length c2) o.name) (ht : Byt w (.slice a3 o.text.length c3) o.text) (hs : o.key.length ≤ 2097152) (k0 : o.kind = 1) :
    Calls Tryz.prog 98 #[opVal o (.slice a1 o.key.length c1) (.slice a2 o.name.length c2) (.slice a3 o.text.length c3)] w fun e w' => ∃ a c, e = .returned (.slice a (opBytes o).length c) ∧ Own w' w.heap.size (.slice a (opBytes o).length c) (opBytes o) ∧ Below w.heap.size w w' := by
  have HK := hide hk
  have HM := hide hn
  have HX := hide ht
  clear hk hn ht
  have Ln : ([] : List Int).length = 0 := rfl
  obtain ⟨r1, e1⟩ : ∃ r, r = putAll ([] : List Int) 1 := ⟨_, rfl⟩
  have L1 := putAll_len ([] : List Int) 1
  have H1 := hide (fun (W : World) (hW : Below w.heap.size w W) (v : Value) (h : Own W w.heap.size v ([] : List Int)) => rw_base (putS_own W v ([] : List Int) 1 h.byt (by omega)) hW.size)
  rw [← e1] at L1 H1
  obtain ⟨r2, e2⟩ : ∃ r, r = putId r1 o.atN o.atR := ⟨_, rfl⟩
  have L2 := putId_len r1 o.atN o.atR
  have H2 := hide (fun (W : World) (hW : Below w.heap.size w W) (v : Value) (h : Own W w.heap.size v r1) => rw_base (putIdS_any W v r1 o.atN o.atR h.byt (by omega)) hW.size)
  rw [← e2] at L2 H2
  obtain ⟨r3, e3⟩ : ∃ r, r = putId r2 o.nodeN o.nodeR := ⟨_, rfl⟩
  have L3 := putId_len r2 o.nodeN o.nodeR
  have H3 := hide (fun (W : World) (hW : Below w.heap.size w W) (v : Value) (h : Own W w.heap.size v r2) => rw_base (putIdS_any W v r2 o.nodeN o.nodeR h.byt (by omega)) hW.size)
  rw [← e3] at L3 H3
  obtain ⟨r4, e4⟩ : ∃ r, r = putId r3 o.parN o.parR := ⟨_, rfl⟩
  have L4 := putId_len r3 o.parN o.parR
  have H4 := hide (fun (W : World) (hW : Below w.heap.size w W) (v : Value) (h : Own W w.heap.size v r3) => rw_base (putIdS_any W v r3 o.parN o.parR h.byt (by omega)) hW.size)
  rw [← e4] at L4 H4
  obtain ⟨r5, e5⟩ : ∃ r, r = putKey r4 o.key := ⟨_, rfl⟩
  have L5 := putKey_len r4 o.key
  have H5 := hide (fun (W : World) (hW : Below w.heap.size w W) (v : Value) (h : Own W w.heap.size v r4) => rw_base (putKeyS_any W v _ r4 o.key h.byt ((unhide HK).keep hW) (by omega) (by omega)) hW.size)
  rw [← e5] at L5 H5
  have HE := hide (show opBytes o = r5 by unfold opBytes opHd; rw [k0, if_neg (by decide), if_pos rfl]; rw [e5, e4, e3, e2, e1])
  clear e5 L5 e4 L4 e3 L3 e2 L2 e1 L1
  have hA0 : Below w.heap.size w (w.alloc (.cells #[.int .i64 1, .int .i64 o.atN, .int .i64 o.atR, .int .i64 o.nodeN, .int .i64 o.nodeR, .int .i64 o.parN, .int .i64 o.parR, .slice a1 o.key.length c1, .int .i64 o.elem, .slice a2 o.name.length c2, .slice a3 o.text.length c3, .bool o.gone] 38)) := (Below.refl w.heap.size w).alloc (Nat.le_refl _) _
  have l0 := Loc.made w #[.int .i64 1, .int .i64 o.atN, .int .i64 o.atR, .int .i64 o.nodeN, .int .i64 o.nodeR, .int .i64 o.parN, .int .i64 o.parR, .slice a1 o.key.length c1, .int .i64 o.elem, .slice a2 o.name.length c2, .slice a3 o.text.length c3, .bool o.gone] 38
  rw [unhide HE]
  clear HE
  unfold opVal
  rw [k0]
  go_enter Tryz.func98, Tryz.ntmps98
  go_wp2_with fail
  generalize (w.alloc (.cells #[.int .i64 1, .int .i64 o.atN, .int .i64 o.atR, .int .i64 o.nodeN, .int .i64 o.nodeR, .int .i64 o.parN, .int .i64 o.parR, .slice a1 o.key.length c1, .int .i64 o.elem, .slice a2 o.name.length c2, .slice a3 o.text.length c3, .bool o.gone] 38)) = w0 at *
  obtain ⟨x0, x1, x2, x3, x4, x5, x6, x7, x8, x9, x10, x11⟩ := l0.twelve
  go_region_held3 (fun w' => w'.cell? ⟨w.heap.size, 0, none⟩ = some (.int .i64 1) ∧ w'.cell? ⟨w.heap.size, 1, none⟩ = some (.int .i64 o.atN) ∧ w'.cell? ⟨w.heap.size, 2, none⟩ = some (.int .i64 o.atR))
    (first | exact ⟨by assumption, by assumption, by assumption⟩ | go_keep)
    (first
      | (go_at_call 141; refine (unhide H1 _ (by repeat (first | exact hA0 | exact Below.refl _ _ | refine balloc2 ?_ | refine Below.drew ?_)) _ (own_nil2 _ _)).mono ?_; clear H1; rintro e w11 ⟨b1, d1, rfl, ho1, hB1⟩; have hA11 := bstep (a := w) (by repeat (first | exact hA0 | exact Below.refl _ _ | refine balloc2 ?_ | refine Below.drew ?_)) hB1; have hD11 := bstep (a := w0) (by repeat (first | exact Below.refl _ _ | exact Below.refl _ _ | refine balloc2 ?_ | refine Below.drew ?_)) hB1; have hY1 := fun p v h => cell_later hB1 (p := p) (v := v) h; obtain ⟨x0, x1, x2, x3, x4, x5, x6, x7, x8, x9, x10, x11⟩ := (l0.all hD11).twelve)
      | (go_at_call 140; refine (unhide H2 _ (by repeat (first | exact hA11 | exact Below.refl _ _ | refine balloc2 ?_ | refine Below.drew ?_)) _ (ho1.keep (by repeat (first | exact Below.refl _ _ | exact Below.refl _ _ | refine balloc2 ?_ | refine Below.drew ?_)))).mono ?_; clear H2; rintro e w12 ⟨b2, d2, rfl, ho2, hB2⟩; have hA12 := bstep (a := w) (by repeat (first | exact hA11 | exact Below.refl _ _ | refine balloc2 ?_ | refine Below.drew ?_)) hB2; have hD12 := bstep (a := w0) (by repeat (first | exact hD11 | exact Below.refl _ _ | refine balloc2 ?_ | refine Below.drew ?_)) hB2; have hY2 := fun p v h => cell_later hB2 (p := p) (v := v) h; obtain ⟨x0, x1, x2, x3, x4, x5, x6, x7, x8, x9, x10, x11⟩ := (l0.all hD12).twelve))
  all_goals
    have l12 := l0.all hD12
    clear x0 x1 x2 x3 x4 x5 x6 x7 x8 x9 x10 x11 hY1 hB1 hD11 hY2 hB2 hD12 ho1 hA11
    obtain ⟨x0, x1, x2, x3, x4, x5, x6, x7, x8, x9, x10, x11⟩ := l12.twelve
    go_wp2_with fail
    clear x0 x1 x2 x3 x4 x5 x6 x7 x8 x9 x10 x11
    obtain ⟨x0, x1, x2, x3, x4, x5, x6, x7, x8, x9, x10, x11⟩ := l12.twelve
    go_region_held3 (fun w' => w'.cell? ⟨w.heap.size, 3, none⟩ = some (.int .i64 o.nodeN) ∧ w'.cell? ⟨w.heap.size, 4, none⟩ = some (.int .i64 o.nodeR) ∧ w'.cell? ⟨w.heap.size, 5, none⟩ = some (.int .i64 o.parN) ∧ w'.cell? ⟨w.heap.size, 6, none⟩ = some (.int .i64 o.parR) ∧ w'.cell? ⟨w.heap.size, 7, none⟩ = some (.slice a1 o.key.length c1))
      (first | exact ⟨by assumption, by assumption, by assumption, by assumption, by assumption⟩ | go_keep)
      (first
        | (go_at_call 140; refine (unhide H3 _ (by repeat (first | exact hA12 | exact Below.refl _ _ | refine balloc2 ?_ | refine Below.drew ?_)) _ (ho2.keep (by repeat (first | exact Below.refl _ _ | exact Below.refl _ _ | refine balloc2 ?_ | refine Below.drew ?_)))).mono ?_; clear H3; rintro e w13 ⟨b3, d3, rfl, ho3, hB3⟩; have hA13 := bstep (a := w) (by repeat (first | exact hA12 | exact Below.refl _ _ | refine balloc2 ?_ | refine Below.drew ?_)) hB3; have hD13 := bstep (a := w12) (by repeat (first | exact Below.refl _ _ | exact Below.refl _ _ | refine balloc2 ?_ | refine Below.drew ?_)) hB3; have hY3 := fun p v h => cell_later hB3 (p := p) (v := v) h; obtain ⟨x0, x1, x2, x3, x4, x5, x6, x7, x8, x9, x10, x11⟩ := (l12.all hD13).twelve)
        | (go_at_call 140; refine (unhide H4 _ (by repeat (first | exact hA13 | exact Below.refl _ _ | refine balloc2 ?_ | refine Below.drew ?_)) _ (ho3.keep (by repeat (first | exact Below.refl _ _ | exact Below.refl _ _ | refine balloc2 ?_ | refine Below.drew ?_)))).mono ?_; clear H4; rintro e w14 ⟨b4, d4, rfl, ho4, hB4⟩; have hA14 := bstep (a := w) (by repeat (first | exact hA13 | exact Below.refl _ _ | refine balloc2 ?_ | refine Below.drew ?_)) hB4; have hD14 := bstep (a := w12) (by repeat (first | exact hD13 | exact Below.refl _ _ | refine balloc2 ?_ | refine Below.drew ?_)) hB4; have hY4 := fun p v h => cell_later hB4 (p := p) (v := v) h; obtain ⟨x0, x1, x2, x3, x4, x5, x6, x7, x8, x9, x10, x11⟩ := (l12.all hD14).twelve)
        | (go_at_call 142; refine (unhide H5 _ (by repeat (first | exact hA14 | exact Below.refl _ _ | refine balloc2 ?_ | refine Below.drew ?_)) _ (ho4.keep (by repeat (first | exact Below.refl _ _ | exact Below.refl _ _ | refine balloc2 ?_ | refine Below.drew ?_)))).mono ?_; clear H5; rintro e w15 ⟨b5, d5, rfl, ho5, hB5⟩; have hA15 := bstep (a := w) (by repeat (first | exact hA14 | exact Below.refl _ _ | refine balloc2 ?_ | refine Below.drew ?_)) hB5; have hD15 := bstep (a := w12) (by repeat (first | exact hD14 | exact Below.refl _ _ | refine balloc2 ?_ | refine Below.drew ?_)) hB5; have hY5 := fun p v h => cell_later hB5 (p := p) (v := v) h; obtain ⟨x0, x1, x2, x3, x4, x5, x6, x7, x8, x9, x10, x11⟩ := (l12.all hD15).twelve))
    all_goals
      have l15 := l12.all hD15
      clear x0 x1 x2 x3 x4 x5 x6 x7 x8 x9 x10 x11 hY3 hB3 hD13 hY4 hB4 hD14 hY5 hB5 hD15 ho3 ho4 hA13 hA14
      obtain ⟨x0, x1, x2, x3, x4, x5, x6, x7, x8, x9, x10, x11⟩ := l15.twelve
      go_wp2_with fail
      clear x0 x1 x2 x3 x4 x5 x6 x7 x8 x9 x10 x11
      go_ret
      exact ⟨b5, d5, rfl, ho5, hA15⟩

set_option maxHeartbeats 12800000 in
theorem bytesS_2 (w : World) (o : OpV) (a1 a2 a3 : Option Addr) (c1 c2 c3 : Nat) (hk : Ints w (.slice a1 o.key.length c1) o.key) (hn : Byt w (.slice a2 o.name.length c2) o.name) (ht : Byt w (.slice a3 o.text.length c3) o.text) (hs : o.key.length ≤ 2097152) (k0 : o.kind = 2) :
    Calls Tryz.prog 98 #[opVal o (.slice a1 o.key.length c1) (.slice a2 o.name.length c2) (.slice a3 o.text.length c3)] w fun e w' => ∃ a c, e = .returned (.slice a (opBytes o).length c) ∧ Own w' w.heap.size (.slice a (opBytes o).length c) (opBytes o) ∧ Below w.heap.size w w' := by
  have HK := hide hk
  have HM := hide hn
  have HX := hide ht
  clear hk hn ht
  have Ln : ([] : List Int).length = 0 := rfl
  obtain ⟨r1, e1⟩ : ∃ r, r = putAll ([] : List Int) 2 := ⟨_, rfl⟩
  have L1 := putAll_len ([] : List Int) 2
  have H1 := hide (fun (W : World) (hW : Below w.heap.size w W) (v : Value) (h : Own W w.heap.size v ([] : List Int)) => rw_base (putS_own W v ([] : List Int) 2 h.byt (by omega)) hW.size)
  rw [← e1] at L1 H1
  obtain ⟨r2, e2⟩ : ∃ r, r = putId r1 o.atN o.atR := ⟨_, rfl⟩
  have L2 := putId_len r1 o.atN o.atR
  have H2 := hide (fun (W : World) (hW : Below w.heap.size w W) (v : Value) (h : Own W w.heap.size v r1) => rw_base (putIdS_any W v r1 o.atN o.atR h.byt (by omega)) hW.size)
  rw [← e2] at L2 H2
  obtain ⟨r3, e3⟩ : ∃ r, r = putId r2 o.nodeN o.nodeR := ⟨_, rfl⟩
  have L3 := putId_len r2 o.nodeN o.nodeR
  have H3 := hide (fun (W : World) (hW : Below w.heap.size w W) (v : Value) (h : Own W w.heap.size v r2) => rw_base (putIdS_any W v r2 o.nodeN o.nodeR h.byt (by omega)) hW.size)
  rw [← e3] at L3 H3
  obtain ⟨r4, e4⟩ : ∃ r, r = putT r3 o.text := ⟨_, rfl⟩
  have L4 := putT_len r3 o.text
  have H4 := hide (fun (W : World) (hW : Below w.heap.size w W) (v : Value) (h : Own W w.heap.size v r3) => rw_base (putTS_own2 W v _ r3 o.text h.byt ((unhide HX).keep hW) (by omega)) hW.size)
  rw [← e4] at L4 H4
  have HE := hide (show opBytes o = r4 by unfold opBytes opHd; rw [k0, if_neg (by decide), if_neg (by decide), if_pos rfl]; rw [e4, e3, e2, e1])
  clear e4 L4 e3 L3 e2 L2 e1 L1
  have hA0 : Below w.heap.size w (w.alloc (.cells #[.int .i64 2, .int .i64 o.atN, .int .i64 o.atR, .int .i64 o.nodeN, .int .i64 o.nodeR, .int .i64 o.parN, .int .i64 o.parR, .slice a1 o.key.length c1, .int .i64 o.elem, .slice a2 o.name.length c2, .slice a3 o.text.length c3, .bool o.gone] 38)) := (Below.refl w.heap.size w).alloc (Nat.le_refl _) _
  have l0 := Loc.made w #[.int .i64 2, .int .i64 o.atN, .int .i64 o.atR, .int .i64 o.nodeN, .int .i64 o.nodeR, .int .i64 o.parN, .int .i64 o.parR, .slice a1 o.key.length c1, .int .i64 o.elem, .slice a2 o.name.length c2, .slice a3 o.text.length c3, .bool o.gone] 38
  rw [unhide HE]
  clear HE
  unfold opVal
  rw [k0]
  go_enter Tryz.func98, Tryz.ntmps98
  go_wp2_with fail
  generalize (w.alloc (.cells #[.int .i64 2, .int .i64 o.atN, .int .i64 o.atR, .int .i64 o.nodeN, .int .i64 o.nodeR, .int .i64 o.parN, .int .i64 o.parR, .slice a1 o.key.length c1, .int .i64 o.elem, .slice a2 o.name.length c2, .slice a3 o.text.length c3, .bool o.gone] 38)) = w0 at *
  obtain ⟨x0, x1, x2, x3, x4, x5, x6, x7, x8, x9, x10, x11⟩ := l0.twelve
  go_region_held3 (fun w' => w'.cell? ⟨w.heap.size, 0, none⟩ = some (.int .i64 2) ∧ w'.cell? ⟨w.heap.size, 1, none⟩ = some (.int .i64 o.atN) ∧ w'.cell? ⟨w.heap.size, 2, none⟩ = some (.int .i64 o.atR))
    (first | exact ⟨by assumption, by assumption, by assumption⟩ | go_keep)
    (first
      | (go_at_call 141; refine (unhide H1 _ (by repeat (first | exact hA0 | exact Below.refl _ _ | refine balloc2 ?_ | refine Below.drew ?_)) _ (own_nil2 _ _)).mono ?_; clear H1; rintro e w11 ⟨b1, d1, rfl, ho1, hB1⟩; have hA11 := bstep (a := w) (by repeat (first | exact hA0 | exact Below.refl _ _ | refine balloc2 ?_ | refine Below.drew ?_)) hB1; have hD11 := bstep (a := w0) (by repeat (first | exact Below.refl _ _ | exact Below.refl _ _ | refine balloc2 ?_ | refine Below.drew ?_)) hB1; have hY1 := fun p v h => cell_later hB1 (p := p) (v := v) h; obtain ⟨x0, x1, x2, x3, x4, x5, x6, x7, x8, x9, x10, x11⟩ := (l0.all hD11).twelve)
      | (go_at_call 140; refine (unhide H2 _ (by repeat (first | exact hA11 | exact Below.refl _ _ | refine balloc2 ?_ | refine Below.drew ?_)) _ (ho1.keep (by repeat (first | exact Below.refl _ _ | exact Below.refl _ _ | refine balloc2 ?_ | refine Below.drew ?_)))).mono ?_; clear H2; rintro e w12 ⟨b2, d2, rfl, ho2, hB2⟩; have hA12 := bstep (a := w) (by repeat (first | exact hA11 | exact Below.refl _ _ | refine balloc2 ?_ | refine Below.drew ?_)) hB2; have hD12 := bstep (a := w0) (by repeat (first | exact hD11 | exact Below.refl _ _ | refine balloc2 ?_ | refine Below.drew ?_)) hB2; have hY2 := fun p v h => cell_later hB2 (p := p) (v := v) h; obtain ⟨x0, x1, x2, x3, x4, x5, x6, x7, x8, x9, x10, x11⟩ := (l0.all hD12).twelve))
  all_goals
    have l12 := l0.all hD12
    clear x0 x1 x2 x3 x4 x5 x6 x7 x8 x9 x10 x11 hY1 hB1 hD11 hY2 hB2 hD12 ho1 hA11
    obtain ⟨x0, x1, x2, x3, x4, x5, x6, x7, x8, x9, x10, x11⟩ := l12.twelve
    go_wp2_with fail
    clear x0 x1 x2 x3 x4 x5 x6 x7 x8 x9 x10 x11
    obtain ⟨x0, x1, x2, x3, x4, x5, x6, x7, x8, x9, x10, x11⟩ := l12.twelve
    go_region_held3 (fun w' => w'.cell? ⟨w.heap.size, 3, none⟩ = some (.int .i64 o.nodeN) ∧ w'.cell? ⟨w.heap.size, 4, none⟩ = some (.int .i64 o.nodeR) ∧ w'.cell? ⟨w.heap.size, 10, none⟩ = some (.slice a3 o.text.length c3))
      (first | exact ⟨by assumption, by assumption, by assumption⟩ | go_keep)
      (first
        | (go_at_call 140; refine (unhide H3 _ (by repeat (first | exact hA12 | exact Below.refl _ _ | refine balloc2 ?_ | refine Below.drew ?_)) _ (ho2.keep (by repeat (first | exact Below.refl _ _ | exact Below.refl _ _ | refine balloc2 ?_ | refine Below.drew ?_)))).mono ?_; clear H3; rintro e w13 ⟨b3, d3, rfl, ho3, hB3⟩; have hA13 := bstep (a := w) (by repeat (first | exact hA12 | exact Below.refl _ _ | refine balloc2 ?_ | refine Below.drew ?_)) hB3; have hD13 := bstep (a := w12) (by repeat (first | exact Below.refl _ _ | exact Below.refl _ _ | refine balloc2 ?_ | refine Below.drew ?_)) hB3; have hY3 := fun p v h => cell_later hB3 (p := p) (v := v) h; obtain ⟨x0, x1, x2, x3, x4, x5, x6, x7, x8, x9, x10, x11⟩ := (l12.all hD13).twelve)
        | (go_at_call 143; refine (unhide H4 _ (by repeat (first | exact hA13 | exact Below.refl _ _ | refine balloc2 ?_ | refine Below.drew ?_)) _ (ho3.keep (by repeat (first | exact Below.refl _ _ | exact Below.refl _ _ | refine balloc2 ?_ | refine Below.drew ?_)))).mono ?_; clear H4; rintro e w14 ⟨b4, d4, rfl, ho4, hB4⟩; have hA14 := bstep (a := w) (by repeat (first | exact hA13 | exact Below.refl _ _ | refine balloc2 ?_ | refine Below.drew ?_)) hB4; have hD14 := bstep (a := w12) (by repeat (first | exact hD13 | exact Below.refl _ _ | refine balloc2 ?_ | refine Below.drew ?_)) hB4; have hY4 := fun p v h => cell_later hB4 (p := p) (v := v) h; obtain ⟨x0, x1, x2, x3, x4, x5, x6, x7, x8, x9, x10, x11⟩ := (l12.all hD14).twelve))
    all_goals
      have l14 := l12.all hD14
      clear x0 x1 x2 x3 x4 x5 x6 x7 x8 x9 x10 x11 hY3 hB3 hD13 hY4 hB4 hD14 ho3 hA13
      obtain ⟨x0, x1, x2, x3, x4, x5, x6, x7, x8, x9, x10, x11⟩ := l14.twelve
      go_wp2_with fail
      clear x0 x1 x2 x3 x4 x5 x6 x7 x8 x9 x10 x11
      go_ret
      exact ⟨b4, d4, rfl, ho4, hA14⟩

set_option maxHeartbeats 12800000 in
theorem bytesS_g (w : World) (o : OpV) (a1 a2 a3 : Option Addr) (c1 c2 c3 : Nat) (hk : Ints w (.slice a1 o.key.length c1) o.key) (hn : Byt w (.slice a2 o.name.length c2) o.name) (ht : Byt w (.slice a3 o.text.length c3) o.text) (hs : o.key.length ≤ 2097152) (k0 : o.kind ≠ 0) (k1 : o.kind ≠ 1) (k2 : o.kind ≠ 2) (hg : o.gone = true) :
    Calls Tryz.prog 98 #[opVal o (.slice a1 o.key.length c1) (.slice a2 o.name.length c2) (.slice a3 o.text.length c3)] w fun e w' => ∃ a c, e = .returned (.slice a (opBytes o).length c) ∧ Own w' w.heap.size (.slice a (opBytes o).length c) (opBytes o) ∧ Below w.heap.size w w' := by
  have HK := hide hk
  have HM := hide hn
  have HX := hide ht
  clear hk hn ht
  have Ln : ([] : List Int).length = 0 := rfl
  obtain ⟨r1, e1⟩ : ∃ r, r = putAll ([] : List Int) o.kind := ⟨_, rfl⟩
  have L1 := putAll_len ([] : List Int) o.kind
  have H1 := hide (fun (W : World) (hW : Below w.heap.size w W) (v : Value) (h : Own W w.heap.size v ([] : List Int)) => rw_base (putS_own W v ([] : List Int) o.kind h.byt (by omega)) hW.size)
  rw [← e1] at L1 H1
  obtain ⟨r2, e2⟩ : ∃ r, r = putId r1 o.atN o.atR := ⟨_, rfl⟩
  have L2 := putId_len r1 o.atN o.atR
  have H2 := hide (fun (W : World) (hW : Below w.heap.size w W) (v : Value) (h : Own W w.heap.size v r1) => rw_base (putIdS_any W v r1 o.atN o.atR h.byt (by omega)) hW.size)
  rw [← e2] at L2 H2
  obtain ⟨r3, e3⟩ : ∃ r, r = putId r2 o.nodeN o.nodeR := ⟨_, rfl⟩
  have L3 := putId_len r2 o.nodeN o.nodeR
  have H3 := hide (fun (W : World) (hW : Below w.heap.size w W) (v : Value) (h : Own W w.heap.size v r2) => rw_base (putIdS_any W v r2 o.nodeN o.nodeR h.byt (by omega)) hW.size)
  rw [← e3] at L3 H3
  obtain ⟨r4, e4⟩ : ∃ r, r = putT r3 o.name := ⟨_, rfl⟩
  have L4 := putT_len r3 o.name
  have H4 := hide (fun (W : World) (hW : Below w.heap.size w W) (v : Value) (h : Own W w.heap.size v r3) => rw_base (putTS_own2 W v _ r3 o.name h.byt ((unhide HM).keep hW) (by omega)) hW.size)
  rw [← e4] at L4 H4
  obtain ⟨r5, e5⟩ : ∃ r, r = putAll r4 1 := ⟨_, rfl⟩
  have L5 := putAll_len r4 1
  have H5 := hide (fun (W : World) (hW : Below w.heap.size w W) (v : Value) (h : Own W w.heap.size v r4) => rw_base (putS_own W v r4 1 h.byt (by omega)) hW.size)
  rw [← e5] at L5 H5
  have HE := hide (show opBytes o = r5 by unfold opBytes opHd; rw [if_neg k0, if_neg k1, if_neg k2, if_pos hg]; rw [e5, e4, e3, e2, e1])
  clear e5 L5 e4 L4 e3 L3 e2 L2 e1 L1
  have hA0 : Below w.heap.size w (w.alloc (.cells #[.int .i64 o.kind, .int .i64 o.atN, .int .i64 o.atR, .int .i64 o.nodeN, .int .i64 o.nodeR, .int .i64 o.parN, .int .i64 o.parR, .slice a1 o.key.length c1, .int .i64 o.elem, .slice a2 o.name.length c2, .slice a3 o.text.length c3, .bool o.gone] 38)) := (Below.refl w.heap.size w).alloc (Nat.le_refl _) _
  have l0 := Loc.made w #[.int .i64 o.kind, .int .i64 o.atN, .int .i64 o.atR, .int .i64 o.nodeN, .int .i64 o.nodeR, .int .i64 o.parN, .int .i64 o.parR, .slice a1 o.key.length c1, .int .i64 o.elem, .slice a2 o.name.length c2, .slice a3 o.text.length c3, .bool o.gone] 38
  rw [unhide HE]
  clear HE
  unfold opVal
  have q0 : (o.kind == 0) = false := by simpa using k0
  have q1 : (o.kind == 1) = false := by simpa using k1
  have q2 : (o.kind == 2) = false := by simpa using k2
  clear k0 k1 k2
  have HG := hide hg
  clear hg
  go_enter Tryz.func98, Tryz.ntmps98
  go_wp2_with fail
  generalize (w.alloc (.cells #[.int .i64 o.kind, .int .i64 o.atN, .int .i64 o.atR, .int .i64 o.nodeN, .int .i64 o.nodeR, .int .i64 o.parN, .int .i64 o.parR, .slice a1 o.key.length c1, .int .i64 o.elem, .slice a2 o.name.length c2, .slice a3 o.text.length c3, .bool o.gone] 38)) = w0 at *
  obtain ⟨x0, x1, x2, x3, x4, x5, x6, x7, x8, x9, x10, x11⟩ := l0.twelve
  go_region_held3 (fun w' => w'.cell? ⟨w.heap.size, 0, none⟩ = some (.int .i64 o.kind) ∧ w'.cell? ⟨w.heap.size, 1, none⟩ = some (.int .i64 o.atN) ∧ w'.cell? ⟨w.heap.size, 2, none⟩ = some (.int .i64 o.atR))
    (first | exact ⟨by assumption, by assumption, by assumption⟩ | go_keep)
    (first
      | (go_at_call 141; refine (unhide H1 _ (by repeat (first | exact hA0 | exact Below.refl _ _ | refine balloc2 ?_ | refine Below.drew ?_)) _ (own_nil2 _ _)).mono ?_; clear H1; rintro e w11 ⟨b1, d1, rfl, ho1, hB1⟩; have hA11 := bstep (a := w) (by repeat (first | exact hA0 | exact Below.refl _ _ | refine balloc2 ?_ | refine Below.drew ?_)) hB1; have hD11 := bstep (a := w0) (by repeat (first | exact Below.refl _ _ | exact Below.refl _ _ | refine balloc2 ?_ | refine Below.drew ?_)) hB1; have hY1 := fun p v h => cell_later hB1 (p := p) (v := v) h; obtain ⟨x0, x1, x2, x3, x4, x5, x6, x7, x8, x9, x10, x11⟩ := (l0.all hD11).twelve)
      | (go_at_call 140; refine (unhide H2 _ (by repeat (first | exact hA11 | exact Below.refl _ _ | refine balloc2 ?_ | refine Below.drew ?_)) _ (ho1.keep (by repeat (first | exact Below.refl _ _ | exact Below.refl _ _ | refine balloc2 ?_ | refine Below.drew ?_)))).mono ?_; clear H2; rintro e w12 ⟨b2, d2, rfl, ho2, hB2⟩; have hA12 := bstep (a := w) (by repeat (first | exact hA11 | exact Below.refl _ _ | refine balloc2 ?_ | refine Below.drew ?_)) hB2; have hD12 := bstep (a := w0) (by repeat (first | exact hD11 | exact Below.refl _ _ | refine balloc2 ?_ | refine Below.drew ?_)) hB2; have hY2 := fun p v h => cell_later hB2 (p := p) (v := v) h; obtain ⟨x0, x1, x2, x3, x4, x5, x6, x7, x8, x9, x10, x11⟩ := (l0.all hD12).twelve))
  all_goals
    have l12 := l0.all hD12
    clear x0 x1 x2 x3 x4 x5 x6 x7 x8 x9 x10 x11 hY1 hB1 hD11 hY2 hB2 hD12 ho1 hA11
    obtain ⟨x0, x1, x2, x3, x4, x5, x6, x7, x8, x9, x10, x11⟩ := l12.twelve
    go_wp2_with fail
    clear x0 x1 x2 x3 x4 x5 x6 x7 x8 x9 x10 x11
    obtain ⟨x0, x1, x2, x3, x4, x5, x6, x7, x8, x9, x10, x11⟩ := l12.twelve
    go_region_held3 (fun w' => w'.cell? ⟨w.heap.size, 3, none⟩ = some (.int .i64 o.nodeN) ∧ w'.cell? ⟨w.heap.size, 4, none⟩ = some (.int .i64 o.nodeR) ∧ w'.cell? ⟨w.heap.size, 9, none⟩ = some (.slice a2 o.name.length c2))
      (first | exact ⟨by assumption, by assumption, by assumption⟩ | go_keep)
      (first
        | (go_at_call 140; refine (unhide H3 _ (by repeat (first | exact hA12 | exact Below.refl _ _ | refine balloc2 ?_ | refine Below.drew ?_)) _ (ho2.keep (by repeat (first | exact Below.refl _ _ | exact Below.refl _ _ | refine balloc2 ?_ | refine Below.drew ?_)))).mono ?_; clear H3; rintro e w13 ⟨b3, d3, rfl, ho3, hB3⟩; have hA13 := bstep (a := w) (by repeat (first | exact hA12 | exact Below.refl _ _ | refine balloc2 ?_ | refine Below.drew ?_)) hB3; have hD13 := bstep (a := w12) (by repeat (first | exact Below.refl _ _ | exact Below.refl _ _ | refine balloc2 ?_ | refine Below.drew ?_)) hB3; have hY3 := fun p v h => cell_later hB3 (p := p) (v := v) h; obtain ⟨x0, x1, x2, x3, x4, x5, x6, x7, x8, x9, x10, x11⟩ := (l12.all hD13).twelve)
        | (go_at_call 143; refine (unhide H4 _ (by repeat (first | exact hA13 | exact Below.refl _ _ | refine balloc2 ?_ | refine Below.drew ?_)) _ (ho3.keep (by repeat (first | exact Below.refl _ _ | exact Below.refl _ _ | refine balloc2 ?_ | refine Below.drew ?_)))).mono ?_; clear H4; rintro e w14 ⟨b4, d4, rfl, ho4, hB4⟩; have hA14 := bstep (a := w) (by repeat (first | exact hA13 | exact Below.refl _ _ | refine balloc2 ?_ | refine Below.drew ?_)) hB4; have hD14 := bstep (a := w12) (by repeat (first | exact hD13 | exact Below.refl _ _ | refine balloc2 ?_ | refine Below.drew ?_)) hB4; have hY4 := fun p v h => cell_later hB4 (p := p) (v := v) h; obtain ⟨x0, x1, x2, x3, x4, x5, x6, x7, x8, x9, x10, x11⟩ := (l12.all hD14).twelve))
    all_goals
      have l14 := l12.all hD14
      clear x0 x1 x2 x3 x4 x5 x6 x7 x8 x9 x10 x11 hY3 hB3 hD13 hY4 hB4 hD14 ho3 hA13
      obtain ⟨x0, x1, x2, x3, x4, x5, x6, x7, x8, x9, x10, x11⟩ := l14.twelve
      rw [unhide HG] at x11
      go_wp2_with fail
      clear x0 x1 x2 x3 x4 x5 x6 x7 x8 x9
      clear x10 x11
      refine (unhide H5 _ hA14 _ ho4).mono ?_
      rintro e w15 ⟨b5, d5, rfl, ho5, hB5⟩
      have hA15 := bstep hA14 hB5
      go_wp2_with fail
      go_ret
      exact ⟨b5, d5, rfl, ho5, hA15⟩

set_option maxHeartbeats 12800000 in
theorem bytesS_n (w : World) (o : OpV) (a1 a2 a3 : Option Addr) (c1 c2 c3 : Nat) (hk : Ints w (.slice a1 o.key.length c1) o.key) (hn : Byt w (.slice a2 o.name.length c2) o.name) (ht : Byt w (.slice a3 o.text.length c3) o.text) (hs : o.key.length ≤ 2097152) (k0 : o.kind ≠ 0) (k1 : o.kind ≠ 1) (k2 : o.kind ≠ 2) (hg : o.gone = false) :
    Calls Tryz.prog 98 #[opVal o (.slice a1 o.key.length c1) (.slice a2 o.name.length c2) (.slice a3 o.text.length c3)] w fun e w' => ∃ a c, e = .returned (.slice a (opBytes o).length c) ∧ Own w' w.heap.size (.slice a (opBytes o).length c) (opBytes o) ∧ Below w.heap.size w w' := by
  have HK := hide hk
  have HM := hide hn
  have HX := hide ht
  clear hk hn ht
  have Ln : ([] : List Int).length = 0 := rfl
  obtain ⟨r1, e1⟩ : ∃ r, r = putAll ([] : List Int) o.kind := ⟨_, rfl⟩
  have L1 := putAll_len ([] : List Int) o.kind
  have H1 := hide (fun (W : World) (hW : Below w.heap.size w W) (v : Value) (h : Own W w.heap.size v ([] : List Int)) => rw_base (putS_own W v ([] : List Int) o.kind h.byt (by omega)) hW.size)
  rw [← e1] at L1 H1
  obtain ⟨r2, e2⟩ : ∃ r, r = putId r1 o.atN o.atR := ⟨_, rfl⟩
  have L2 := putId_len r1 o.atN o.atR
  have H2 := hide (fun (W : World) (hW : Below w.heap.size w W) (v : Value) (h : Own W w.heap.size v r1) => rw_base (putIdS_any W v r1 o.atN o.atR h.byt (by omega)) hW.size)
  rw [← e2] at L2 H2
  obtain ⟨r3, e3⟩ : ∃ r, r = putId r2 o.nodeN o.nodeR := ⟨_, rfl⟩
  have L3 := putId_len r2 o.nodeN o.nodeR
  have H3 := hide (fun (W : World) (hW : Below w.heap.size w W) (v : Value) (h : Own W w.heap.size v r2) => rw_base (putIdS_any W v r2 o.nodeN o.nodeR h.byt (by omega)) hW.size)
  rw [← e3] at L3 H3
  obtain ⟨r4, e4⟩ : ∃ r, r = putT r3 o.name := ⟨_, rfl⟩
  have L4 := putT_len r3 o.name
  have H4 := hide (fun (W : World) (hW : Below w.heap.size w W) (v : Value) (h : Own W w.heap.size v r3) => rw_base (putTS_own2 W v _ r3 o.name h.byt ((unhide HM).keep hW) (by omega)) hW.size)
  rw [← e4] at L4 H4
  obtain ⟨r5, e5⟩ : ∃ r, r = putAll r4 0 := ⟨_, rfl⟩
  have L5 := putAll_len r4 0
  have H5 := hide (fun (W : World) (hW : Below w.heap.size w W) (v : Value) (h : Own W w.heap.size v r4) => rw_base (putS_own W v r4 0 h.byt (by omega)) hW.size)
  rw [← e5] at L5 H5
  obtain ⟨r6, e6⟩ : ∃ r, r = putT r5 o.text := ⟨_, rfl⟩
  have L6 := putT_len r5 o.text
  have H6 := hide (fun (W : World) (hW : Below w.heap.size w W) (v : Value) (h : Own W w.heap.size v r5) => rw_base (putTS_own2 W v _ r5 o.text h.byt ((unhide HX).keep hW) (by omega)) hW.size)
  rw [← e6] at L6 H6
  have HE := hide (show opBytes o = r6 by unfold opBytes opHd; rw [if_neg k0, if_neg k1, if_neg k2, if_neg (by rw [hg]; decide)]; rw [e6, e5, e4, e3, e2, e1])
  clear e6 L6 e5 L5 e4 L4 e3 L3 e2 L2 e1 L1
  have hA0 : Below w.heap.size w (w.alloc (.cells #[.int .i64 o.kind, .int .i64 o.atN, .int .i64 o.atR, .int .i64 o.nodeN, .int .i64 o.nodeR, .int .i64 o.parN, .int .i64 o.parR, .slice a1 o.key.length c1, .int .i64 o.elem, .slice a2 o.name.length c2, .slice a3 o.text.length c3, .bool o.gone] 38)) := (Below.refl w.heap.size w).alloc (Nat.le_refl _) _
  have l0 := Loc.made w #[.int .i64 o.kind, .int .i64 o.atN, .int .i64 o.atR, .int .i64 o.nodeN, .int .i64 o.nodeR, .int .i64 o.parN, .int .i64 o.parR, .slice a1 o.key.length c1, .int .i64 o.elem, .slice a2 o.name.length c2, .slice a3 o.text.length c3, .bool o.gone] 38
  rw [unhide HE]
  clear HE
  unfold opVal
  have q0 : (o.kind == 0) = false := by simpa using k0
  have q1 : (o.kind == 1) = false := by simpa using k1
  have q2 : (o.kind == 2) = false := by simpa using k2
  clear k0 k1 k2
  have HG := hide hg
  clear hg
  go_enter Tryz.func98, Tryz.ntmps98
  go_wp2_with fail
  generalize (w.alloc (.cells #[.int .i64 o.kind, .int .i64 o.atN, .int .i64 o.atR, .int .i64 o.nodeN, .int .i64 o.nodeR, .int .i64 o.parN, .int .i64 o.parR, .slice a1 o.key.length c1, .int .i64 o.elem, .slice a2 o.name.length c2, .slice a3 o.text.length c3, .bool o.gone] 38)) = w0 at *
  obtain ⟨x0, x1, x2, x3, x4, x5, x6, x7, x8, x9, x10, x11⟩ := l0.twelve
  go_region_held3 (fun w' => w'.cell? ⟨w.heap.size, 0, none⟩ = some (.int .i64 o.kind) ∧ w'.cell? ⟨w.heap.size, 1, none⟩ = some (.int .i64 o.atN) ∧ w'.cell? ⟨w.heap.size, 2, none⟩ = some (.int .i64 o.atR))
    (first | exact ⟨by assumption, by assumption, by assumption⟩ | go_keep)
    (first
      | (go_at_call 141; refine (unhide H1 _ (by repeat (first | exact hA0 | exact Below.refl _ _ | refine balloc2 ?_ | refine Below.drew ?_)) _ (own_nil2 _ _)).mono ?_; clear H1; rintro e w11 ⟨b1, d1, rfl, ho1, hB1⟩; have hA11 := bstep (a := w) (by repeat (first | exact hA0 | exact Below.refl _ _ | refine balloc2 ?_ | refine Below.drew ?_)) hB1; have hD11 := bstep (a := w0) (by repeat (first | exact Below.refl _ _ | exact Below.refl _ _ | refine balloc2 ?_ | refine Below.drew ?_)) hB1; have hY1 := fun p v h => cell_later hB1 (p := p) (v := v) h; obtain ⟨x0, x1, x2, x3, x4, x5, x6, x7, x8, x9, x10, x11⟩ := (l0.all hD11).twelve)
      | (go_at_call 140; refine (unhide H2 _ (by repeat (first | exact hA11 | exact Below.refl _ _ | refine balloc2 ?_ | refine Below.drew ?_)) _ (ho1.keep (by repeat (first | exact Below.refl _ _ | exact Below.refl _ _ | refine balloc2 ?_ | refine Below.drew ?_)))).mono ?_; clear H2; rintro e w12 ⟨b2, d2, rfl, ho2, hB2⟩; have hA12 := bstep (a := w) (by repeat (first | exact hA11 | exact Below.refl _ _ | refine balloc2 ?_ | refine Below.drew ?_)) hB2; have hD12 := bstep (a := w0) (by repeat (first | exact hD11 | exact Below.refl _ _ | refine balloc2 ?_ | refine Below.drew ?_)) hB2; have hY2 := fun p v h => cell_later hB2 (p := p) (v := v) h; obtain ⟨x0, x1, x2, x3, x4, x5, x6, x7, x8, x9, x10, x11⟩ := (l0.all hD12).twelve))
  all_goals
    have l12 := l0.all hD12
    clear x0 x1 x2 x3 x4 x5 x6 x7 x8 x9 x10 x11 hY1 hB1 hD11 hY2 hB2 hD12 ho1 hA11
    obtain ⟨x0, x1, x2, x3, x4, x5, x6, x7, x8, x9, x10, x11⟩ := l12.twelve
    go_wp2_with fail
    clear x0 x1 x2 x3 x4 x5 x6 x7 x8 x9 x10 x11
    obtain ⟨x0, x1, x2, x3, x4, x5, x6, x7, x8, x9, x10, x11⟩ := l12.twelve
    go_region_held3 (fun w' => w'.cell? ⟨w.heap.size, 3, none⟩ = some (.int .i64 o.nodeN) ∧ w'.cell? ⟨w.heap.size, 4, none⟩ = some (.int .i64 o.nodeR) ∧ w'.cell? ⟨w.heap.size, 9, none⟩ = some (.slice a2 o.name.length c2))
      (first | exact ⟨by assumption, by assumption, by assumption⟩ | go_keep)
      (first
        | (go_at_call 140; refine (unhide H3 _ (by repeat (first | exact hA12 | exact Below.refl _ _ | refine balloc2 ?_ | refine Below.drew ?_)) _ (ho2.keep (by repeat (first | exact Below.refl _ _ | exact Below.refl _ _ | refine balloc2 ?_ | refine Below.drew ?_)))).mono ?_; clear H3; rintro e w13 ⟨b3, d3, rfl, ho3, hB3⟩; have hA13 := bstep (a := w) (by repeat (first | exact hA12 | exact Below.refl _ _ | refine balloc2 ?_ | refine Below.drew ?_)) hB3; have hD13 := bstep (a := w12) (by repeat (first | exact Below.refl _ _ | exact Below.refl _ _ | refine balloc2 ?_ | refine Below.drew ?_)) hB3; have hY3 := fun p v h => cell_later hB3 (p := p) (v := v) h; obtain ⟨x0, x1, x2, x3, x4, x5, x6, x7, x8, x9, x10, x11⟩ := (l12.all hD13).twelve)
        | (go_at_call 143; refine (unhide H4 _ (by repeat (first | exact hA13 | exact Below.refl _ _ | refine balloc2 ?_ | refine Below.drew ?_)) _ (ho3.keep (by repeat (first | exact Below.refl _ _ | exact Below.refl _ _ | refine balloc2 ?_ | refine Below.drew ?_)))).mono ?_; clear H4; rintro e w14 ⟨b4, d4, rfl, ho4, hB4⟩; have hA14 := bstep (a := w) (by repeat (first | exact hA13 | exact Below.refl _ _ | refine balloc2 ?_ | refine Below.drew ?_)) hB4; have hD14 := bstep (a := w12) (by repeat (first | exact hD13 | exact Below.refl _ _ | refine balloc2 ?_ | refine Below.drew ?_)) hB4; have hY4 := fun p v h => cell_later hB4 (p := p) (v := v) h; obtain ⟨x0, x1, x2, x3, x4, x5, x6, x7, x8, x9, x10, x11⟩ := (l12.all hD14).twelve))
    all_goals
      have l14 := l12.all hD14
      clear x0 x1 x2 x3 x4 x5 x6 x7 x8 x9 x10 x11 hY3 hB3 hD13 hY4 hB4 hD14 ho3 hA13
      obtain ⟨x0, x1, x2, x3, x4, x5, x6, x7, x8, x9, x10, x11⟩ := l14.twelve
      rw [unhide HG] at x11
      go_wp2_with fail
      clear x0 x1 x2 x3 x4 x5 x6 x7 x8 x9
      go_region_held3 (fun w' => w'.cell? ⟨w.heap.size, 10, none⟩ = some (.slice a3 o.text.length c3))
        (first | assumption | go_keep)
        (first
          | (go_at_call 141; refine (unhide H5 _ (by repeat (first | exact hA14 | exact Below.refl _ _ | refine balloc2 ?_ | refine Below.drew ?_)) _ (ho4.keep (by repeat (first | exact Below.refl _ _ | exact Below.refl _ _ | refine balloc2 ?_ | refine Below.drew ?_)))).mono ?_; clear H5; rintro e w15 ⟨b5, d5, rfl, ho5, hB5⟩; have hA15 := bstep (a := w) (by repeat (first | exact hA14 | exact Below.refl _ _ | refine balloc2 ?_ | refine Below.drew ?_)) hB5; have hD15 := bstep (a := w14) (by repeat (first | exact Below.refl _ _ | exact Below.refl _ _ | refine balloc2 ?_ | refine Below.drew ?_)) hB5; have x10 := (l14.all hD15).twelve.2.2.2.2.2.2.2.2.2.2.1)
          | (go_at_call 143; refine (unhide H6 _ hA15 _ ho5).mono ?_; clear H6; rintro e w16 ⟨b6, d6, rfl, ho6, hB6⟩; have hA16 := bstep (a := w) hA15 hB6; have hD16 := bstep (a := w14) hD15 hB6; have x10 := (l14.all hD16).twelve.2.2.2.2.2.2.2.2.2.2.1))
      all_goals
        go_wp2_with fail
        go_ret
        exact ⟨b6, d6, rfl, ho6, hA16⟩

/-- spec.l4bytes, whatever it is asked. -/
theorem bytesS_any (w : World) (v : Value) (o : OpV) (h : RdOp w v o) (hs : o.key.length ≤ 2097152) :
    Calls Tryz.prog 98 #[v] w fun e w' => ∃ a c, e = .returned (.slice a (opBytes o).length c) ∧ Own w' w.heap.size (.slice a (opBytes o).length c) (opBytes o) ∧ Below w.heap.size w w' := by
  obtain ⟨k, n, t, rfl, hk, hn, ht⟩ := h
  obtain ⟨a1, c1, rfl, _, _⟩ := hk.shape
  obtain ⟨a2, c2, rfl, _, _⟩ := hn.shape
  obtain ⟨a3, c3, rfl, _, _⟩ := ht.shape
  by_cases k0 : o.kind = 0
  · exact bytesS_0 w o a1 a2 a3 c1 c2 c3 hk hn ht hs k0
  by_cases k1 : o.kind = 1
  · exact bytesS_1 w o a1 a2 a3 c1 c2 c3 hk hn ht hs k1
  by_cases k2 : o.kind = 2
  · exact bytesS_2 w o a1 a2 a3 c1 c2 c3 hk hn ht hs k2
  rcases Bool.eq_false_or_eq_true o.gone with hg | hg
  · exact bytesS_g w o a1 a2 a3 c1 c2 c3 hk hn ht hs k0 k1 k2 hg
  · exact bytesS_n w o a1 a2 a3 c1 c2 c3 hk hn ht hs k0 k1 k2 hg
end Go.Proofs.YtaoodcielfabdaaGreat

/- spec.l5put. -/
namespace Go.Proofs.YtaoodcielfabdaaGreat
open Go.RowKit
set_option linter.unusedVariables false
set_option maxRecDepth 100000

theorem bstepF {a b c : World} {S : List Nat} (h : Below a.heap.size a b) (f : Frm b c S) (hs : ∀ g ∈ S, a.heap.size ≤ g) : Below a.heap.size a c := h.trans (f.below h.size hs)
/-- The operations with one more put among them. -/
def putL (l : List OpV) (o : OpV) : List OpV :=
  if there l o.atN o.atR then (if klB (opBytes o) (opBytes (l.getD (posO l o.atN o.atR) o)) then l.set (posO l o.atN o.atR) o else l)
  else if 150 ≤ l.length then l else l.take (posO l o.atN o.atR) ++ [o] ++ l.drop (posO l o.atN o.atR)
def putOk (l : List OpV) (o : OpV) : Bool := there l o.atN o.atR || decide (l.length < 150)

theorem ShOps.low {w0 w : World} {b b' : Nat} {v : Value} {l : List OpV} (h : ShOps w0 w b v l) (hb : b' ≤ b) : ShOps w0 w b' v l := by
  obtain ⟨Cs, z1, z2, z3⟩ := h
  exact ⟨Cs, z1, z2, ownsRow_base z3 b' hb⟩

end Go.Proofs.YtaoodcielfabdaaGreat
