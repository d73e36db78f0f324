/- Own texts joined: EqZ, EqJ, EqP, ToZ, ToO, OwO, OpsT, OwOs, LesI, OpsM, Str, AttrS, Sz, ToT. -/
import Derived.Test.YtkmmhlimihkgfaaGreatJa
import Derived.Test.YtkmmhlimihkgfaaGreatChecked
import Derived.Deep.QuietTactic
import Derived.BigQuiet
import Derived.Deep.RegionHeld3
import Derived.WalkLawsBesides

/- The law's own helper that holds two rows of bytes against each other, by its contract. -/
namespace Go.Proofs.YtkmmhlimihkgfaaGreat
open Go.RowKit
set_option linter.unusedVariables false

set_option maxHeartbeats 1600000 in
set_option maxRecDepth 1000000 in
theorem eqZ_any (w : World) (u v : Value) (a b : List Int) (hu : Ints w u a) (hv : Ints w v b) :
    Calls Tryz.prog 52 #[u, v] w fun e w' => e = .returned (.bool (decide (a = b))) ∧ Below w.heap.size w w' := by
  have hma := hu.2.1
  have hmb := hv.2.1
  unfold maxLen at hma hmb
  by_cases hl : a.length = b.length
  · by_cases h0 : a.length = 0
    · have ha : a = [] := List.eq_nil_of_length_eq_zero h0
      have hb : b = [] := List.eq_nil_of_length_eq_zero (by omega)
      subst ha hb
      obtain ⟨a1, c1, rfl, _⟩ := hu.shape
      obtain ⟨a2, c2, rfl, _⟩ := hv.shape
      go_enter Tryz.func52, Tryz.ntmps52
      go_wp2
      refine wp_loop_rounds 1 ?_
      rw [rounds_succ]
      go_wp2
      go_ret
      exact ⟨rfl, Below.refl _ _⟩
    · obtain ⟨hoka, _, ⟨rfl, rfl⟩ | ⟨x, cap, rfl, hc, rfl⟩ | ⟨p, off, cap, rfl, h1, h2, h3, h4, h5⟩⟩ := hu
      · simp at h0
      · simp at h0
      obtain ⟨hokb, _, ⟨rfl, rfl⟩ | ⟨x, cap, rfl, hc, rfl⟩ | ⟨q, off', cap', rfl, g1, g2, g3, g4, g5⟩⟩ := hv
      · simp at hl; simp [hl] at h0
      · simp at hl; simp [hl] at h0
      generalize hA : a.length = n at *
      have HL := hide hl
      clear hl
      rw [← unhide HL]
      go_enter Tryz.func52, Tryz.ntmps52
      go_wp2
      go_loopw [5] (fun i wr => ∃ k : Nat, k ≤ n ∧ i = .int .i64 k ∧ Hid (a.take k = b.take k) ∧ Below w.heap.size w wr) (fun i _ => n - (intOf i).toNat)
      case atStart => exact ⟨0, Nat.zero_le _, rfl, hide rfl, Below.refl _ _⟩
      case round =>
        obtain ⟨k, hk, rfl, ht, hB⟩ := hrel
        by_cases hlt : k < n
        · obtain ⟨x, hx⟩ : ∃ x, x = a.getD k 0 := ⟨_, rfl⟩
          obtain ⟨y, hy⟩ : ∃ y, y = b.getD k 0 := ⟨_, rfl⟩
          have c1 : wr.cell? ⟨p, off + k, none⟩ = some (.int .i64 x) := by rw [hx]; exact (hB.cell (p := ⟨p, off + k, none⟩) h4).trans (h5 k hlt)
          have c2 : wr.cell? ⟨q, off' + k, none⟩ = some (.int .i64 y) := by rw [hy]; exact (hB.cell (p := ⟨q, off' + k, none⟩) g4).trans (g5 k (by have := unhide HL; omega))
          have hka : k < a.length := by omega
          have hkb : k < b.length := by have := unhide HL; omega
          rw [getD_at hka] at hx
          rw [getD_at hkb] at hy
          have HX := hide hx
          have HY := hide hy
          have hlt' : (k : Int) < (n : Int) := by omega
          clear hx hy h5 g5
          by_cases hxy : x = y
          · have hne : (x != y) = false := by simp [hxy]
            clear hxy
            go_wp2
            go_quiet (fail)
            go_wp2
            go_roundw
            case rel => exact ⟨k + 1, by omega, by go_num, hide (take_eq_step (unhide ht) hka hkb (by rw [← unhide HX, ← unhide HY]; simpa using hne)), below_drewN hB _⟩
            case measure => simp [intOf]; omega
          · have hne : (x != y) = true := by simp [hxy]
            have hd : decide (a = b) = false := decide_ne hka hkb (by rw [← unhide HX, ← unhide HY]; exact hxy)
            have HD := hide hd
            clear hxy hd
            go_wp2
            go_quiet (fail)
            go_wp2
            go_ret
            exact ⟨by rw [unhide HD]; rfl, below_drewN hB _⟩
        · have e : k = n := by omega
          have hd : decide (a = b) = true := by
            have h := unhide ht
            rw [List.take_of_length_le (by omega), List.take_of_length_le (by have := unhide HL; omega)] at h
            simpa using h
          have HD := hide hd
          clear hd ht
          subst e
          go_wp2
          go_ret
          exact ⟨by rw [unhide HD]; rfl, hB⟩
  · have hd : decide (a = b) = false := by
      simp only [decide_eq_false_iff_not]
      intro h; subst h; exact hl rfl
    have hne : ((a.length : Int) != (b.length : Int)) = true := by simp; omega
    have HD := hide hd
    clear hd
    obtain ⟨a1, c1, rfl, _⟩ := hu.shape
    obtain ⟨a2, c2, rfl, _⟩ := hv.shape
    go_enter Tryz.func52, Tryz.ntmps52
    go_wp2
    go_ret
    exact ⟨by rw [unhide HD]; rfl, Below.refl _ _⟩
end Go.Proofs.YtkmmhlimihkgfaaGreat

/- laws.eqByteS, laws.eqId of two that read the same. -/
namespace Go.Proofs.YtkmmhlimihkgfaaGreat
open Go.RowKit
set_option linter.unusedVariables false
set_option maxRecDepth 100000

theorem eqB4_true (w : World) (u v : Value) (a : List Int) (hu : Byt w u a) (hv : Byt w v a) : Calls Tryz.prog 53 #[u, v] w fun e w' => e = .returned (.bool true) ∧ Below w.heap.size w w' := by
  refine (eqB_any w u v a a hu hv).mono ?_
  rintro e w' ⟨rfl, h⟩
  exact ⟨by simp, h⟩
theorem eqId_true (w : World) (n r : Int) : Calls Tryz.prog 51 #[.agg #[.int .i64 n, .int .i64 r], .agg #[.int .i64 n, .int .i64 r]] w fun e w' => e = .returned (.bool true) ∧ Below w.heap.size w w' := by
  refine (eqId_any w n r n r).mono ?_
  rintro e w' ⟨rfl, h⟩
  exact ⟨by simp [idEqB], h⟩

end Go.Proofs.YtkmmhlimihkgfaaGreat

/- laws.eqOp of two operations that read the same. -/
namespace Go.Proofs.YtkmmhlimihkgfaaGreat
open Go.RowKit
set_option linter.unusedVariables false
set_option maxRecDepth 100000

theorem eqZ4_true (w : World) (u v : Value) (a : List Int) (hu : Ints w u a) (hv : Ints w v a) : Calls Tryz.prog 52 #[u, v] w fun e w' => e = .returned (.bool true) ∧ Below w.heap.size w w' := by
  refine (eqZ_any w u v a a hu hv).mono ?_
  rintro e w' ⟨rfl, h⟩
  exact ⟨by simp, h⟩
set_option maxHeartbeats 3200000 in
theorem eqOp_same (w : World) (u v : Value) (o : OpV) (hu : RdOp w u o) (hv : RdOp w v o) :
    Calls Tryz.prog 18 #[u, v] w fun e w' => e = .returned (.bool true) ∧ Below w.heap.size w w' := by
  obtain ⟨k1, n1, t1, rfl, hk1, hn1, ht1⟩ := hu
  obtain ⟨k2, n2, t2, rfl, hk2, hn2, ht2⟩ := hv
  obtain ⟨ak1, ck1, rfl, _, _⟩ := hk1.shape
  obtain ⟨an1, cn1, rfl, _, _⟩ := hn1.shape
  obtain ⟨at1, ct1, rfl, _, _⟩ := ht1.shape
  obtain ⟨ak2, ck2, rfl, _, _⟩ := hk2.shape
  obtain ⟨an2, cn2, rfl, _, _⟩ := hn2.shape
  obtain ⟨at2, ct2, rfl, _, _⟩ := ht2.shape
  have H := hide (And.intro hk1 (And.intro hn1 (And.intro ht1 (And.intro hk2 (And.intro hn2 ht2)))))
  clear hk1 hn1 ht1 hk2 hn2 ht2
  unfold opVal
  have hA : Below w.heap.size w ((w.alloc (.cells #[.int .i64 o.kind, .int .i64 o.atN, .int .i64 o.atR, .int .i64 o.nodeN, .int .i64 o.nodeR, .int .i64 o.parN, .int .i64 o.parR, .slice ak1 o.key.length ck1, .int .i64 o.elem, .slice an1 o.name.length cn1, .slice at1 o.text.length ct1, .bool o.gone] 28)).alloc (.cells #[.int .i64 o.kind, .int .i64 o.atN, .int .i64 o.atR, .int .i64 o.nodeN, .int .i64 o.nodeR, .int .i64 o.parN, .int .i64 o.parR, .slice ak2 o.key.length ck2, .int .i64 o.elem, .slice an2 o.name.length cn2, .slice at2 o.text.length ct2, .bool o.gone] 28)) := ((Below.refl _ _).alloc (Nat.le_refl _) _).alloc (by simp) _
  go_enter Tryz.func18, Tryz.ntmps18
  go_wp2_with fail
  generalize hW : ((w.alloc (.cells #[.int .i64 o.kind, .int .i64 o.atN, .int .i64 o.atR, .int .i64 o.nodeN, .int .i64 o.nodeR, .int .i64 o.parN, .int .i64 o.parR, .slice ak1 o.key.length ck1, .int .i64 o.elem, .slice an1 o.name.length cn1, .slice at1 o.text.length ct1, .bool o.gone] 28)).alloc (.cells #[.int .i64 o.kind, .int .i64 o.atN, .int .i64 o.atR, .int .i64 o.nodeN, .int .i64 o.nodeR, .int .i64 o.parN, .int .i64 o.parR, .slice ak2 o.key.length ck2, .int .i64 o.elem, .slice an2 o.name.length cn2, .slice at2 o.text.length ct2, .bool o.gone] 28)) = W at *
  have HW := hide hW
  clear hW
  refine (eqId_true _ o.atN o.atR).mono ?_
  rintro e w1 ⟨rfl, hB1⟩
  have c11_3 := cell_later hB1 (show W.cell? ⟨w.heap.size, 3, none⟩ = some (.int .i64 o.nodeN) by rw [← unhide HW]; simp)
  have c11_4 := cell_later hB1 (show W.cell? ⟨w.heap.size, 4, none⟩ = some (.int .i64 o.nodeR) by rw [← unhide HW]; simp)
  have c11_5 := cell_later hB1 (show W.cell? ⟨w.heap.size, 5, none⟩ = some (.int .i64 o.parN) by rw [← unhide HW]; simp)
  have c11_6 := cell_later hB1 (show W.cell? ⟨w.heap.size, 6, none⟩ = some (.int .i64 o.parR) by rw [← unhide HW]; simp)
  have c11_7 := cell_later hB1 (show W.cell? ⟨w.heap.size, 7, none⟩ = some (.slice ak1 o.key.length ck1) by rw [← unhide HW]; simp)
  have c11_8 := cell_later hB1 (show W.cell? ⟨w.heap.size, 8, none⟩ = some (.int .i64 o.elem) by rw [← unhide HW]; simp)
  have c11_9 := cell_later hB1 (show W.cell? ⟨w.heap.size, 9, none⟩ = some (.slice an1 o.name.length cn1) by rw [← unhide HW]; simp)
  have c11_10 := cell_later hB1 (show W.cell? ⟨w.heap.size, 10, none⟩ = some (.slice at1 o.text.length ct1) by rw [← unhide HW]; simp)
  have c11_11 := cell_later hB1 (show W.cell? ⟨w.heap.size, 11, none⟩ = some (.bool o.gone) by rw [← unhide HW]; simp)
  have c12_3 := cell_later hB1 (show W.cell? ⟨w.heap.size + 1, 3, none⟩ = some (.int .i64 o.nodeN) by rw [← unhide HW]; simp)
  have c12_4 := cell_later hB1 (show W.cell? ⟨w.heap.size + 1, 4, none⟩ = some (.int .i64 o.nodeR) by rw [← unhide HW]; simp)
  have c12_5 := cell_later hB1 (show W.cell? ⟨w.heap.size + 1, 5, none⟩ = some (.int .i64 o.parN) by rw [← unhide HW]; simp)
  have c12_6 := cell_later hB1 (show W.cell? ⟨w.heap.size + 1, 6, none⟩ = some (.int .i64 o.parR) by rw [← unhide HW]; simp)
  have c12_7 := cell_later hB1 (show W.cell? ⟨w.heap.size + 1, 7, none⟩ = some (.slice ak2 o.key.length ck2) by rw [← unhide HW]; simp)
  have c12_8 := cell_later hB1 (show W.cell? ⟨w.heap.size + 1, 8, none⟩ = some (.int .i64 o.elem) by rw [← unhide HW]; simp)
  have c12_9 := cell_later hB1 (show W.cell? ⟨w.heap.size + 1, 9, none⟩ = some (.slice an2 o.name.length cn2) by rw [← unhide HW]; simp)
  have c12_10 := cell_later hB1 (show W.cell? ⟨w.heap.size + 1, 10, none⟩ = some (.slice at2 o.text.length ct2) by rw [← unhide HW]; simp)
  have c12_11 := cell_later hB1 (show W.cell? ⟨w.heap.size + 1, 11, none⟩ = some (.bool o.gone) by rw [← unhide HW]; simp)
  replace hA := bstep hA hB1
  clear hB1 HW
  go_wp2_with fail
  refine (eqId_true _ o.nodeN o.nodeR).mono ?_
  rintro e w2 ⟨rfl, hB2⟩
  have c21_5 := cell_later hB2 c11_5
  have c21_6 := cell_later hB2 c11_6
  have c21_7 := cell_later hB2 c11_7
  have c21_8 := cell_later hB2 c11_8
  have c21_9 := cell_later hB2 c11_9
  have c21_10 := cell_later hB2 c11_10
  have c21_11 := cell_later hB2 c11_11
  have c22_5 := cell_later hB2 c12_5
  have c22_6 := cell_later hB2 c12_6
  have c22_7 := cell_later hB2 c12_7
  have c22_8 := cell_later hB2 c12_8
  have c22_9 := cell_later hB2 c12_9
  have c22_10 := cell_later hB2 c12_10
  have c22_11 := cell_later hB2 c12_11
  replace hA := bstep hA hB2
  clear c11_3 c11_4 c11_5 c11_6 c11_7 c11_8 c11_9 c11_10 c11_11 c12_3 c12_4 c12_5 c12_6 c12_7 c12_8 c12_9 c12_10 c12_11
  clear hB2
  go_wp2_with fail
  refine (eqId_true _ o.parN o.parR).mono ?_
  rintro e w3 ⟨rfl, hB3⟩
  have c31_7 := cell_later hB3 c21_7
  have c31_8 := cell_later hB3 c21_8
  have c31_9 := cell_later hB3 c21_9
  have c31_10 := cell_later hB3 c21_10
  have c31_11 := cell_later hB3 c21_11
  have c32_7 := cell_later hB3 c22_7
  have c32_8 := cell_later hB3 c22_8
  have c32_9 := cell_later hB3 c22_9
  have c32_10 := cell_later hB3 c22_10
  have c32_11 := cell_later hB3 c22_11
  replace hA := bstep hA hB3
  clear c21_5 c21_6 c21_7 c21_8 c21_9 c21_10 c21_11 c22_5 c22_6 c22_7 c22_8 c22_9 c22_10 c22_11
  clear hB3
  go_wp2_with fail
  refine (eqZ4_true _ _ _ o.key ((unhide H).1.keep hA) ((unhide H).2.2.2.1.keep hA)).mono ?_
  rintro e w4 ⟨rfl, hB4⟩
  have c41_8 := cell_later hB4 c31_8
  have c41_9 := cell_later hB4 c31_9
  have c41_10 := cell_later hB4 c31_10
  have c41_11 := cell_later hB4 c31_11
  have c42_8 := cell_later hB4 c32_8
  have c42_9 := cell_later hB4 c32_9
  have c42_10 := cell_later hB4 c32_10
  have c42_11 := cell_later hB4 c32_11
  replace hA := bstep hA hB4
  clear c31_7 c31_8 c31_9 c31_10 c31_11 c32_7 c32_8 c32_9 c32_10 c32_11
  clear hB4
  go_wp2_with fail
  refine (eqB4_true _ _ _ o.name ((unhide H).2.1.keep hA) ((unhide H).2.2.2.2.1.keep hA)).mono ?_
  rintro e w5 ⟨rfl, hB5⟩
  have c51_10 := cell_later hB5 c41_10
  have c51_11 := cell_later hB5 c41_11
  have c52_10 := cell_later hB5 c42_10
  have c52_11 := cell_later hB5 c42_11
  replace hA := bstep hA hB5
  clear c41_8 c41_9 c41_10 c41_11 c42_8 c42_9 c42_10 c42_11
  clear hB5
  go_wp2_with fail
  refine (eqB4_true _ _ _ o.text ((unhide H).2.2.1.keep hA) ((unhide H).2.2.2.2.2.keep hA)).mono ?_
  rintro e w6 ⟨rfl, hB6⟩
  have c61_11 := cell_later hB6 c51_11
  have c62_11 := cell_later hB6 c52_11
  replace hA := bstep hA hB6
  clear c51_10 c51_11 c52_10 c52_11
  clear hB6
  go_wp2_with fail
  go_ret
  exact ⟨rfl, hA⟩

end Go.Proofs.YtkmmhlimihkgfaaGreat

/- The law's own helpers over ints: a copy of a row, by its contract. -/
namespace Go.Proofs.YtkmmhlimihkgfaaGreat
open Go.RowKit
set_option linter.unusedVariables false

theorem Tryz.info3 : (Tryz.prog.info? 3).map (fun i => (i.zero, i.size, i.bytes)) = some (some (.int .i64 0), 1, 8) := by kernel_rfl

/-- Behind k rounds of the copying loop: the first k bytes of l, then zeros. -/
def halfz (l : List Int) (k : Nat) : List Int := l.take k ++ List.replicate (l.length - k) 0
theorem halfz_len (l : List Int) (k : Nat) (h : k ≤ l.length) : (halfz l k).length = l.length := by simp [halfz]; omega
theorem halfz_zero (l : List Int) : valz (halfz l 0) = (madeCells #[Value.int .i64 0] l.length).toList := by
  rw [toList_madeCells_one]
  simp [halfz, valz]
theorem halfz_all (l : List Int) : halfz l l.length = l := by simp [halfz]
theorem halfz_at (l : List Int) (k i : Nat) (hk : k ≤ l.length) : (halfz l k)[i]? = if i < k then l[i]? else if i < l.length then some 0 else none := by
  have hm : min k l.length = k := by omega
  unfold halfz
  rw [List.getElem?_append, List.length_take, hm]
  by_cases h : i < k
  · simp [h]
  · rw [if_neg h, if_neg h, List.getElem?_replicate]
    by_cases h2 : i < l.length
    · rw [if_pos h2, if_pos (by omega)]
    · rw [if_neg h2, if_neg (by omega)]
theorem halfz_step (l : List Int) (k : Nat) (h : k < l.length) : (valz (halfz l k)).set k (.int .i64 (l.getD k 0)) = valz (halfz l (k + 1)) := by
  apply List.ext_getElem?
  intro i
  unfold valz
  rw [List.getElem?_set, List.getElem?_map, List.getElem?_map, halfz_at l k i (by omega), halfz_at l (k + 1) i (by omega), List.length_map, halfz_len l k (by omega)]
  by_cases hk : k = i
  · subst hk; rw [if_pos rfl, if_pos h, if_pos (by omega)]; simp [h]
  · rw [if_neg hk]
    by_cases h2 : i < k
    · rw [if_pos h2, if_pos (by omega)]
    · rw [if_neg h2, if_neg (show ¬ i < k + 1 by omega)]

set_option maxHeartbeats 1600000 in
set_option maxRecDepth 1000000 in
theorem toZ_any (w : World) (v : Value) (l : List Int) (h : Ints w v l) (hs : l.length ≤ 2097152) :
    Calls Tryz.prog 49 #[v] w fun e w' => ∃ v', e = .returned v' ∧ OwnZ w' w.heap.size v' l ∧ v' ≠ .slice none 0 0 ∧ Below w.heap.size w w' := by
  obtain ⟨i0, hi, hz0, hz1, hz2⟩ := info_parts Tryz.info3
  obtain ⟨hok, hm, ⟨rfl, rfl⟩ | ⟨x, cap, rfl, hc, rfl⟩ | ⟨b, off, cap, rfl, h1, h2, h3, h4, h5⟩⟩ := h
  · go_enter Tryz.func49, Tryz.ntmps49
    go_wp2_with (at_make; refine wpList_make_full _ rfl _ _ 26 rfl w.heap.size 3 i0 (.int .i64 0) 1 Tryz.underlying26 hi hz0 hz1 .i64 .i64 _ _ 0 rfl rfl rfl rfl ?c1 ?c2 ?c3 ?_)
    case c1 => omega
    case c2 => exact hm
    case c3 => exact Nat.le_refl _
    intro w1 hown hgrow
    have hB1 := Below.ofGrown hgrow
    have hown1 : w1.ownsRow w.heap.size 3 1 (.slice (some ⟨w.heap.size, 0, none⟩) 0 0) 0 (valz []) := by have e := halfz_zero []; rw [show halfz [] 0 = [] from rfl] at e; rw [e]; exact hown
    clear hown hgrow
    go_wp2
    refine wp_loop_rounds 1 ?_
    rw [rounds_succ]
    go_wp2
    go_ret
    exact ⟨_, rfl, ⟨okZ_nil, hown1⟩, by simp, hB1⟩
  · go_enter Tryz.func49, Tryz.ntmps49
    go_wp2_with (at_make; refine wpList_make_full _ rfl _ _ 26 rfl w.heap.size 3 i0 (.int .i64 0) 1 Tryz.underlying26 hi hz0 hz1 .i64 .i64 _ _ 0 rfl rfl rfl rfl ?c1 ?c2 ?c3 ?_)
    case c1 => omega
    case c2 => exact hm
    case c3 => exact Nat.le_refl _
    intro w1 hown hgrow
    have hB1 := Below.ofGrown hgrow
    have hown1 : w1.ownsRow w.heap.size 3 1 (.slice (some ⟨w.heap.size, 0, none⟩) 0 0) 0 (valz []) := by have e := halfz_zero []; rw [show halfz [] 0 = [] from rfl] at e; rw [e]; exact hown
    clear hown hgrow
    go_wp2
    refine wp_loop_rounds 1 ?_
    rw [rounds_succ]
    go_wp2
    go_ret
    exact ⟨_, rfl, ⟨okZ_nil, hown1⟩, by simp, hB1⟩
  · go_enter Tryz.func49, Tryz.ntmps49
    go_wp2_with (at_make; refine wpList_make_full _ rfl _ _ 26 rfl w.heap.size 3 i0 (.int .i64 0) 1 Tryz.underlying26 hi hz0 hz1 .i64 .i64 _ _ l.length rfl rfl rfl rfl ?c1 ?c2 ?c3 ?_)
    case c1 => rw [hz2]; omega
    case c2 => exact hm
    case c3 => exact Nat.le_refl _
    intro w1 hown hgrow
    have hB1 := Below.ofGrown hgrow
    have hown1 : w1.ownsRow w.heap.size 3 1 (.slice (some ⟨w.heap.size, 0, none⟩) l.length l.length) l.length (valz (halfz l 0)) := by rw [halfz_zero]; exact hown
    clear hown hgrow
    go_wp2
    go_loopw [4] (fun i wr => ∃ k : Nat, k ≤ l.length ∧ i = .int .i64 k ∧ wr.ownsRow w.heap.size 3 1 (.slice (some ⟨w.heap.size, 0, none⟩) l.length l.length) l.length (valz (halfz l k)) ∧ Below w.heap.size w wr) (fun i _ => l.length - (intOf i).toNat)
    case atStart => exact ⟨0, Nat.zero_le _, rfl, hown1, hB1⟩
    case round =>
      obtain ⟨k, hk, rfl, hw, hB⟩ := hrel
      clear hown1 hB1
      have hcx : k < l.length → wr.cell? ⟨b, off + k, none⟩ = some (.int .i64 (l.getD k 0)) := fun hlt => (hB.cell (p := ⟨b, off + k, none⟩) h4).trans (h5 k hlt)
      have hcy : k < l.length → wr.cell? ⟨w.heap.size, k, none⟩ = some (.int .i64 ((halfz l k).getD k 0)) := fun hlt => by
        rw [hw.cellAt k (by omega), valz_at (by rw [halfz_len l k hk]; exact hlt)]
      have hfr := hw.frozenAt k
      have hst := hw.stored k (.int .i64 (l.getD k 0))
      have R : k < l.length → (wr.setCell ⟨w.heap.size, k, none⟩ (.int .i64 (l.getD k 0))).ownsRow w.heap.size 3 1 (.slice (some ⟨w.heap.size, 0, none⟩) l.length l.length) l.length (valz (halfz l (k + 1))) ∧ Below w.heap.size w (wr.setCell ⟨w.heap.size, k, none⟩ (.int .i64 (l.getD k 0))) := fun hlt => by
        rw [← halfz_step l k hlt]
        exact ⟨hst.1, hB.setCell (p := ⟨w.heap.size, k, none⟩) (Nat.le_refl _) _⟩
      have HR := hide R
      clear R hst
      go_wp2
      · have hlt : k < l.length := by assumption
        have R := unhide HR hlt
        rw [getD_at hlt] at R
        go_roundw
        case rel => exact ⟨k + 1, by omega, by go_num, R.1, R.2⟩
        case measure => simp [intOf]; omega
      · have e : k = l.length := by omega
        subst e
        go_ret
        rw [halfz_all] at hw
        exact ⟨_, rfl, ⟨hok, hw⟩, by simp, hB⟩
end Go.Proofs.YtkmmhlimihkgfaaGreat

/- laws.toOp: the copy reads the same, in blocks of its own. -/
namespace Go.Proofs.YtkmmhlimihkgfaaGreat
open Go.RowKit
set_option linter.unusedVariables false
set_option maxRecDepth 100000

theorem OwnZ.frm {w w' : World} {base : Nat} {v : Value} {l : List Int} {S : List Nat} (h : OwnZ w base v l) (f : Frm w w' S) (hd : ∀ g ∈ FB v, g ∉ S) : OwnZ w' base v l := ⟨h.1, ownsRow_frm h.2 f hd⟩
theorem OwnZ.rng {w : World} {base : Nat} {v : Value} {l : List Int} (h : OwnZ w base v l) : Rng (FB v) base w.heap.size := fun g hg => h.lt g (by simpa [FB] using hg)
theorem Loc.be {w : World} {g : Nat} {cs ds : Array Value} {T : TypeId} (h : Loc w g cs T) (e : cs = ds) : Loc w g ds T := e ▸ h

set_option maxHeartbeats 6400000 in
theorem toOp_any (w : World) (v : Value) (o : OpV) (h : RdOp w v o) (hs : o.key.length + o.name.length + o.text.length ≤ 2097152) :
    Calls Tryz.prog 16 #[v] w fun e w' => ∃ k n t, e = .returned (opVal o k n t) ∧ OwnZ w' w.heap.size k o.key ∧ Own w' w.heap.size n o.name ∧ Own w' w.heap.size t o.text ∧ (FB k ++ FB n ++ FB t).Nodup ∧ Below w.heap.size w w' := by
  obtain ⟨k, n, t, rfl, hk, hn, ht⟩ := h
  obtain ⟨pk, ck, rfl, _, _⟩ := hk.shape
  obtain ⟨pn, cn, rfl, _, _⟩ := hn.shape
  obtain ⟨pt, ct, rfl, _, _⟩ := ht.shape
  have H := hide (And.intro hk (And.intro hn ht))
  clear hk hn ht
  have HS := hide hs
  clear hs
  unfold opVal
  have l0 := (((Loc.made w #[.int .i64 o.kind, .int .i64 o.atN, .int .i64 o.atR, .int .i64 o.nodeN, .int .i64 o.nodeR, .int .i64 o.parN, .int .i64 o.parR, .slice pk o.key.length ck, .int .i64 o.elem, .slice pn o.name.length cn, .slice pt o.text.length ct, .bool o.gone] 41).alloc (.cells #[.int .i64 0, .int .i64 0, .int .i64 0, .int .i64 0, .int .i64 0, .int .i64 0, .int .i64 0, .slice none 0 0, .int .i64 0, .slice none 0 0, .slice none 0 0, .bool false] 28)).alloc (.cells #[.int .i64 o.kind, .int .i64 0, .int .i64 0, .int .i64 0, .int .i64 0, .int .i64 0, .int .i64 0, .slice none 0 0, .int .i64 0, .slice none 0 0, .slice none 0 0, .bool false] 28))
  have l1 := (Loc.made (w.alloc (.cells #[.int .i64 o.kind, .int .i64 o.atN, .int .i64 o.atR, .int .i64 o.nodeN, .int .i64 o.nodeR, .int .i64 o.parN, .int .i64 o.parR, .slice pk o.key.length ck, .int .i64 o.elem, .slice pn o.name.length cn, .slice pt o.text.length ct, .bool o.gone] 41)) #[.int .i64 0, .int .i64 0, .int .i64 0, .int .i64 0, .int .i64 0, .int .i64 0, .int .i64 0, .slice none 0 0, .int .i64 0, .slice none 0 0, .slice none 0 0, .bool false] 28).alloc (.cells #[.int .i64 o.kind, .int .i64 0, .int .i64 0, .int .i64 0, .int .i64 0, .int .i64 0, .int .i64 0, .slice none 0 0, .int .i64 0, .slice none 0 0, .slice none 0 0, .bool false] 28)
  have l2 := Loc.made ((w.alloc (.cells #[.int .i64 o.kind, .int .i64 o.atN, .int .i64 o.atR, .int .i64 o.nodeN, .int .i64 o.nodeR, .int .i64 o.parN, .int .i64 o.parR, .slice pk o.key.length ck, .int .i64 o.elem, .slice pn o.name.length cn, .slice pt o.text.length ct, .bool o.gone] 41)).alloc (.cells #[.int .i64 0, .int .i64 0, .int .i64 0, .int .i64 0, .int .i64 0, .int .i64 0, .int .i64 0, .slice none 0 0, .int .i64 0, .slice none 0 0, .slice none 0 0, .bool false] 28)) #[.int .i64 o.kind, .int .i64 0, .int .i64 0, .int .i64 0, .int .i64 0, .int .i64 0, .int .i64 0, .slice none 0 0, .int .i64 0, .slice none 0 0, .slice none 0 0, .bool false] 28
  have hA : Below w.heap.size w (((w.alloc (.cells #[.int .i64 o.kind, .int .i64 o.atN, .int .i64 o.atR, .int .i64 o.nodeN, .int .i64 o.nodeR, .int .i64 o.parN, .int .i64 o.parR, .slice pk o.key.length ck, .int .i64 o.elem, .slice pn o.name.length cn, .slice pt o.text.length ct, .bool o.gone] 41)).alloc (.cells #[.int .i64 0, .int .i64 0, .int .i64 0, .int .i64 0, .int .i64 0, .int .i64 0, .int .i64 0, .slice none 0 0, .int .i64 0, .slice none 0 0, .slice none 0 0, .bool false] 28)).alloc (.cells #[.int .i64 o.kind, .int .i64 0, .int .i64 0, .int .i64 0, .int .i64 0, .int .i64 0, .int .i64 0, .slice none 0 0, .int .i64 0, .slice none 0 0, .slice none 0 0, .bool false] 28)) := (((Below.refl _ _).alloc (Nat.le_refl _) _).alloc (by simp) _).alloc (by simp; omega) _
  simp only [World.size_alloc] at l1 l2
  have L := hide (And.intro l0 (And.intro l1 (And.intro l2 hA)))
  clear l0 l1 l2 hA
  go_enter Tryz.func16, Tryz.ntmps16
  go_wp2_with fail
  obtain ⟨l0, l1, l2, hA⟩ := unhide L
  clear L
  generalize (((w.alloc (.cells #[.int .i64 o.kind, .int .i64 o.atN, .int .i64 o.atR, .int .i64 o.nodeN, .int .i64 o.nodeR, .int .i64 o.parN, .int .i64 o.parR, .slice pk o.key.length ck, .int .i64 o.elem, .slice pn o.name.length cn, .slice pt o.text.length ct, .bool o.gone] 41)).alloc (.cells #[.int .i64 0, .int .i64 0, .int .i64 0, .int .i64 0, .int .i64 0, .int .i64 0, .int .i64 0, .slice none 0 0, .int .i64 0, .slice none 0 0, .slice none 0 0, .bool false] 28)).alloc (.cells #[.int .i64 o.kind, .int .i64 0, .int .i64 0, .int .i64 0, .int .i64 0, .int .i64 0, .int .i64 0, .slice none 0 0, .int .i64 0, .slice none 0 0, .slice none 0 0, .bool false] 28)) = W at *
  refine (toId_any _ o.atN o.atR).mono ?_
  rintro e w1 ⟨rfl, hB⟩
  replace l0 := l0.all hB
  replace l1 := l1.all hB
  replace l2 := l2.all hB
  replace hA := bstep hA hB
  clear hB
  have e0_3 := l0.cell 3
  have e0_4 := l0.cell 4
  have e2_1 := l2.cell 1
  have f2_1 := l2.frozen 1
  have e2_2 := l2.cell 2
  have f2_2 := l2.frozen 2
  simp at e0_3 e0_4 e2_1 e2_2
  have m0 : Loc ((w1.setCell ⟨w.heap.size + 1 + 1, 1, none⟩ (.int .i64 o.atN)).setCell ⟨w.heap.size + 1 + 1, 2, none⟩ (.int .i64 o.atR)) w.heap.size #[.int .i64 o.kind, .int .i64 o.atN, .int .i64 o.atR, .int .i64 o.nodeN, .int .i64 o.nodeR, .int .i64 o.parN, .int .i64 o.parR, .slice pk o.key.length ck, .int .i64 o.elem, .slice pn o.name.length cn, .slice pt o.text.length ct, .bool o.gone] 41 := ((l0.other _ _ _ (by omega)).other _ _ _ (by omega))
  have m1 : Loc ((w1.setCell ⟨w.heap.size + 1 + 1, 1, none⟩ (.int .i64 o.atN)).setCell ⟨w.heap.size + 1 + 1, 2, none⟩ (.int .i64 o.atR)) (w.heap.size + 1) #[.int .i64 0, .int .i64 0, .int .i64 0, .int .i64 0, .int .i64 0, .int .i64 0, .int .i64 0, .slice none 0 0, .int .i64 0, .slice none 0 0, .slice none 0 0, .bool false] 28 := ((l1.other _ _ _ (by omega)).other _ _ _ (by omega))
  have m2 : Loc ((w1.setCell ⟨w.heap.size + 1 + 1, 1, none⟩ (.int .i64 o.atN)).setCell ⟨w.heap.size + 1 + 1, 2, none⟩ (.int .i64 o.atR)) (w.heap.size + 1 + 1) #[.int .i64 o.kind, .int .i64 o.atN, .int .i64 o.atR, .int .i64 0, .int .i64 0, .int .i64 0, .int .i64 0, .slice none 0 0, .int .i64 0, .slice none 0 0, .slice none 0 0, .bool false] 28 := ((l2.set 1 (.int .i64 o.atN)).set 2 (.int .i64 o.atR)).be (by simp)
  have hf : Frm w1 ((w1.setCell ⟨w.heap.size + 1 + 1, 1, none⟩ (.int .i64 o.atN)).setCell ⟨w.heap.size + 1 + 1, 2, none⟩ (.int .i64 o.atR)) [w.heap.size + 1 + 1] := ((set_frm _ _ _ _).trans (set_frm _ _ _ _))
  have hA2 : Below w.heap.size w ((w1.setCell ⟨w.heap.size + 1 + 1, 1, none⟩ (.int .i64 o.atN)).setCell ⟨w.heap.size + 1 + 1, 2, none⟩ (.int .i64 o.atR)) := hA.trans (hf.below hA.size (fun g hg => by simp at hg; omega))
  have L := hide (And.intro m0 (And.intro m1 (And.intro m2 hA2)))
  clear m0 m1 m2 hf hA2 l0 l1 l2 hA
  go_wp2_with fail
  obtain ⟨l0, l1, l2, hA⟩ := unhide L
  clear L
  clear e0_3 e0_4 e2_1 f2_1 e2_2 f2_2
  refine (toId_any _ o.nodeN o.nodeR).mono ?_
  rintro e w2 ⟨rfl, hB⟩
  replace l0 := l0.all hB
  replace l1 := l1.all hB
  replace l2 := l2.all hB
  replace hA := bstep hA hB
  clear hB
  have e0_5 := l0.cell 5
  have e0_6 := l0.cell 6
  have e2_3 := l2.cell 3
  have f2_3 := l2.frozen 3
  have e2_4 := l2.cell 4
  have f2_4 := l2.frozen 4
  simp at e0_5 e0_6 e2_3 e2_4
  have m0 : Loc ((w2.setCell ⟨w.heap.size + 1 + 1, 3, none⟩ (.int .i64 o.nodeN)).setCell ⟨w.heap.size + 1 + 1, 4, none⟩ (.int .i64 o.nodeR)) w.heap.size #[.int .i64 o.kind, .int .i64 o.atN, .int .i64 o.atR, .int .i64 o.nodeN, .int .i64 o.nodeR, .int .i64 o.parN, .int .i64 o.parR, .slice pk o.key.length ck, .int .i64 o.elem, .slice pn o.name.length cn, .slice pt o.text.length ct, .bool o.gone] 41 := ((l0.other _ _ _ (by omega)).other _ _ _ (by omega))
  have m1 : Loc ((w2.setCell ⟨w.heap.size + 1 + 1, 3, none⟩ (.int .i64 o.nodeN)).setCell ⟨w.heap.size + 1 + 1, 4, none⟩ (.int .i64 o.nodeR)) (w.heap.size + 1) #[.int .i64 0, .int .i64 0, .int .i64 0, .int .i64 0, .int .i64 0, .int .i64 0, .int .i64 0, .slice none 0 0, .int .i64 0, .slice none 0 0, .slice none 0 0, .bool false] 28 := ((l1.other _ _ _ (by omega)).other _ _ _ (by omega))
  have m2 : Loc ((w2.setCell ⟨w.heap.size + 1 + 1, 3, none⟩ (.int .i64 o.nodeN)).setCell ⟨w.heap.size + 1 + 1, 4, none⟩ (.int .i64 o.nodeR)) (w.heap.size + 1 + 1) #[.int .i64 o.kind, .int .i64 o.atN, .int .i64 o.atR, .int .i64 o.nodeN, .int .i64 o.nodeR, .int .i64 0, .int .i64 0, .slice none 0 0, .int .i64 0, .slice none 0 0, .slice none 0 0, .bool false] 28 := ((l2.set 3 (.int .i64 o.nodeN)).set 4 (.int .i64 o.nodeR)).be (by simp)
  have hf : Frm w2 ((w2.setCell ⟨w.heap.size + 1 + 1, 3, none⟩ (.int .i64 o.nodeN)).setCell ⟨w.heap.size + 1 + 1, 4, none⟩ (.int .i64 o.nodeR)) [w.heap.size + 1 + 1] := ((set_frm _ _ _ _).trans (set_frm _ _ _ _))
  have hA2 : Below w.heap.size w ((w2.setCell ⟨w.heap.size + 1 + 1, 3, none⟩ (.int .i64 o.nodeN)).setCell ⟨w.heap.size + 1 + 1, 4, none⟩ (.int .i64 o.nodeR)) := hA.trans (hf.below hA.size (fun g hg => by simp at hg; omega))
  have L := hide (And.intro m0 (And.intro m1 (And.intro m2 hA2)))
  clear m0 m1 m2 hf hA2 l0 l1 l2 hA
  go_wp2_with fail
  obtain ⟨l0, l1, l2, hA⟩ := unhide L
  clear L
  clear e0_5 e0_6 e2_3 f2_3 e2_4 f2_4
  refine (toId_any _ o.parN o.parR).mono ?_
  rintro e w3 ⟨rfl, hB⟩
  replace l0 := l0.all hB
  replace l1 := l1.all hB
  replace l2 := l2.all hB
  replace hA := bstep hA hB
  clear hB
  have e0_7 := l0.cell 7
  have e2_5 := l2.cell 5
  have f2_5 := l2.frozen 5
  have e2_6 := l2.cell 6
  have f2_6 := l2.frozen 6
  simp at e0_7 e2_5 e2_6
  have m0 : Loc ((w3.setCell ⟨w.heap.size + 1 + 1, 5, none⟩ (.int .i64 o.parN)).setCell ⟨w.heap.size + 1 + 1, 6, none⟩ (.int .i64 o.parR)) w.heap.size #[.int .i64 o.kind, .int .i64 o.atN, .int .i64 o.atR, .int .i64 o.nodeN, .int .i64 o.nodeR, .int .i64 o.parN, .int .i64 o.parR, .slice pk o.key.length ck, .int .i64 o.elem, .slice pn o.name.length cn, .slice pt o.text.length ct, .bool o.gone] 41 := ((l0.other _ _ _ (by omega)).other _ _ _ (by omega))
  have m1 : Loc ((w3.setCell ⟨w.heap.size + 1 + 1, 5, none⟩ (.int .i64 o.parN)).setCell ⟨w.heap.size + 1 + 1, 6, none⟩ (.int .i64 o.parR)) (w.heap.size + 1) #[.int .i64 0, .int .i64 0, .int .i64 0, .int .i64 0, .int .i64 0, .int .i64 0, .int .i64 0, .slice none 0 0, .int .i64 0, .slice none 0 0, .slice none 0 0, .bool false] 28 := ((l1.other _ _ _ (by omega)).other _ _ _ (by omega))
  have m2 : Loc ((w3.setCell ⟨w.heap.size + 1 + 1, 5, none⟩ (.int .i64 o.parN)).setCell ⟨w.heap.size + 1 + 1, 6, none⟩ (.int .i64 o.parR)) (w.heap.size + 1 + 1) #[.int .i64 o.kind, .int .i64 o.atN, .int .i64 o.atR, .int .i64 o.nodeN, .int .i64 o.nodeR, .int .i64 o.parN, .int .i64 o.parR, .slice none 0 0, .int .i64 0, .slice none 0 0, .slice none 0 0, .bool false] 28 := ((l2.set 5 (.int .i64 o.parN)).set 6 (.int .i64 o.parR)).be (by simp)
  have hf : Frm w3 ((w3.setCell ⟨w.heap.size + 1 + 1, 5, none⟩ (.int .i64 o.parN)).setCell ⟨w.heap.size + 1 + 1, 6, none⟩ (.int .i64 o.parR)) [w.heap.size + 1 + 1] := ((set_frm _ _ _ _).trans (set_frm _ _ _ _))
  have hA2 : Below w.heap.size w ((w3.setCell ⟨w.heap.size + 1 + 1, 5, none⟩ (.int .i64 o.parN)).setCell ⟨w.heap.size + 1 + 1, 6, none⟩ (.int .i64 o.parR)) := hA.trans (hf.below hA.size (fun g hg => by simp at hg; omega))
  have L := hide (And.intro m0 (And.intro m1 (And.intro m2 hA2)))
  clear m0 m1 m2 hf hA2 l0 l1 l2 hA
  go_wp2_with fail
  obtain ⟨l0, l1, l2, hA⟩ := unhide L
  clear L
  clear e0_7 e2_5 f2_5 e2_6 f2_6
  have zk := l2.lt
  refine (toZ_any _ _ o.key ((unhide H).1.keep hA) (by have := unhide HS; omega)).mono ?_
  rintro e w4 ⟨vk, rfl, ok, _, hB⟩
  obtain ⟨ak, dk, hvk, _, _⟩ := ok.ints.shape
  subst hvk
  have rk := ok.rng
  have sk := hB.size
  replace l0 := l0.all hB
  replace l1 := l1.all hB
  replace l2 := l2.all hB
  replace hA := bstep hA hB
  clear hB
  have e0_8 := l0.cell 8
  have e0_9 := l0.cell 9
  have e2_7 := l2.cell 7
  have f2_7 := l2.frozen 7
  have e2_8 := l2.cell 8
  have f2_8 := l2.frozen 8
  simp at e0_8 e0_9 e2_7 e2_8
  have m0 : Loc ((w4.setCell ⟨w.heap.size + 1 + 1, 7, none⟩ (.slice ak o.key.length dk)).setCell ⟨w.heap.size + 1 + 1, 8, none⟩ (.int .i64 o.elem)) w.heap.size #[.int .i64 o.kind, .int .i64 o.atN, .int .i64 o.atR, .int .i64 o.nodeN, .int .i64 o.nodeR, .int .i64 o.parN, .int .i64 o.parR, .slice pk o.key.length ck, .int .i64 o.elem, .slice pn o.name.length cn, .slice pt o.text.length ct, .bool o.gone] 41 := ((l0.other _ _ _ (by omega)).other _ _ _ (by omega))
  have m1 : Loc ((w4.setCell ⟨w.heap.size + 1 + 1, 7, none⟩ (.slice ak o.key.length dk)).setCell ⟨w.heap.size + 1 + 1, 8, none⟩ (.int .i64 o.elem)) (w.heap.size + 1) #[.int .i64 0, .int .i64 0, .int .i64 0, .int .i64 0, .int .i64 0, .int .i64 0, .int .i64 0, .slice none 0 0, .int .i64 0, .slice none 0 0, .slice none 0 0, .bool false] 28 := ((l1.other _ _ _ (by omega)).other _ _ _ (by omega))
  have m2 : Loc ((w4.setCell ⟨w.heap.size + 1 + 1, 7, none⟩ (.slice ak o.key.length dk)).setCell ⟨w.heap.size + 1 + 1, 8, none⟩ (.int .i64 o.elem)) (w.heap.size + 1 + 1) #[.int .i64 o.kind, .int .i64 o.atN, .int .i64 o.atR, .int .i64 o.nodeN, .int .i64 o.nodeR, .int .i64 o.parN, .int .i64 o.parR, .slice ak o.key.length dk, .int .i64 o.elem, .slice none 0 0, .slice none 0 0, .bool false] 28 := ((l2.set 7 (.slice ak o.key.length dk)).set 8 (.int .i64 o.elem)).be (by simp)
  have hf : Frm w4 ((w4.setCell ⟨w.heap.size + 1 + 1, 7, none⟩ (.slice ak o.key.length dk)).setCell ⟨w.heap.size + 1 + 1, 8, none⟩ (.int .i64 o.elem)) [w.heap.size + 1 + 1] := ((set_frm _ _ _ _).trans (set_frm _ _ _ _))
  have hA2 : Below w.heap.size w ((w4.setCell ⟨w.heap.size + 1 + 1, 7, none⟩ (.slice ak o.key.length dk)).setCell ⟨w.heap.size + 1 + 1, 8, none⟩ (.int .i64 o.elem)) := hA.trans (hf.below hA.size (fun g hg => by simp at hg; omega))
  have qk := ok.frm hf (fun g hg => by have := rk g hg; simp; omega)
  have L := hide (And.intro qk (And.intro m0 (And.intro m1 (And.intro m2 hA2))))
  clear m0 m1 m2 hf hA2 l0 l1 l2 hA qk ok
  go_wp2_with fail
  obtain ⟨ok, l0, l1, l2, hA⟩ := unhide L
  clear L
  clear e0_8 e0_9 e2_7 f2_7 e2_8 f2_8
  have zn := l2.lt
  refine (toB_any _ _ o.name ((unhide H).2.1.keep hA) (by have := unhide HS; omega)).mono ?_
  rintro e w5 ⟨vn, rfl, on, _, hB⟩
  obtain ⟨an, dn, hvn, _, _⟩ := on.byt.shape
  subst hvn
  have rn := on.rng
  replace ok := ok.keep hB
  have sn := hB.size
  replace l0 := l0.all hB
  replace l1 := l1.all hB
  replace l2 := l2.all hB
  replace hA := bstep hA hB
  clear hB
  have e0_10 := l0.cell 10
  have e2_9 := l2.cell 9
  have f2_9 := l2.frozen 9
  simp at e0_10 e2_9
  have m0 : Loc (w5.setCell ⟨w.heap.size + 1 + 1, 9, none⟩ (.slice an o.name.length dn)) w.heap.size #[.int .i64 o.kind, .int .i64 o.atN, .int .i64 o.atR, .int .i64 o.nodeN, .int .i64 o.nodeR, .int .i64 o.parN, .int .i64 o.parR, .slice pk o.key.length ck, .int .i64 o.elem, .slice pn o.name.length cn, .slice pt o.text.length ct, .bool o.gone] 41 := (l0.other _ _ _ (by omega))
  have m1 : Loc (w5.setCell ⟨w.heap.size + 1 + 1, 9, none⟩ (.slice an o.name.length dn)) (w.heap.size + 1) #[.int .i64 0, .int .i64 0, .int .i64 0, .int .i64 0, .int .i64 0, .int .i64 0, .int .i64 0, .slice none 0 0, .int .i64 0, .slice none 0 0, .slice none 0 0, .bool false] 28 := (l1.other _ _ _ (by omega))
  have m2 : Loc (w5.setCell ⟨w.heap.size + 1 + 1, 9, none⟩ (.slice an o.name.length dn)) (w.heap.size + 1 + 1) #[.int .i64 o.kind, .int .i64 o.atN, .int .i64 o.atR, .int .i64 o.nodeN, .int .i64 o.nodeR, .int .i64 o.parN, .int .i64 o.parR, .slice ak o.key.length dk, .int .i64 o.elem, .slice an o.name.length dn, .slice none 0 0, .bool false] 28 := (l2.set 9 (.slice an o.name.length dn)).be (by simp)
  have hf : Frm w5 (w5.setCell ⟨w.heap.size + 1 + 1, 9, none⟩ (.slice an o.name.length dn)) [w.heap.size + 1 + 1] := (set_frm _ _ _ _)
  have hA2 : Below w.heap.size w (w5.setCell ⟨w.heap.size + 1 + 1, 9, none⟩ (.slice an o.name.length dn)) := hA.trans (hf.below hA.size (fun g hg => by simp at hg; omega))
  have qk := ok.frm hf (fun g hg => by have := rk g hg; simp; omega)
  have qn := on.frm hf (fun g hg => by have := rn g hg; simp; omega)
  have L := hide (And.intro qn (And.intro qk (And.intro m0 (And.intro m1 (And.intro m2 hA2)))))
  clear m0 m1 m2 hf hA2 l0 l1 l2 hA qk ok qn on
  go_wp2_with fail
  obtain ⟨on, ok, l0, l1, l2, hA⟩ := unhide L
  clear L
  clear e0_10 e2_9 f2_9
  have zt := l2.lt
  refine (toB_any _ _ o.text ((unhide H).2.2.keep hA) (by have := unhide HS; omega)).mono ?_
  rintro e w6 ⟨vt, rfl, ot, _, hB⟩
  obtain ⟨at1, dt, hvt, _, _⟩ := ot.byt.shape
  subst hvt
  have rt := ot.rng
  replace ok := ok.keep hB
  replace on := on.keep hB
  have st := hB.size
  replace l0 := l0.all hB
  replace l1 := l1.all hB
  replace l2 := l2.all hB
  replace hA := bstep hA hB
  clear hB
  have e0_11 := l0.cell 11
  have e2_10 := l2.cell 10
  have f2_10 := l2.frozen 10
  have e2_11 := l2.cell 11
  have f2_11 := l2.frozen 11
  simp at e0_11 e2_10 e2_11
  have e2_0 := l2.cell 0
  have e2_1 := l2.cell 1
  have e2_2 := l2.cell 2
  have e2_3 := l2.cell 3
  have e2_4 := l2.cell 4
  have e2_5 := l2.cell 5
  have e2_6 := l2.cell 6
  have e2_7 := l2.cell 7
  have e2_8 := l2.cell 8
  have e2_9 := l2.cell 9
  have e1_0 := l1.cell 0
  have f1_0 := l1.frozen 0
  have e1_1 := l1.cell 1
  have f1_1 := l1.frozen 1
  have e1_2 := l1.cell 2
  have f1_2 := l1.frozen 2
  have e1_3 := l1.cell 3
  have f1_3 := l1.frozen 3
  have e1_4 := l1.cell 4
  have f1_4 := l1.frozen 4
  have e1_5 := l1.cell 5
  have f1_5 := l1.frozen 5
  have e1_6 := l1.cell 6
  have f1_6 := l1.frozen 6
  have e1_7 := l1.cell 7
  have f1_7 := l1.frozen 7
  have e1_8 := l1.cell 8
  have f1_8 := l1.frozen 8
  have e1_9 := l1.cell 9
  have f1_9 := l1.frozen 9
  have e1_10 := l1.cell 10
  have f1_10 := l1.frozen 10
  have e1_11 := l1.cell 11
  have f1_11 := l1.frozen 11
  simp at e2_0 e2_1 e2_2 e2_3 e2_4 e2_5 e2_6 e2_7 e2_8 e2_9 e1_0 e1_1 e1_2 e1_3 e1_4 e1_5 e1_6 e1_7 e1_8 e1_9 e1_10 e1_11
  have hf : Frm w6 ((((((((((((((w6.setCell ⟨w.heap.size + 1 + 1, 10, none⟩ (.slice at1 o.text.length dt)).setCell ⟨w.heap.size + 1 + 1, 11, none⟩ (.bool o.gone)).setCell ⟨w.heap.size + 1, 0, none⟩ (.int .i64 o.kind)).setCell ⟨w.heap.size + 1, 1, none⟩ (.int .i64 o.atN)).setCell ⟨w.heap.size + 1, 2, none⟩ (.int .i64 o.atR)).setCell ⟨w.heap.size + 1, 3, none⟩ (.int .i64 o.nodeN)).setCell ⟨w.heap.size + 1, 4, none⟩ (.int .i64 o.nodeR)).setCell ⟨w.heap.size + 1, 5, none⟩ (.int .i64 o.parN)).setCell ⟨w.heap.size + 1, 6, none⟩ (.int .i64 o.parR)).setCell ⟨w.heap.size + 1, 7, none⟩ (.slice ak o.key.length dk)).setCell ⟨w.heap.size + 1, 8, none⟩ (.int .i64 o.elem)).setCell ⟨w.heap.size + 1, 9, none⟩ (.slice an o.name.length dn)).setCell ⟨w.heap.size + 1, 10, none⟩ (.slice at1 o.text.length dt)).setCell ⟨w.heap.size + 1, 11, none⟩ (.bool o.gone)) [w.heap.size + 1 + 1, w.heap.size + 1] := (((((((((((((((set_frm _ _ _ _).mono (by simp)).trans ((set_frm _ _ _ _).mono (by simp))).trans ((set_frm _ _ _ _).mono (by simp))).trans ((set_frm _ _ _ _).mono (by simp))).trans ((set_frm _ _ _ _).mono (by simp))).trans ((set_frm _ _ _ _).mono (by simp))).trans ((set_frm _ _ _ _).mono (by simp))).trans ((set_frm _ _ _ _).mono (by simp))).trans ((set_frm _ _ _ _).mono (by simp))).trans ((set_frm _ _ _ _).mono (by simp))).trans ((set_frm _ _ _ _).mono (by simp))).trans ((set_frm _ _ _ _).mono (by simp))).trans ((set_frm _ _ _ _).mono (by simp))).trans ((set_frm _ _ _ _).mono (by simp)))
  have hA2 : Below w.heap.size w ((((((((((((((w6.setCell ⟨w.heap.size + 1 + 1, 10, none⟩ (.slice at1 o.text.length dt)).setCell ⟨w.heap.size + 1 + 1, 11, none⟩ (.bool o.gone)).setCell ⟨w.heap.size + 1, 0, none⟩ (.int .i64 o.kind)).setCell ⟨w.heap.size + 1, 1, none⟩ (.int .i64 o.atN)).setCell ⟨w.heap.size + 1, 2, none⟩ (.int .i64 o.atR)).setCell ⟨w.heap.size + 1, 3, none⟩ (.int .i64 o.nodeN)).setCell ⟨w.heap.size + 1, 4, none⟩ (.int .i64 o.nodeR)).setCell ⟨w.heap.size + 1, 5, none⟩ (.int .i64 o.parN)).setCell ⟨w.heap.size + 1, 6, none⟩ (.int .i64 o.parR)).setCell ⟨w.heap.size + 1, 7, none⟩ (.slice ak o.key.length dk)).setCell ⟨w.heap.size + 1, 8, none⟩ (.int .i64 o.elem)).setCell ⟨w.heap.size + 1, 9, none⟩ (.slice an o.name.length dn)).setCell ⟨w.heap.size + 1, 10, none⟩ (.slice at1 o.text.length dt)).setCell ⟨w.heap.size + 1, 11, none⟩ (.bool o.gone)) := hA.trans (hf.below hA.size (fun g hg => by simp at hg; omega))
  have qk := (ok.frm hf (fun g hg => by have := rk g hg; simp; omega)).mono (show w.heap.size ≤ _ by omega)
  have qn := (on.frm hf (fun g hg => by have := rn g hg; simp; omega)).mono (show w.heap.size ≤ _ by omega)
  have qt := (ot.frm hf (fun g hg => by have := rt g hg; simp; omega)).mono (show w.heap.size ≤ _ by omega)
  have hnd : (FB (.slice ak o.key.length dk) ++ FB (.slice an o.name.length dn) ++ FB (.slice at1 o.text.length dt)).Nodup := by
    simp at sn st zn zt
    refine nodup_app (lo := 0) (nodup_app (FB_nodup _) (FB_nodup _) rk (rn.mono (by simp) (Nat.le_refl _))) (FB_nodup _) ((rk.mono (Nat.zero_le _) (by omega)).app (rn.mono (Nat.zero_le _) (Nat.le_refl _))) (rt.mono (by simp) (Nat.le_refl _))
  have L := hide (And.intro qk (And.intro qn (And.intro qt (And.intro hnd hA2))))
  clear qk qn qt hnd hA2 hf l0 l1 l2 hA ok on ot rk rn rt H
  go_wp2_with fail
  obtain ⟨qk, qn, qt, hnd, hA2⟩ := unhide L
  exact bodyPost_ret (v := opVal o (.slice ak o.key.length dk) (.slice an o.name.length dn) (.slice at1 o.text.length dt)) (by simp [results, Tryz.results16, go_sem, opVal, e1_0, e1_1, e1_2, e1_3, e1_4, e1_5, e1_6, e1_7, e1_8, e1_9, e1_10, e1_11]) rfl ⟨_, _, _, rfl, qk, qn, qt, hnd, hA2⟩

end Go.Proofs.YtkmmhlimihkgfaaGreat

/- Operations in blocks of their own. -/
namespace Go.Proofs.YtkmmhlimihkgfaaGreat
open Go.RowKit
set_option linter.unusedVariables false
set_option maxRecDepth 100000

theorem Loc.twelve {w : World} {g : Nat} {v0 v1 v2 v3 v4 v5 v6 v7 v8 v9 v10 v11 : Value} {T : TypeId} (h : Loc w g #[v0, v1, v2, v3, v4, v5, v6, v7, v8, v9, v10, v11] T) :
    w.cell? ⟨g, 0, none⟩ = some v0 ∧ w.cell? ⟨g, 1, none⟩ = some v1 ∧ w.cell? ⟨g, 2, none⟩ = some v2 ∧ w.cell? ⟨g, 3, none⟩ = some v3 ∧ w.cell? ⟨g, 4, none⟩ = some v4 ∧ w.cell? ⟨g, 5, none⟩ = some v5 ∧ w.cell? ⟨g, 6, none⟩ = some v6 ∧ w.cell? ⟨g, 7, none⟩ = some v7 ∧ w.cell? ⟨g, 8, none⟩ = some v8 ∧ w.cell? ⟨g, 9, none⟩ = some v9 ∧ w.cell? ⟨g, 10, none⟩ = some v10 ∧ w.cell? ⟨g, 11, none⟩ = some v11 :=
  ⟨h.cell 0, h.cell 1, h.cell 2, h.cell 3, h.cell 4, h.cell 5, h.cell 6, h.cell 7, h.cell 8, h.cell 9, h.cell 10, h.cell 11⟩

theorem RdOp.keep {w w' : World} {v : Value} {o : OpV} (h : RdOp w v o) (hb : Below w.heap.size w w') : RdOp w' v o := by
  obtain ⟨k, n, t, rfl, h1, h2, h3⟩ := h
  exact ⟨k, n, t, rfl, h1.keep hb, h2.keep hb, h3.keep hb⟩
/-- An operation in blocks of its own, from 'base' on. -/
def OwOp (w : World) (base : Nat) (o : OpV) (k n t : Value) : Prop := OwnZ w base k o.key ∧ Own w base n o.name ∧ Own w base t o.text ∧ (FB k ++ FB n ++ FB t).Nodup
theorem OwOp.keep {w w' : World} {base : Nat} {o : OpV} {k n t : Value} (h : OwOp w base o k n t) (hb : Below w.heap.size w w') : OwOp w' base o k n t := ⟨h.1.keep hb, h.2.1.keep hb, h.2.2.1.keep hb, h.2.2.2⟩
theorem OwOp.rd {w : World} {base : Nat} {o : OpV} {k n t : Value} (h : OwOp w base o k n t) : RdOp w (opVal o k n t) o := ⟨k, n, t, rfl, h.1.ints, h.2.1.byt, h.2.2.1.byt⟩

/-- What the law asks of impl's OpOk. -/
def OpISaid : Prop := ∀ (w : World) (o : OpV) (base : Nat) (k n t : Value), OwOp w base o k n t → o.key.length + o.name.length + o.text.length ≤ 2097152 →
    Calls Tryz.prog 38 #[opVal o k n t] w fun e w' => e = .returned (.bool (opB o)) ∧ Below w.heap.size w w'

/-- toOp, its rows by their parts. -/
theorem toOp_own (w : World) (v : Value) (o : OpV) (h : RdOp w v o) (hs : o.key.length + o.name.length + o.text.length ≤ 2097152) :
    Calls Tryz.prog 16 #[v] w fun e w' => ∃ a1 c1 a2 c2 a3 c3, e = .returned (opVal o (.slice a1 o.key.length c1) (.slice a2 o.name.length c2) (.slice a3 o.text.length c3)) ∧ OwOp w' w.heap.size o (.slice a1 o.key.length c1) (.slice a2 o.name.length c2) (.slice a3 o.text.length c3) ∧ Below w.heap.size w w' := by
  refine (toOp_any w v o h hs).mono ?_
  rintro e w' ⟨k, n, t, rfl, h1, h2, h3, h4, h5⟩
  obtain ⟨a1, c1, rfl, _, _⟩ := h1.ints.shape
  obtain ⟨a2, c2, rfl, _, _⟩ := h2.byt.shape
  obtain ⟨a3, c3, rfl, _, _⟩ := h3.byt.shape
  exact ⟨a1, c1, a2, c2, a3, c3, rfl, ⟨h1, h2, h3, h4⟩, h5⟩

end Go.Proofs.YtkmmhlimihkgfaaGreat

/- Rows of operations: what it is for one to be readable in memory. -/
namespace Go.Proofs.YtkmmhlimihkgfaaGreat
open Go.RowKit
set_option linter.unusedVariables false

/-- The twelve cells of an operation. -/
def RdOpC (w : World) (C : List Value) (o : OpV) : Prop := ∃ k n t, C = [.int .i64 o.kind, .int .i64 o.atN, .int .i64 o.atR, .int .i64 o.nodeN, .int .i64 o.nodeR, .int .i64 o.parN, .int .i64 o.parR, k, .int .i64 o.elem, n, t, .bool o.gone] ∧ Ints w k o.key ∧ Byt w n o.name ∧ Byt w t o.text
def RdOps (w : World) (v : Value) (l : List OpV) : Prop := Elems w 12 v l (RdOpC w)
theorem RdOps.keep {w w' : World} {v : Value} {l : List OpV} (h : RdOps w v l) (hb : Below w.heap.size w w') : RdOps w' v l :=
  Elems.keep h hb (fun C x _ ⟨k, n, t, e, h1, h2, h3⟩ => ⟨k, n, t, e, h1.keep hb, h2.keep hb, h3.keep hb⟩)

/-- An element, cell by cell, its rows by their parts. -/
theorem opc_at {w W : World} {b off i : Nat} {o : OpV} (hW : Below w.heap.size w W) (hb : b < w.heap.size) (h : ∃ C : List Value, C.length = 12 ∧ (∀ j, j < 12 → w.cell? ⟨b, off + i * 12 + j, none⟩ = C[j]?) ∧ RdOpC w C o) :
    ∃ a1 c1 a2 c2 a3 c3, W.cell? ⟨b, off + i * 12, none⟩ = some (.int .i64 o.kind) ∧ W.cell? ⟨b, off + i * 12 + 1, none⟩ = some (.int .i64 o.atN) ∧ W.cell? ⟨b, off + i * 12 + 2, none⟩ = some (.int .i64 o.atR) ∧ W.cell? ⟨b, off + i * 12 + 3, none⟩ = some (.int .i64 o.nodeN) ∧ W.cell? ⟨b, off + i * 12 + 4, none⟩ = some (.int .i64 o.nodeR) ∧ W.cell? ⟨b, off + i * 12 + 5, none⟩ = some (.int .i64 o.parN) ∧ W.cell? ⟨b, off + i * 12 + 6, none⟩ = some (.int .i64 o.parR) ∧ W.cell? ⟨b, off + i * 12 + 7, none⟩ = some (.slice a1 o.key.length c1) ∧ W.cell? ⟨b, off + i * 12 + 8, none⟩ = some (.int .i64 o.elem) ∧ W.cell? ⟨b, off + i * 12 + 9, none⟩ = some (.slice a2 o.name.length c2) ∧ W.cell? ⟨b, off + i * 12 + 10, none⟩ = some (.slice a3 o.text.length c3) ∧ W.cell? ⟨b, off + i * 12 + 11, none⟩ = some (.bool o.gone) ∧
      RdOp W (opVal o (.slice a1 o.key.length c1) (.slice a2 o.name.length c2) (.slice a3 o.text.length c3)) o := by
  obtain ⟨C, _, hc, k, n, t, rfl, hk, hn, ht⟩ := h
  obtain ⟨a1, c1, rfl, _, _⟩ := hk.shape
  obtain ⟨a2, c2, rfl, _, _⟩ := hn.shape
  obtain ⟨a3, c3, rfl, _, _⟩ := ht.shape
  have cc : ∀ j, j < 12 → W.cell? ⟨b, off + i * 12 + j, none⟩ = w.cell? ⟨b, off + i * 12 + j, none⟩ := fun j hj => hW.cell (p := ⟨b, off + i * 12 + j, none⟩) hb
  exact ⟨a1, c1, a2, c2, a3, c3, (cc 0 (by omega)).trans (hc 0 (by omega)), (cc 1 (by omega)).trans (hc 1 (by omega)), (cc 2 (by omega)).trans (hc 2 (by omega)), (cc 3 (by omega)).trans (hc 3 (by omega)), (cc 4 (by omega)).trans (hc 4 (by omega)), (cc 5 (by omega)).trans (hc 5 (by omega)), (cc 6 (by omega)).trans (hc 6 (by omega)), (cc 7 (by omega)).trans (hc 7 (by omega)), (cc 8 (by omega)).trans (hc 8 (by omega)), (cc 9 (by omega)).trans (hc 9 (by omega)), (cc 10 (by omega)).trans (hc 10 (by omega)), (cc 11 (by omega)).trans (hc 11 (by omega)), _, _, _, rfl, hk.keep hW, hn.keep hW, ht.keep hW⟩

/-- How great. -/
def szO (o : OpV) : Nat := o.key.length + o.name.length + o.text.length
def szOs (l : List OpV) : Nat := l.length + (l.map szO).sum
def sumO (l : List OpV) (k : Nat) : Nat := ((l.take k).map szO).sum
theorem sumO_step (l : List OpV) (k : Nat) (h : k < l.length) : sumO l (k + 1) = sumO l k + szO l[k] := by
  unfold sumO
  rw [List.take_succ_eq_append_getElem h]
  simp only [List.map_append, List.sum_append, List.map_cons, List.map_nil, List.sum_cons, List.sum_nil, Nat.add_zero]
theorem sumO_all (l : List OpV) : sumO l l.length = (l.map szO).sum := by simp [sumO]
theorem sumO_le (l : List OpV) (k : Nat) : sumO l k ≤ (l.map szO).sum := by
  have h : (l.map szO).sum = sumO l k + ((l.drop k).map szO).sum := by
    unfold sumO
    rw [← List.sum_append, ← List.map_append, List.take_append_drop]
  omega
theorem szO_le (l : List OpV) (i : Nat) (h : i < l.length) : szO l[i] ≤ (l.map szO).sum := by
  have h1 := sumO_step l i h
  have h2 := sumO_le l (i + 1)
  omega
end Go.Proofs.YtkmmhlimihkgfaaGreat

/- Rows of operations that a call has made: which blocks are theirs. -/
namespace Go.Proofs.YtkmmhlimihkgfaaGreat
open Go.RowKit
set_option linter.unusedVariables false
set_option maxRecDepth 100000

theorem Tryz.info28 : (Tryz.prog.info? 28).map (fun i => (i.zero, i.size, i.bytes)) = some (some (.agg #[.int .i64 0, .int .i64 0, .int .i64 0, .int .i64 0, .int .i64 0, .int .i64 0, .int .i64 0, .slice none 0 0, .int .i64 0, .slice none 0 0, .slice none 0 0, .bool false]), 12, 144) := by kernel_rfl
set_option maxHeartbeats 3200000 in
theorem take_twelve (xs : List Value) (m : Nat) (v0 v1 v2 v3 v4 v5 v6 v7 v8 v9 v10 v11 : Value) (h : m + 12 ≤ xs.length) :
    ((((((((((((xs.set (m) v0).set (m + 1) v1).set (m + 2) v2).set (m + 3) v3).set (m + 4) v4).set (m + 5) v5).set (m + 6) v6).set (m + 7) v7).set (m + 8) v8).set (m + 9) v9).set (m + 10) v10).set (m + 11) v11).take (m + 12) = xs.take m ++ [v0, v1, v2, v3, v4, v5, v6, v7, v8, v9, v10, v11] := by
  have h0 := take_more xs m 0 _ v0 rfl (by omega)
  have h1 := take_more (xs.set (m) v0) m 1 _ v1 h0 (by simp; omega)
  have h2 := take_more ((xs.set (m) v0).set (m + 1) v1) m 2 _ v2 h1 (by simp; omega)
  have h3 := take_more (((xs.set (m) v0).set (m + 1) v1).set (m + 2) v2) m 3 _ v3 h2 (by simp; omega)
  have h4 := take_more ((((xs.set (m) v0).set (m + 1) v1).set (m + 2) v2).set (m + 3) v3) m 4 _ v4 h3 (by simp; omega)
  have h5 := take_more (((((xs.set (m) v0).set (m + 1) v1).set (m + 2) v2).set (m + 3) v3).set (m + 4) v4) m 5 _ v5 h4 (by simp; omega)
  have h6 := take_more ((((((xs.set (m) v0).set (m + 1) v1).set (m + 2) v2).set (m + 3) v3).set (m + 4) v4).set (m + 5) v5) m 6 _ v6 h5 (by simp; omega)
  have h7 := take_more (((((((xs.set (m) v0).set (m + 1) v1).set (m + 2) v2).set (m + 3) v3).set (m + 4) v4).set (m + 5) v5).set (m + 6) v6) m 7 _ v7 h6 (by simp; omega)
  have h8 := take_more ((((((((xs.set (m) v0).set (m + 1) v1).set (m + 2) v2).set (m + 3) v3).set (m + 4) v4).set (m + 5) v5).set (m + 6) v6).set (m + 7) v7) m 8 _ v8 h7 (by simp; omega)
  have h9 := take_more (((((((((xs.set (m) v0).set (m + 1) v1).set (m + 2) v2).set (m + 3) v3).set (m + 4) v4).set (m + 5) v5).set (m + 6) v6).set (m + 7) v7).set (m + 8) v8) m 9 _ v9 h8 (by simp; omega)
  have h10 := take_more ((((((((((xs.set (m) v0).set (m + 1) v1).set (m + 2) v2).set (m + 3) v3).set (m + 4) v4).set (m + 5) v5).set (m + 6) v6).set (m + 7) v7).set (m + 8) v8).set (m + 9) v9) m 10 _ v10 h9 (by simp; omega)
  have h11 := take_more (((((((((((xs.set (m) v0).set (m + 1) v1).set (m + 2) v2).set (m + 3) v3).set (m + 4) v4).set (m + 5) v5).set (m + 6) v6).set (m + 7) v7).set (m + 8) v8).set (m + 9) v9).set (m + 10) v10) m 11 _ v11 h10 (by simp; omega)
  simpa using h11
def OwOpC (w : World) (C : List Value) (o : OpV) (F : List Nat) : Prop := ∃ k n t, C = [.int .i64 o.kind, .int .i64 o.atN, .int .i64 o.atR, .int .i64 o.nodeN, .int .i64 o.nodeR, .int .i64 o.parN, .int .i64 o.parR, k, .int .i64 o.elem, n, t, .bool o.gone] ∧ OwnZ w 0 k o.key ∧ Own w 0 n o.name ∧ Own w 0 t o.text ∧ F = FB k ++ FB n ++ FB t
def OwOps (w : World) (v : Value) (l : List OpV) (F : List Nat) : Prop := OwElems w 28 12 v l (OwOpC w) F
theorem OwOpC.frm {w w' : World} {C : List Value} {o : OpV} {F S : List Nat} (h : OwOpC w C o F) (f : Frm w w' S) (hd : ∀ g ∈ F, g ∉ S) : OwOpC w' C o F := by
  obtain ⟨k, n, t, e, h1, h2, h3, rfl⟩ := h
  exact ⟨k, n, t, e, ⟨h1.1, ownsRow_frm h1.2 f (fun g hg => hd g (by simp [hg]))⟩, h2.frm f (fun g hg => hd g (by simp [hg])), h3.frm f (fun g hg => hd g (by simp [hg])), rfl⟩
theorem OwOps.frm {w w' : World} {v : Value} {l : List OpV} {F S : List Nat} (h : OwOps w v l F) (f : Frm w w' S) (hd : ∀ g ∈ F, g ∉ S) : OwOps w' v l F :=
  OwElems.frm h f hd (fun C x G hr hG => hr.frm f hG)
theorem OwOps.rd {w : World} {v : Value} {l : List OpV} {F : List Nat} (h : OwOps w v l F) : RdOps w v l :=
  OwElems.rd h (OwElems.len h) (fun C x G ⟨k, n, t, e, h1, h2, h3, _⟩ => ⟨k, n, t, e, h1.ints, h2.byt, h3.byt⟩)
end Go.Proofs.YtkmmhlimihkgfaaGreat

/- spec.Less and impl.Less answer what the plain order says; the law on Less. -/
namespace Go.Proofs.YtkmmhlimihkgfaaGreat
open Go.RowKit
set_option linter.unusedVariables false
set_option maxRecDepth 100000

def lessB (n r n' r' : Int) : Bool := decide (n < n') || (n == n' && decide (r < r'))

theorem lessB_cases (n r n' r' : Int) :
    (lessB n r n' r' = true ∧ decide (n < n') = true ∧ (n == n') = false ∧ n ≠ n') ∨
    (lessB n r n' r' = false ∧ decide (n < n') = false ∧ (n == n') = false ∧ n ≠ n') ∨
    (n = n' ∧ lessB n r n' r' = true ∧ decide (n < n') = false ∧ decide (r < r') = true ∧ r ≠ r') ∨
    (n = n' ∧ lessB n r n' r' = false ∧ decide (n < n') = false ∧ decide (r < r') = false) := by
  unfold lessB
  simp only [Bool.or_eq_true, Bool.or_eq_false_iff, Bool.and_eq_true, Bool.and_eq_false_iff, beq_iff_eq, beq_eq_false_iff_ne, decide_eq_true_eq, decide_eq_false_iff_not]
  omega

set_option maxHeartbeats 1600000 in
theorem lessS_any (w : World) (n r n' r' : Int) :
    Calls Tryz.prog 32 #[.agg #[.int .i64 n, .int .i64 r], .agg #[.int .i64 n', .int .i64 r']] w fun e w' => e = .returned (.bool (lessB n r n' r')) ∧ Below w.heap.size w w' := by
  have HB := hide (((Below.refl w.heap.size w).alloc (Nat.le_refl _) (.cells #[.int .i64 n, .int .i64 r] 25)).alloc (by simp) (.cells #[.int .i64 n', .int .i64 r'] 25))
  rcases lessB_cases n r n' r' with ⟨h, q1, q2, q3⟩ | ⟨h, q1, q2, q3⟩ | ⟨rfl, h, q1, q2, q3⟩ | ⟨rfl, h, q1, q2⟩
  all_goals
    have HE := hide h
    clear h
    go_enter Tryz.func32, Tryz.ntmps32
    go_wp2
    go_ret
    exact ⟨by rw [unhide HE]; rfl, unhide HB⟩

theorem Loc.two {w : World} {g : Nat} {v0 v1 : Value} {T : TypeId} (h : Loc w g #[v0, v1] T) : w.cell? ⟨g, 0, none⟩ = some v0 ∧ w.cell? ⟨g, 1, none⟩ = some v1 := ⟨h.cell 0, h.cell 1⟩

/-- Below 0, 0 or above 0. -/
def ordI (n r n' r' : Int) : Int := if n = n' ∧ r = r' then 0 else if lessB n r n' r' then -1 else 1
theorem ordI_lt (n r n' r' : Int) : decide (ordI n r n' r' < 0) = lessB n r n' r' := by
  unfold ordI
  split
  · rename_i h
    obtain ⟨rfl, rfl⟩ := h
    unfold lessB
    simp
  · split <;> simp [*]

set_option maxHeartbeats 1600000 in
theorem orderI_any (w : World) (n r n' r' : Int) :
    Calls Tryz.prog 121 #[.agg #[.int .i64 n, .int .i64 r], .agg #[.int .i64 n', .int .i64 r']] w fun e w' => e = .returned (.int .i64 (ordI n r n' r')) ∧ Below w.heap.size w w' := by
  have HB := hide (((Below.refl w.heap.size w).alloc (Nat.le_refl _) (.cells #[.int .i64 n, .int .i64 r] 25)).alloc (by simp) (.cells #[.int .i64 n', .int .i64 r'] 25))
  rcases lessB_cases n r n' r' with ⟨h, q1, q2, q3⟩ | ⟨h, q1, q2, q3⟩ | ⟨rfl, h, q1, q2, q3⟩ | ⟨rfl, h, q1, q2⟩
  · have HE := hide (show ordI n r n' r' = -1 by unfold ordI; rw [if_neg (fun k => q3 k.1), h]; rfl)
    clear h
    go_enter Tryz.func121, Tryz.ntmps121
    go_wp2
    go_ret
    exact ⟨by rw [unhide HE]; rfl, unhide HB⟩
  · have HE := hide (show ordI n r n' r' = 1 by unfold ordI; rw [if_neg (fun k => q3 k.1), h]; rfl)
    clear h
    go_enter Tryz.func121, Tryz.ntmps121
    go_wp2
    go_ret
    exact ⟨by rw [unhide HE]; rfl, unhide HB⟩
  · have HE := hide (show ordI n r n r' = -1 by unfold ordI; rw [if_neg (fun k => q3 k.2), h]; rfl)
    have q4 : (r == r') = false := by simpa using q3
    clear h
    go_enter Tryz.func121, Tryz.ntmps121
    go_wp2
    go_ret
    exact ⟨by rw [unhide HE]; rfl, unhide HB⟩
  · by_cases h2 : r = r'
    · subst h2
      have HE := hide (show ordI n r n r = 0 by unfold ordI; rw [if_pos ⟨rfl, rfl⟩])
      clear h
      go_enter Tryz.func121, Tryz.ntmps121
      go_wp2
      go_ret
      exact ⟨by rw [unhide HE]; rfl, unhide HB⟩
    · have HE := hide (show ordI n r n r' = 1 by unfold ordI; rw [if_neg (fun k => h2 k.2), h]; rfl)
      have q4 : (r == r') = false := by simpa using h2
      clear h
      go_enter Tryz.func121, Tryz.ntmps121
      go_wp2
      go_ret
      exact ⟨by rw [unhide HE]; rfl, unhide HB⟩

set_option maxHeartbeats 1600000 in
theorem lessI_any (w : World) (n r n' r' : Int) :
    Calls Tryz.prog 87 #[.agg #[.int .i64 n, .int .i64 r], .agg #[.int .i64 n', .int .i64 r']] w fun e w' => e = .returned (.bool (lessB n r n' r')) ∧ Below w.heap.size w w' := by
  have hB := (((Below.refl w.heap.size w).alloc (Nat.le_refl _) (.cells #[.int .i64 n, .int .i64 r] 25)).alloc (by simp) (.cells #[.int .i64 n', .int .i64 r'] 25))
  go_enter Tryz.func87, Tryz.ntmps87
  go_wp2_with fail
  refine (orderI_any _ n r n' r').mono ?_
  rintro e w1 ⟨rfl, hB1⟩
  have hB2 := bstep hB hB1
  have hl := ordI_lt n r n' r'
  generalize ordI n r n' r' = z at *
  go_wp2
  go_ret
  exact ⟨by rw [← hl]; rfl, hB2⟩

end Go.Proofs.YtkmmhlimihkgfaaGreat

/- Rows of operations: empty, or in a block. -/
namespace Go.Proofs.YtkmmhlimihkgfaaGreat
open Go.RowKit
set_option linter.unusedVariables false
set_option maxRecDepth 100000

theorem RdOps.cases {w : World} {v : Value} {l : List OpV} (h : RdOps w v l) : (l = [] ∧ ∃ a cap, v = .slice a 0 cap) ∨ (∃ b off cap, v = .slice (some ⟨b, off, none⟩) l.length cap ∧ l ≠ [] ∧ b < w.heap.size ∧ ∀ i (hi : i < l.length), ∃ C : List Value, C.length = 12 ∧ (∀ j, j < 12 → w.cell? ⟨b, off + i * 12 + j, none⟩ = C[j]?) ∧ RdOpC w C l[i]) := by
  obtain ⟨_, ⟨rfl, rfl⟩ | ⟨x, cap, rfl, hc, rfl⟩ | ⟨b, off, cap, rfl, g1, g2, g3, g4, g5⟩⟩ := h
  · exact .inl ⟨rfl, _, _, rfl⟩
  · exact .inl ⟨rfl, _, _, rfl⟩
  · exact .inr ⟨b, off, cap, rfl, g3, g4, g5⟩
/-- An operation of a row is one, and behind the one ahead of it. -/
def okAt (l : List OpV) (i : Nat) : Bool := if h : i < l.length then opB l[i] && (decide (i = 0) || lessB (l[i - 1]'(by omega)).atN (l[i - 1]'(by omega)).atR l[i].atN l[i].atR) else true
def opsB (l : List OpV) : Bool := decide (l.length ≤ 150) && (List.range l.length).all (okAt l)
theorem opsB_long {l : List OpV} (h : 150 < l.length) : opsB l = false := by unfold opsB; rw [decide_eq_false (by omega)]; rfl
theorem opsB_bad {l : List OpV} {k : Nat} (hk : k < l.length) (h : okAt l k = false) : opsB l = false := by
  unfold opsB
  rw [Bool.and_eq_false_iff]
  right
  rw [List.all_eq_false]
  exact ⟨k, by simpa using hk, by simp [h]⟩
theorem opsB_good {l : List OpV} (hn : l.length ≤ 150) (h : ∀ j, j < l.length → okAt l j = true) : opsB l = true := by
  unfold opsB
  rw [decide_eq_true hn, Bool.true_and, List.all_eq_true]
  intro j hj
  exact h j (by simpa using hj)
theorem okAt_no {l : List OpV} {k : Nat} (hk : k < l.length) (h : opB l[k] = false) : okAt l k = false := by unfold okAt; rw [dif_pos hk, h]; rfl
theorem okAt_0 {l : List OpV} (hk : 0 < l.length) (h : opB l[0] = true) : okAt l 0 = true := by unfold okAt; rw [dif_pos hk, h]; rfl
theorem okAt_s {l : List OpV} {j : Nat} (hk : j + 1 < l.length) (h : opB l[j + 1] = true) : okAt l (j + 1) = lessB (l[j]'(by omega)).atN (l[j]'(by omega)).atR l[j + 1].atN l[j + 1].atR := by
  unfold okAt
  rw [dif_pos hk, h, Bool.true_and]
  rw [decide_eq_false (by omega), Bool.false_or]
  rfl
end Go.Proofs.YtkmmhlimihkgfaaGreat

/- Rows of bytes as strings: the conversion, and when two are one. -/
namespace Go.Proofs.YtkmmhlimihkgfaaGreat
open Go.RowKit
set_option linter.unusedVariables false

/-- The string of a row of bytes. -/
def str (l : List Int) : ByteArray := l.foldl (fun r n => r.push (UInt8.ofNat n.toNat)) ByteArray.empty
theorem str_go (l : List Int) (s : ByteArray) : (l.foldl (fun r n => r.push (UInt8.ofNat n.toNat)) s).data.toList = s.data.toList ++ l.map (fun n => UInt8.ofNat n.toNat) := by
  induction l generalizing s with
  | nil => simp
  | cons x l ih => rw [List.foldl_cons, ih]; simp [ByteArray.push]
theorem str_list (l : List Int) : (str l).data.toList = l.map (fun n => UInt8.ofNat n.toNat) := by
  unfold str; rw [str_go]; rfl
theorem toList_data (s : ByteArray) : s.toList = s.data.toList := Go.ByteArray.toList_eq s
theorem str_inj {a b : List Int} (ha : okB a) (hb : okB b) (h : (str a).toList = (str b).toList) : a = b := by
  rw [toList_data, toList_data, str_list, str_list] at h
  have hg : ∀ l : List Int, okB l → (l.map (fun n => UInt8.ofNat n.toNat)).map (fun u => (u.toNat : Int)) = l := by
    intro l hl
    induction l with
    | nil => rfl
    | cons x l ih =>
      have hx := hl x (by simp)
      have e : ((UInt8.ofNat x.toNat).toNat : Int) = x := by
        rw [UInt8.toNat_ofNat']; omega
      rw [List.map_cons, List.map_cons, ih (fun y hy => hl y (by simp [hy])), e]
  rw [← hg a ha, ← hg b hb, h]
theorem str_beq {a b : List Int} (ha : okB a) (hb : okB b) : ((str a).toList == (str b).toList) = decide (a = b) := by
  by_cases h : a = b
  · subst h; simp
  · have : ¬ (str a).toList = (str b).toList := fun e => h (str_inj ha hb e)
    rw [decide_eq_false h, beq_eq_false_iff_ne]; exact this

theorem conv_any (w : World) (u : Value) (a : List Int) (hu : Byt w u a) : (convert 22 9 u).run Tryz.prog w = .ok (.string (str a)) w := by
  have hfull : ∀ (x : Addr) (c : Nat), (∀ j, j < a.length → w.cell? (x.add j) = some (.int .u8 (a.getD j 0))) → (convert 22 9 (.slice (some x) a.length c)).run Tryz.prog w = .ok (.string (str a)) w := by
    intro x c hc
    rw [run_convert_bytes_string w 22 9 5 (some x) a.length c Tryz.underlying22 Tryz.underlying5 Tryz.underlying9]
    refine run_bytesToString w x a.length c a ?_
    have h := run_loadCells_list (P := Tryz.prog) (w := w) x (vals a) (fun j v hj => by
      have hlt : j < a.length := by
        by_cases hlt : j < a.length
        · exact hlt
        · rw [List.getElem?_eq_none (by rw [vals_len]; omega)] at hj; cases hj
      rw [vals_at hlt] at hj
      rw [hc j hlt]; exact hj)
    rw [vals_len] at h
    exact h
  obtain ⟨hoka, _, ⟨rfl, rfl⟩ | ⟨x, cap, rfl, hc, rfl⟩ | ⟨p, off, cap, rfl, h1, h2, h3, h4, h5⟩⟩ := hu
  · rw [run_convert_bytes_string w 22 9 5 none 0 0 Tryz.underlying22 Tryz.underlying5 Tryz.underlying9]
    simp [Conv.bytesToString, str]
  · exact hfull x cap (fun j hj => by simp at hj)
  · exact hfull _ cap (fun j hj => by rw [add_plain]; exact h5 j hj)

end Go.Proofs.YtkmmhlimihkgfaaGreat

/- spec.l2void and spec.l2attrs answer what the plain tests say. -/
namespace Go.Proofs.YtkmmhlimihkgfaaGreat
open Go.RowKit
set_option linter.unusedVariables false

/-- br, hr. -/
def Void (l : List Int) : Prop := l = [98, 114] ∨ l = [104, 114]
theorem str_br : (str [98, 114]).toList = [98, 114] := by rw [toList_data, str_list]; rfl
theorem str_hr : (str [104, 114]).toList = [104, 114] := by rw [toList_data, str_list]; rfl
theorem okB_br : okB [98, 114] := fun x hx => by simp at hx; omega
theorem okB_hr : okB [104, 114] := fun x hx => by simp at hx; omega

open Classical in
set_option maxHeartbeats 1600000 in
theorem voidS_any (w : World) (v : Value) (l : List Int) (h : Byt w v l) :
    Calls Tryz.prog 98 #[v] w fun e w' => e = .returned (.bool (decide (Void l))) ∧ w' = w := by
  have c1 := conv_any w v l h
  have b1 : ((str l).toList == [98, 114]) = decide (l = [98, 114]) := by rw [← str_br]; exact str_beq h.1 okB_br
  have b2 : ((str l).toList == [104, 114]) = decide (l = [104, 114]) := by rw [← str_hr]; exact str_beq h.1 okB_hr
  obtain ⟨a1, k1, rfl, _⟩ := h.shape
  generalize str l = s at *
  by_cases h1 : l = [98, 114]
  · have HD := hide (show decide (Void l) = true by simp [Void, h1])
    have d1 : (s.toList == [98, 114]) = true := by rw [b1]; simp [h1]
    clear b1 b2 h1
    go_enter Tryz.func98, Tryz.ntmps98
    go_wp2
    go_ret
    exact ⟨by rw [unhide HD]; rfl, rfl⟩
  · have d1 : (s.toList == [98, 114]) = false := by rw [b1]; simp [h1]
    by_cases h2 : l = [104, 114]
    · have HD := hide (show decide (Void l) = true by simp [Void, h2])
      have d2 : (s.toList == [104, 114]) = true := by rw [b2]; simp [h2]
      clear b1 b2 h1 h2
      go_enter Tryz.func98, Tryz.ntmps98
      go_wp2
      go_ret
      exact ⟨by rw [unhide HD]; rfl, rfl⟩
    · have HD := hide (show decide (Void l) = false by simp [Void, h1, h2])
      have d2 : (s.toList == [104, 114]) = false := by rw [b2]; simp [h2]
      clear b1 b2 h1 h2
      go_enter Tryz.func98, Tryz.ntmps98
      go_wp2
      go_ret
      exact ⟨by rw [unhide HD]; rfl, rfl⟩

/-- By their bytes. -/
def lessT (a b : List Int) : Bool := Op.bytesLess (str a).toList (str b).toList
/-- An attribute that may stand at place i. -/
def attrAt (l : List (List Int × List Int)) (i : Nat) : Prop := NameOk (l.getD i ([], [])).1 ∧ TextOk (l.getD i ([], [])).2 ∧ (0 < i → lessT (l.getD (i - 1) ([], [])).1 (l.getD i ([], [])).1 = true)
def AttrsOk (l : List (List Int × List Int)) : Prop := l.length ≤ 4 ∧ ∀ i, i < l.length → attrAt l i

theorem step_all {p : Nat → Prop} {k : Nat} (h : ∀ i, i < k → p i) (h1 : p k) (i : Nat) (hi : i < k + 1) : p i := by
  by_cases e : i = k
  · subst e; exact h1
  · exact h i (by omega)

open Classical in
set_option maxHeartbeats 3200000 in
theorem attrsS_any (w : World) (v : Value) (l : List (List Int × List Int)) (h : RdAttrs w v l) :
    Calls Tryz.prog 146 #[v] w fun e w' => e = .returned (.bool (decide (AttrsOk l))) ∧ Below w.heap.size w w' := by
  by_cases hl : 4 < l.length
  · obtain ⟨a, cap, rfl, _⟩ := Elems.shape h
    have HD := hide (show decide (AttrsOk l) = false by simp only [decide_eq_false_iff_not]; rintro ⟨_, _⟩; omega)
    have d2 : (4 : Int) < (l.length : Int) := by omega
    go_enter Tryz.func146, Tryz.ntmps146
    go_wp2_with fail
    go_ret
    exact ⟨by rw [unhide HD]; rfl, Below.refl _ _⟩
  have d2 : ¬ (4 : Int) < (l.length : Int) := by omega
  by_cases h0 : l = []
  · obtain ⟨a, cap, rfl, _⟩ := Elems.shape h
    subst h0
    have HD := hide (show decide (AttrsOk []) = true by simp only [decide_eq_true_eq]; exact ⟨by simp, fun i hi => by simp at hi⟩)
    go_enter Tryz.func146, Tryz.ntmps146
    go_wp2_with fail
    refine wp_loop_rounds 1 ?_
    rw [rounds_succ]
    go_wp2_with fail
    go_ret
    exact ⟨by rw [unhide HD]; rfl, Below.refl _ _⟩
  obtain ⟨_, ⟨_, e⟩ | ⟨_, _, _, _, e⟩ | ⟨b, off, cap, rfl, g1, g2, g3, g4, g5⟩⟩ := h
  · exact absurd e h0
  · exact absurd e h0
  go_enter Tryz.func146, Tryz.ntmps146
  go_wp2_with fail
  go_loopw [3] (fun i wr => ∃ k : Nat, k ≤ l.length ∧ i = .int .i64 k ∧ (∀ i, i < k → attrAt l i) ∧ Below w.heap.size w wr) (fun i _ => l.length - (intOf i).toNat)
  case atStart => exact ⟨0, Nat.zero_le _, rfl, fun i hi => by omega, Below.refl _ _⟩
  case round =>
    obtain ⟨k, hk, rfl, ha, hB⟩ := hrel
    have HA := hide ha
    clear ha
    by_cases hlt : k < l.length
    · obtain ⟨c0, c1, e0, e1, hc⟩ := two_of (g5 k hlt)
      obtain ⟨_, _, ee, hc0, hc1⟩ := hc
      simp only [List.cons.injEq, and_true] at ee
      obtain ⟨rfl, rfl⟩ := ee
      replace e0 := (hB.cell (p := ⟨b, off + k * 2, none⟩) g4).trans e0
      replace e1 := (hB.cell (p := ⟨b, off + k * 2 + 1, none⟩) g4).trans e1
      replace hc0 := hc0.keep hB
      replace hc1 := hc1.keep hB
      have hlt' : (k : Int) < (l.length : Int) := by omega
      have hk0 : (0 : Int) ≤ (k : Int) := by omega
      obtain ⟨x, hx⟩ : ∃ x, x = l[k] := ⟨_, rfl⟩
      rw [← hx] at hc0 hc1
      have hgd : l.getD k ([], []) = x := by rw [hx]; simp [hlt]
      obtain ⟨a0, n0, hv0, _, _⟩ := hc0.shape
      obtain ⟨a1, n1, hv1, _, _⟩ := hc1.shape
      subst hv0 hv1
      by_cases hn : NameOk x.1
      · by_cases ht : TextOk x.2
        · by_cases hkz : k = 0
          · have HT := hide (show attrAt l k from ⟨by rw [hgd]; exact hn, by rw [hgd]; exact ht, fun h => by omega⟩)
            have HN := hide hn
            have HX := hide ht
            subst hkz
            have dk : decide ((0 : Int) < ((0 : Nat) : Int)) = false := by simp
            simp only [Nat.zero_mul, Nat.add_zero] at e0 e1
            clear g5 hn ht hgd hx
            go_wp2_with fail
            go_quiet (first | (go_at_call 37; exact Calls.quiet_of_same (nameS_yes _ _ x.1 (hc0.keep (below_drewN (Below.refl _ _) _)) (unhide HN))) | (go_at_call 33; exact Calls.quiet_of_same (textS_yes _ _ x.2 (hc1.keep (below_drewN (Below.refl _ _) _)) (unhide HX))))
            go_wp2_with fail
            go_roundw
            case rel => exact ⟨1, by omega, by go_num, fun i hi => by obtain rfl : i = 0 := (by omega); exact unhide HT, below_drewN hB _⟩
            case measure => simp [intOf]; omega
          · obtain ⟨p0, p1, u0, u1, hp⟩ := two_of (g5 (k - 1) (by omega))
            obtain ⟨_, _, ee, hp0, hp1⟩ := hp
            simp only [List.cons.injEq, and_true] at ee
            obtain ⟨rfl, rfl⟩ := ee
            replace u0 := (hB.cell (p := ⟨b, off + (k - 1) * 2, none⟩) g4).trans u0
            replace hp0 := hp0.keep hB
            obtain ⟨y, hy⟩ : ∃ y, y = l[k - 1] := ⟨_, rfl⟩
            rw [← hy] at hp0
            have hgy : l.getD (k - 1) ([], []) = y := by rw [hy]; simp [show k - 1 < l.length by omega]
            obtain ⟨a2, n2, hv2, _, _⟩ := hp0.shape
            subst hv2
            have cx := fun q => conv_any (wr.drewN q) _ x.1 (hc0.keep (below_drewN (Below.refl _ _) q))
            have cy := fun q => conv_any (wr.drewN q) _ y.1 (hp0.keep (below_drewN (Below.refl _ _) q))
            have hkp : 0 < k := by omega
            have hkd : decide (0 < k) = true := by simp; omega
            have hk1 : (0 : Int) ≤ (k : Int) - 1 := by omega
            have hk2 : (k : Int) - 1 < (l.length : Int) := by omega
            have hk3 : ((k : Int) - 1).toNat = k - 1 := by omega
            have HN := hide hn
            have HX := hide ht
            by_cases hl2 : lessT y.1 x.1 = true
            · have HT := hide (show attrAt l k from ⟨by rw [hgd]; exact hn, by rw [hgd]; exact ht, fun _ => by rw [hgd, hgy]; exact hl2⟩)
              unfold lessT at hl2
              clear g5 hn ht hgd hx hy hgy
              go_wp2_with fail
              go_quiet (first | (go_at_call 37; exact Calls.quiet_of_same (nameS_yes _ _ x.1 (hc0.keep (below_drewN (Below.refl _ _) _)) (unhide HN))) | (go_at_call 33; exact Calls.quiet_of_same (textS_yes _ _ x.2 (hc1.keep (below_drewN (Below.refl _ _) _)) (unhide HX))))
              go_wp2_with fail
              go_roundw
              case rel => exact ⟨k + 1, by omega, by go_num, fun i hi => step_all (unhide HA) (unhide HT) i hi, below_drewN hB _⟩
              case measure => simp [intOf]; omega
            · have HF := hide (show decide (AttrsOk l) = false by
                simp only [decide_eq_false_iff_not]
                rintro ⟨_, h⟩
                exact hl2 (by have := (h k hlt).2.2 (by omega); rwa [hgd, hgy] at this))
              have hl3 : Op.bytesLess (str y.1).toList (str x.1).toList = false := by unfold lessT at hl2; simpa using hl2
              clear g5 hn ht hgd hx hy hgy hl2
              go_wp2_with fail
              go_quiet (first | (go_at_call 37; exact Calls.quiet_of_same (nameS_yes _ _ x.1 (hc0.keep (below_drewN (Below.refl _ _) _)) (unhide HN))) | (go_at_call 33; exact Calls.quiet_of_same (textS_yes _ _ x.2 (hc1.keep (below_drewN (Below.refl _ _) _)) (unhide HX))))
              go_wp2_with fail
              go_ret
              exact ⟨by rw [unhide HF]; rfl, below_drewN hB _⟩
        · have HF := hide (show decide (AttrsOk l) = false by
            simp only [decide_eq_false_iff_not]
            rintro ⟨_, h⟩
            exact ht (by have := (h k hlt).2.1; rwa [hgd] at this))
          have HN := hide hn
          have HX := hide ht
          clear g5 hn ht hgd hx
          go_wp2_with fail
          go_quiet (first | (go_at_call 37; exact Calls.quiet_of_same (nameS_yes _ _ x.1 (hc0.keep (below_drewN (Below.refl _ _) _)) (unhide HN))) | (go_at_call 33; exact Calls.quiet_of_same (textS_no _ _ x.2 (hc1.keep (below_drewN (Below.refl _ _) _)) (unhide HX))))
          go_wp2_with fail
          go_ret
          exact ⟨by rw [unhide HF]; rfl, below_drewN hB _⟩
      · have HF := hide (show decide (AttrsOk l) = false by
          simp only [decide_eq_false_iff_not]
          rintro ⟨_, h⟩
          exact hn (by have := (h k hlt).1; rwa [hgd] at this))
        have HN := hide hn
        clear g5 hn hgd hx
        go_wp2_with fail
        go_quiet ((go_at_call 37; exact Calls.quiet_of_same (nameS_no _ _ x.1 (hc0.keep (below_drewN (Below.refl _ _) _)) (unhide HN))))
        go_wp2_with fail
        go_ret
        exact ⟨by rw [unhide HF]; rfl, below_drewN hB _⟩
    · have e : k = l.length := by omega
      subst e
      have HF := hide (show decide (AttrsOk l) = true by simp only [decide_eq_true_eq]; exact ⟨by omega, unhide HA⟩)
      clear g5
      go_wp2_with fail
      go_ret
      exact ⟨by rw [unhide HF]; rfl, hB⟩
end Go.Proofs.YtkmmhlimihkgfaaGreat

/- The laws' own count of how great a tree is, by contracts. -/
namespace Go.Proofs.YtkmmhlimihkgfaaGreat
open Go.RowKit
set_option linter.unusedVariables false

theorem ret_i64 {a b : Int} (h : a = b) : Ending.returned (.int .i64 a) = .returned (.int .i64 b) := by rw [h]

theorem szB_any (w : World) (a : Option Addr) (n cap : Nat) (left : Int) (hn : n ≤ maxLen) (h0 : 0 ≤ left) (h1 : left ≤ 1000000000) :
    Calls Tryz.prog 45 #[.slice a n cap, .int .i64 left] w fun e w' => e = .returned (.int .i64 (rest n left)) ∧ w' = w := by
  unfold maxLen at hn
  by_cases h : (n : Int) ≤ left
  · have HR := hide (rest_in h)
    have hd : ¬ left - (n : Int) < 0 := by omega
    go_enter Tryz.func45, Tryz.ntmps45
    go_wp2
    go_ret
    exact ⟨by rw [unhide HR]; rfl, rfl⟩
  · have HR := hide (rest_out h)
    have hd : left - (n : Int) < 0 := by omega
    go_enter Tryz.func45, Tryz.ntmps45
    go_wp2
    go_ret
    exact ⟨by rw [unhide HR]; rfl, rfl⟩

set_option maxHeartbeats 1600000 in
theorem szAttr_any (w : World) (a b : Value) (x : List Int × List Int) (left : Int) (ha : Byt w a x.1) (hb : Byt w b x.2) (h0 : 0 ≤ left) (h1 : left ≤ 1000000000) :
    Calls Tryz.prog 132 #[.agg #[a, b], .int .i64 left] w fun e w' => e = .returned (.int .i64 (rest (x.1.length + x.2.length) left)) ∧ Below w.heap.size w w' := by
  obtain ⟨a1, c1, rfl, _, _⟩ := ha.shape
  obtain ⟨a2, c2, rfl, _, _⟩ := hb.shape
  have m1 := ha.2.1
  have m2 := hb.2.1
  by_cases h2 : ((x.1.length : Nat) : Int) ≤ left
  · have HR := hide (rest_rest (b := x.2.length) h2)
    go_enter Tryz.func132, Tryz.ntmps132
    go_wp2_with fail
    refine (szB_any _ _ _ _ left m1 h0 h1).mono ?_
    rintro e w1 ⟨rfl, rfl⟩
    rw [rest_in h2]
    have hd : ¬ left - (x.1.length : Int) < 0 := by omega
    go_wp2_with fail
    refine (szB_any _ _ _ _ (left - (x.1.length : Int)) m2 (by omega) (by omega)).mono ?_
    rintro e w2 ⟨rfl, rfl⟩
    by_cases h3 : ((x.2.length : Nat) : Int) ≤ left - (x.1.length : Int)
    · rw [rest_in h3] at HR ⊢
      have hd2 : ¬ left - (x.1.length : Int) - (x.2.length : Int) < 0 := by omega
      go_wp2
      go_ret
      exact ⟨by rw [unhide HR]; rfl, (Below.refl _ _).alloc (Nat.le_refl _) _⟩
    · rw [rest_out h3] at HR ⊢
      go_wp2
      go_ret
      exact ⟨by rw [unhide HR]; rfl, (Below.refl _ _).alloc (Nat.le_refl _) _⟩
  · have HR := hide (rest_bad (b := x.2.length) h2)
    go_enter Tryz.func132, Tryz.ntmps132
    go_wp2_with fail
    refine (szB_any _ _ _ _ left m1 h0 h1).mono ?_
    rintro e w1 ⟨rfl, rfl⟩
    rw [rest_out (by omega)]
    go_wp2
    go_ret
    exact ⟨by rw [unhide HR]; rfl, (Below.refl _ _).alloc (Nat.le_refl _) _⟩

/-- The count of the first k members. -/
def sumTo {α : Type} (f : α → Nat) (l : List α) (k : Nat) : Nat := ((l.take k).map f).sum
theorem sumTo_step {α : Type} (f : α → Nat) (l : List α) (k : Nat) (h : k < l.length) : sumTo f l (k + 1) = sumTo f l k + f l[k] := by
  unfold sumTo
  rw [List.take_succ_eq_append_getElem h]
  simp only [List.map_append, List.sum_append, List.map_cons, List.map_nil, List.sum_cons, List.sum_nil, Nat.add_zero]
theorem sumTo_all {α : Type} (f : α → Nat) (l : List α) : sumTo f l l.length = (l.map f).sum := by simp [sumTo]
theorem sumTo_le {α : Type} (f : α → Nat) (l : List α) (k : Nat) : sumTo f l k ≤ (l.map f).sum := by
  have h : (l.map f).sum = sumTo f l k + ((l.drop k).map f).sum := by
    unfold sumTo
    rw [← List.sum_append, ← List.map_append, List.take_append_drop]
  omega

set_option maxHeartbeats 1600000 in
theorem szAttrS_any (w : World) (v : Value) (l : List (List Int × List Int)) (left : Int) (h : RdAttrs w v l) (h0 : 0 ≤ left) (h1 : left ≤ 1000000000) :
    Calls Tryz.prog 95 #[v, .int .i64 left] w fun e w' => e = .returned (.int .i64 (rest (szA l) left)) ∧ Below w.heap.size w w' := by
  have hm := h.1
  unfold maxLen at hm
  by_cases h2 : (l.length : Int) ≤ left
  · have hd : ¬ left - (l.length : Int) < 0 := by omega
    obtain ⟨_, ⟨rfl, rfl⟩ | ⟨x, cap, rfl, hc, rfl⟩ | ⟨b, off, cap, rfl, g1, g2, g3, g4, g5⟩⟩ := h
    · go_enter Tryz.func95, Tryz.ntmps95
      go_wp2
      refine wp_loop_rounds 1 ?_
      rw [rounds_succ]
      go_wp2
      go_ret
      exact ⟨ret_i64 (by rw [rest_in (by simpa [szA] using h0)]; simp [szA]), Below.refl _ _⟩
    · go_enter Tryz.func95, Tryz.ntmps95
      go_wp2
      refine wp_loop_rounds 1 ?_
      rw [rounds_succ]
      go_wp2
      go_ret
      exact ⟨ret_i64 (by rw [rest_in (by simpa [szA] using h0)]; simp [szA]), Below.refl _ _⟩
    · have HE := hide (rest_rest (b := (l.map fun x => x.1.length + x.2.length).sum) h2)
      go_enter Tryz.func95, Tryz.ntmps95
      go_wp2
      go_loopw [1, 5] (fun q i wr => ∃ k : Nat, k ≤ l.length ∧ i = .int .i64 k ∧ ((sumTo (fun x : List Int × List Int => x.1.length + x.2.length) l k : Nat) : Int) ≤ left - (l.length : Int) ∧ q = .int .i64 (left - (l.length : Int) - (sumTo (fun x : List Int × List Int => x.1.length + x.2.length) l k : Nat)) ∧ Below w.heap.size w wr) (fun _ i _ => l.length - (intOf i).toNat)
      case atStart => exact ⟨0, Nat.zero_le _, rfl, by simp [sumTo]; omega, by simp [sumTo], Below.refl _ _⟩
      case round =>
        obtain ⟨k, hk, rfl, hs, rfl, hB⟩ := hrel
        by_cases hlt : k < l.length
        · obtain ⟨C, hC, hcell, c0, c1, rfl, hc0, hc1⟩ := g5 k hlt
          have e0 := (hB.cell (p := ⟨b, off + k * 2, none⟩) g4).trans (hcell 0 (by omega))
          have e1 := (hB.cell (p := ⟨b, off + k * 2 + 1, none⟩) g4).trans (hcell 1 (by omega))
          simp only [List.getElem?_cons_zero, List.getElem?_cons_succ] at e0 e1
          have hlt' : (k : Int) < (l.length : Int) := by omega
          obtain ⟨a1, k1, hsh1, _, _⟩ := hc0.shape
          obtain ⟨a2, k2, hsh2, _, _⟩ := hc1.shape
          subst hsh1 hsh2
          generalize hq : sumTo (fun x : List Int × List Int => x.1.length + x.2.length) l k = q at *
          have HQ := hide hq
          clear hcell g5 hq
          have hst := sumTo_step (fun x : List Int × List Int => x.1.length + x.2.length) l k hlt
          have hle := sumTo_le (fun x : List Int × List Int => x.1.length + x.2.length) l (k + 1)
          rw [hst] at hle
          rw [HQ.out] at hst hle
          have HST := hide hst
          clear hst
          go_wp2_with fail
          refine (szAttr_any wr _ _ l[k] (left - (l.length : Int) - (q : Int)) (hc0.keep hB) (hc1.keep hB) (by omega) (by omega)).mono ?_
          rintro e w2 ⟨rfl, hB2⟩
          have hB3 := hB.trans (hB2.mono hB.size)
          clear hc0 hc1 hC e0 e1
          generalize l[k].fst.length + l[k].snd.length = m at *
          by_cases h3 : (m : Int) ≤ left - (l.length : Int) - (q : Int)
          · rw [rest_in h3]
            have hd3 : ¬ left - (l.length : Int) - (q : Int) - (m : Int) < 0 := by omega
            go_wp2
            go_roundw
            case rel => exact ⟨k + 1, by omega, by go_num, by rw [unhide HST]; omega, by rw [unhide HST]; exact congrArg (Value.int .i64) (by omega), hB3⟩
            case measure => simp [intOf]; omega
          · rw [rest_out h3]
            have HF := hide (show rest (szA l) left = -1 by unfold szA; rw [unhide HE, rest_out (by omega)])
            go_wp2
            go_ret
            exact ⟨by rw [unhide HF]; rfl, hB3⟩
        · have e : k = l.length := by omega
          subst e
          rw [sumTo_all] at hs ⊢
          have HF := hide (show rest (szA l) left = left - (l.length : Int) - ((l.map fun x => x.1.length + x.2.length).sum : Nat) by unfold szA; rw [unhide HE, rest_in hs])
          go_wp2
          go_ret
          exact ⟨by rw [unhide HF]; rfl, hB⟩
  · have HF := hide (show rest (szA l) left = -1 from rest_bad h2)
    obtain ⟨a, cap, rfl, _, _⟩ := h.shape
    have hd : left - (l.length : Int) < 0 := by omega
    go_enter Tryz.func95, Tryz.ntmps95
    go_wp2
    go_ret
    exact ⟨by rw [unhide HF]; rfl, Below.refl _ _⟩

/-- What szNode does to a node of depth below n. -/
def SzNodeSaid (n : Nat) : Prop := ∀ (w : World) (a b c d e : Value) (t : Tr n) (left : Int), RdNode n w [a, b, c, d, e] t → 0 ≤ left → left ≤ 1000000000 →
    Calls Tryz.prog 58 #[.agg #[a, b, c, d, e], .int .i64 left] w fun e w' => e = .returned (.int .i64 (rest (szT n t) left)) ∧ Below w.heap.size w w'

set_option maxHeartbeats 1600000 in
theorem szNodeS_any (n : Nat) (H : SzNodeSaid n) (w : World) (v : Value) (l : List (Tr n)) (left : Int) (h : RdKids n w v l) (h0 : 0 ≤ left) (h1 : left ≤ 1000000000) :
    Calls Tryz.prog 96 #[v, .int .i64 left] w fun e w' => e = .returned (.int .i64 (rest (szK n l) left)) ∧ Below w.heap.size w w' := by
  have hm := h.1
  unfold maxLen at hm
  by_cases h2 : (l.length : Int) ≤ left
  · have hd : ¬ left - (l.length : Int) < 0 := by omega
    obtain ⟨_, ⟨rfl, rfl⟩ | ⟨x, cap, rfl, hc, rfl⟩ | ⟨b, off, cap, rfl, g1, g2, g3, g4, g5⟩⟩ := h
    · go_enter Tryz.func96, Tryz.ntmps96
      go_wp2_with fail
      refine wp_loop_rounds 1 ?_
      rw [rounds_succ]
      go_wp2_with fail
      go_ret
      exact ⟨ret_i64 (by rw [rest_in (by simpa [szK] using h0)]; simp [szK]), Below.refl _ _⟩
    · go_enter Tryz.func96, Tryz.ntmps96
      go_wp2_with fail
      refine wp_loop_rounds 1 ?_
      rw [rounds_succ]
      go_wp2_with fail
      go_ret
      exact ⟨ret_i64 (by rw [rest_in (by simpa [szK] using h0)]; simp [szK]), Below.refl _ _⟩
    · have HE := hide (rest_rest (b := (l.map (szT n)).sum) h2)
      go_enter Tryz.func96, Tryz.ntmps96
      go_wp2_with fail
      go_loopw [1, 5] (fun q i wr => ∃ k : Nat, k ≤ l.length ∧ i = .int .i64 k ∧ ((sumTo (szT n) l k : Nat) : Int) ≤ left - (l.length : Int) ∧ q = .int .i64 (left - (l.length : Int) - (sumTo (szT n) l k : Nat)) ∧ Below w.heap.size w wr) (fun _ i _ => l.length - (intOf i).toNat)
      case atStart => exact ⟨0, Nat.zero_le _, rfl, by simp [sumTo]; omega, by simp [sumTo], Below.refl _ _⟩
      case round =>
        obtain ⟨k, hk, rfl, hs, rfl, hB⟩ := hrel
        by_cases hlt : k < l.length
        · obtain ⟨C, hC, hcell, hr⟩ := g5 k hlt
          obtain ⟨c0, c1, c2, c3, c4, rfl⟩ : ∃ c0 c1 c2 c3 c4, C = [c0, c1, c2, c3, c4] := by
            match C, hC with
            | [c0, c1, c2, c3, c4], _ => exact ⟨c0, c1, c2, c3, c4, rfl⟩
          have e0 := (hB.cell (p := ⟨b, off + k * 5, none⟩) g4).trans (hcell 0 (by omega))
          have e1 := (hB.cell (p := ⟨b, off + k * 5 + 1, none⟩) g4).trans (hcell 1 (by omega))
          have e2 := (hB.cell (p := ⟨b, off + k * 5 + 2, none⟩) g4).trans (hcell 2 (by omega))
          have e3 := (hB.cell (p := ⟨b, off + k * 5 + 3, none⟩) g4).trans (hcell 3 (by omega))
          have e4 := (hB.cell (p := ⟨b, off + k * 5 + 4, none⟩) g4).trans (hcell 4 (by omega))
          simp only [List.getElem?_cons_zero, List.getElem?_cons_succ] at e0 e1 e2 e3 e4
          have hlt' : (k : Int) < (l.length : Int) := by omega
          have hst := sumTo_step (szT n) l k hlt
          have hle := sumTo_le (szT n) l (k + 1)
          rw [hst] at hle
          generalize hq : sumTo (szT n) l k = q at *
          have HQ := hide hq
          have HST := hide hst
          clear hcell g5 hq hst
          go_wp2_with fail
          refine (H wr _ _ _ _ _ l[k] (left - (l.length : Int) - (q : Int)) (hr.keep hB) (by omega) (by omega)).mono ?_
          rintro e w2 ⟨rfl, hB2⟩
          have hB3 := hB.trans (hB2.mono hB.size)
          clear hC e0 e1 e2 e3 e4 hr
          generalize szT n l[k] = m at *
          by_cases h3 : (m : Int) ≤ left - (l.length : Int) - (q : Int)
          · rw [rest_in h3]
            have hd3 : ¬ left - (l.length : Int) - (q : Int) - (m : Int) < 0 := by omega
            go_wp2_with fail
            go_roundw
            case rel => exact ⟨k + 1, by omega, by go_num, by rw [unhide HST]; omega, by rw [unhide HST]; exact congrArg (Value.int .i64) (by omega), hB3⟩
            case measure => simp [intOf]; omega
          · rw [rest_out h3]
            have HF := hide (show rest (szK n l) left = -1 by unfold szK; rw [unhide HE, rest_out (by omega)])
            go_wp2_with fail
            go_ret
            exact ⟨by rw [unhide HF]; rfl, hB3⟩
        · have e : k = l.length := by omega
          subst e
          rw [sumTo_all] at hs ⊢
          have HF := hide (show rest (szK n l) left = left - (l.length : Int) - ((l.map (szT n)).sum : Nat) by unfold szK; rw [unhide HE, rest_in hs])
          go_wp2_with fail
          go_ret
          exact ⟨by rw [unhide HF]; rfl, hB⟩
  · have HF := hide (show rest (szK n l) left = -1 from rest_bad h2)
    obtain ⟨a, cap, rfl, _, _⟩ := Elems.shape h
    have hd : left - (l.length : Int) < 0 := by omega
    go_enter Tryz.func96, Tryz.ntmps96
    go_wp2_with fail
    go_ret
    exact ⟨by rw [unhide HF]; rfl, Below.refl _ _⟩

theorem szNode_zero : SzNodeSaid 0 := fun _ _ _ _ _ _ t => t.elim

set_option maxHeartbeats 3200000 in
theorem szNode_succ (n : Nat) (H : SzNodeSaid n) : SzNodeSaid (n + 1) := by
  intro w a b c d e t left hr h0 h1
  obtain ⟨a', b', c', d', e0, k1, k2, hb, hc, hd, he⟩ := hr
  simp only [List.cons.injEq, and_true] at e0
  obtain ⟨rfl, rfl, rfl, rfl, rfl⟩ := e0
  obtain ⟨ab, cb, rfl, _, _⟩ := hb.shape
  obtain ⟨ac, cc, rfl, _, _⟩ := hc.shape
  obtain ⟨ad, cd, rfl, _, _⟩ := Elems.shape hd
  obtain ⟨ae, ce, rfl, _, _⟩ := Elems.shape he
  have mb := hb.2.1
  have mc := hc.2.1
  have hz : szT (n + 1) t = t.name.length + (t.text.length + (szA t.attrs + szK n t.kids)) := by show t.name.length + t.text.length + szA t.attrs + (t.kids.length + (t.kids.map (szT n)).sum) = _; unfold szK; omega
  rw [hz]
  have hA : Below w.heap.size w (w.alloc (.cells #[.int .i64 t.kind, .slice ab t.name.length cb, .slice ac t.text.length cc, .slice ad t.attrs.length cd, .slice ae t.kids.length ce] 53)) := (Below.refl _ _).alloc (Nat.le_refl _) _
  go_enter Tryz.func58, Tryz.ntmps58
  go_wp2_with fail
  refine (szB_any _ _ _ _ left mb h0 h1).mono ?_
  rintro e w1 ⟨rfl, rfl⟩
  by_cases h2 : (t.name.length : Int) ≤ left
  · have H2 := hide (rest_rest (b := t.text.length + (szA t.attrs + szK n t.kids)) h2)
    rw [rest_in h2]
    have hd2 : ¬ left - (t.name.length : Int) < 0 := by omega
    go_wp2_with fail
    refine (szB_any _ _ _ _ (left - (t.name.length : Int)) mc (by omega) (by omega)).mono ?_
    rintro e w1 ⟨rfl, rfl⟩
    by_cases h3 : (t.text.length : Int) ≤ left - (t.name.length : Int)
    · have H3 := hide (rest_rest (b := szA t.attrs + szK n t.kids) h3)
      rw [rest_in h3]
      have hd3 : ¬ left - (t.name.length : Int) - (t.text.length : Int) < 0 := by omega
      go_wp2_with fail
      refine (szAttrS_any _ _ t.attrs (left - (t.name.length : Int) - (t.text.length : Int)) (hd.keep hA) (by omega) (by omega)).mono ?_
      rintro e w2 ⟨rfl, hB2⟩
      have hA2 := bstep hA hB2
      by_cases h4 : (szA t.attrs : Int) ≤ left - (t.name.length : Int) - (t.text.length : Int)
      · have H4 := hide (rest_rest (b := szK n t.kids) h4)
        rw [rest_in h4]
        have hd4 : ¬ left - (t.name.length : Int) - (t.text.length : Int) - (szA t.attrs : Int) < 0 := by omega
        have hc4 := cell_later hB2 (show (w.alloc (.cells #[.int .i64 t.kind, .slice ab t.name.length cb, .slice ac t.text.length cc, .slice ad t.attrs.length cd, .slice ae t.kids.length ce] 53)).cell? ⟨w.heap.size, 4, none⟩ = some (.slice ae t.kids.length ce) by simp)
        go_wp2_with fail
        refine (szNodeS_any n H w2 _ t.kids (left - (t.name.length : Int) - (t.text.length : Int) - (szA t.attrs : Int)) (RdKids.keep he hA2) (by omega) (by omega)).mono ?_
        rintro e w3 ⟨rfl, hB3⟩
        have hA3 := bstep hA2 hB3
        clear hB2 hB3 hA hA2 hc4
        by_cases h5 : (szK n t.kids : Int) ≤ left - (t.name.length : Int) - (t.text.length : Int) - (szA t.attrs : Int)
        · have H5 := hide (rest_in h5)
          rw [rest_in h5]
          have hd5 : ¬ left - (t.name.length : Int) - (t.text.length : Int) - (szA t.attrs : Int) - (szK n t.kids : Int) < 0 := by omega
          go_wp2_with fail
          go_ret
          exact ⟨by rw [unhide H2, unhide H3, unhide H4, unhide H5]; rfl, hA3⟩
        · have H5 := hide (rest_out h5)
          rw [rest_out h5]
          go_wp2_with fail
          go_ret
          exact ⟨by rw [unhide H2, unhide H3, unhide H4, unhide H5]; rfl, hA3⟩
      · have H4 := hide (rest_bad (b := szK n t.kids) h4)
        rw [rest_out h4]
        clear hB2 hA
        go_wp2_with fail
        go_ret
        exact ⟨by rw [unhide H2, unhide H3, unhide H4]; rfl, hA2⟩
    · have H3 := hide (rest_bad (b := szA t.attrs + szK n t.kids) h3)
      rw [rest_out h3]
      have HA := hide hA
      clear hA
      go_wp2_with fail
      go_ret
      exact ⟨by rw [unhide H2, unhide H3]; rfl, unhide HA⟩
  · have H2 := hide (rest_bad (b := t.text.length + (szA t.attrs + szK n t.kids)) h2)
    rw [rest_out h2]
    have HA := hide hA
    clear hA
    go_wp2_with fail
    go_ret
    exact ⟨by rw [unhide H2]; rfl, unhide HA⟩

theorem szNode_any (n : Nat) : SzNodeSaid n := by
  induction n with
  | zero => exact szNode_zero
  | succ n ih => exact szNode_succ n ih

end Go.Proofs.YtkmmhlimihkgfaaGreat

/- The laws' own copy of a tree, by contracts: the copy is the same tree, in blocks of its own. -/
namespace Go.Proofs.YtkmmhlimihkgfaaGreat
open Go.RowKit
set_option linter.unusedVariables false

set_option maxHeartbeats 1600000 in
theorem toAttr_any (w : World) (a b : Value) (x : List Int × List Int) (ha : Byt w a x.1) (hb : Byt w b x.2) (hs : x.1.length + x.2.length ≤ 2097152) :
    Calls Tryz.prog 134 #[.agg #[a, b]] w fun e w' => ∃ a1 c1 a2 c2, e = .returned (.agg #[.slice a1 x.1.length c1, .slice a2 x.2.length c2]) ∧ ∃ F, OwAttr w' [.slice a1 x.1.length c1, .slice a2 x.2.length c2] x F ∧ F.Nodup ∧ Rng F w.heap.size w'.heap.size ∧ Below w.heap.size w w' := by
  obtain ⟨p1, k1, rfl, _, _⟩ := ha.shape
  obtain ⟨p2, k2, rfl, _, _⟩ := hb.shape
  go_enter Tryz.func134, Tryz.ntmps134
  go_wp2_with fail
  have l0 := (((Loc.made w #[.slice p1 x.1.length k1, .slice p2 x.2.length k2] 154).alloc (.cells #[.slice none 0 0, .slice none 0 0] 157)).alloc (.cells #[.slice none 0 0, .slice none 0 0] 157))
  have l1 := (Loc.made (w.alloc (.cells #[.slice p1 x.1.length k1, .slice p2 x.2.length k2] 154)) #[.slice none 0 0, .slice none 0 0] 157).alloc (.cells #[.slice none 0 0, .slice none 0 0] 157)
  have l2 := Loc.made ((w.alloc (.cells #[.slice p1 x.1.length k1, .slice p2 x.2.length k2] 154)).alloc (.cells #[.slice none 0 0, .slice none 0 0] 157)) #[.slice none 0 0, .slice none 0 0] 157
  have hA : Below w.heap.size w (((w.alloc (.cells #[.slice p1 x.1.length k1, .slice p2 x.2.length k2] 154)).alloc (.cells #[.slice none 0 0, .slice none 0 0] 157)).alloc (.cells #[.slice none 0 0, .slice none 0 0] 157)) := (((Below.refl _ _).alloc (Nat.le_refl _) _).alloc (by simp) _).alloc (by simp; omega) _
  simp only [World.size_alloc] at l1 l2
  generalize hW : (((w.alloc (.cells #[.slice p1 x.1.length k1, .slice p2 x.2.length k2] 154)).alloc (.cells #[.slice none 0 0, .slice none 0 0] 157)).alloc (.cells #[.slice none 0 0, .slice none 0 0] 157)) = W at *
  have hWs : W.heap.size = w.heap.size + 3 := by rw [← hW]; simp
  clear hW
  have HWs := hide hWs
  clear hWs
  refine (toB_any W _ x.1 (ha.keep hA) (by omega)).mono ?_
  rintro e w1 ⟨v1, rfl, ho1, _, hB1⟩
  obtain ⟨a1, c1, hv1, _, _⟩ := ho1.byt.shape
  subst hv1
  have r1 := ho1.rng
  replace l0 := l0.all hB1
  replace l1 := l1.all hB1
  replace l2 := l2.all hB1
  have e0 := l0.cell 1
  have e2 := l2.cell 0
  have f2 := l2.frozen 0
  simp at e0 e2
  have hA1 := bstep hA hB1
  have m0 := l0.other (w.heap.size + 1 + 1) 0 (.slice a1 x.1.length c1) (by omega)
  have m1 := l1.other (w.heap.size + 1 + 1) 0 (.slice a1 x.1.length c1) (by omega)
  have m2 := l2.set 0 (.slice a1 x.1.length c1)
  have hf1 := set_frm w1 (w.heap.size + 1 + 1) 0 (.slice a1 x.1.length c1)
  have ho2 := ho1.frm hf1 (fun g hg => by have := r1 g hg; have := unhide HWs; simp; omega)
  have hA2 : Below w.heap.size w (w1.setCell ⟨w.heap.size + 1 + 1, 0, none⟩ (.slice a1 x.1.length c1)) := hA1.setCell (by simp; omega) _
  have hs1 := hB1.size
  have M := hide (And.intro m0 (And.intro m1 m2))
  have HO := hide ho2
  have HA2 := hide hA2
  clear hB1 l0 l1 l2 m0 m1 m2 hf1 ho1 ho2 hA2 hA hA1
  go_wp2_with fail
  refine (toB_any _ _ x.2 (hb.keep (unhide HA2)) (by omega)).mono ?_
  rintro e w2 ⟨v2, rfl, ho3, _, hB2⟩
  obtain ⟨a2, c2, hv2, _, _⟩ := ho3.byt.shape
  subst hv2
  have r2 := ho3.rng
  have n1 := (unhide M).2.1.all hB2
  have n2 := (unhide M).2.2.all hB2
  have hA3 := bstep (unhide HA2) hB2
  have ho4 := (unhide HO).keep hB2
  have hs2 := hB2.size
  have g0 := n1.cell 0
  have g1 := n1.cell 1
  have g2 := n2.cell 0
  have g3 := n2.cell 1
  have g4 := n1.frozen 0
  have g5 := n1.frozen 1
  have g6 := n2.frozen 1
  simp at g0 g1 g2 g3 hs2
  clear M HO HA2 hB2
  simp only [World.size_setCell] at r2 ho3
  have hsz := unhide HWs
  have hf : Frm w2 (((w2.setCell ⟨w.heap.size + 1 + 1, 1, none⟩ (.slice a2 x.2.length c2)).setCell ⟨w.heap.size + 1, 0, none⟩ (.slice a1 x.1.length c1)).setCell ⟨w.heap.size + 1, 1, none⟩ (.slice a2 x.2.length c2)) [w.heap.size + 1 + 1, w.heap.size + 1] :=
    (((set_frm w2 _ _ _).mono (by simp)).trans ((set_frm _ _ _ _).mono (by simp))).trans ((set_frm _ _ _ _).mono (by simp))
  have ho5 := (ho4.frm hf (fun g hg => by have := r1 g hg; simp; omega)).mono (Nat.zero_le _)
  have ho6 := (ho3.frm hf (fun g hg => by have := r2 g hg; simp; omega)).mono (Nat.zero_le _)
  have hA4 := hA3.trans (hf.below hA3.size (fun g hg => by simp at hg; omega))
  have hrng : Rng (FB (.slice a1 x.1.length c1) ++ FB (.slice a2 x.2.length c2)) w.heap.size w2.heap.size := (r1.mono (by omega) (by omega)).app (r2.mono (by omega) (by omega))
  have hnd := nodup_app (FB_nodup (.slice a1 x.1.length c1)) (FB_nodup (.slice a2 x.2.length c2)) r1 r2
  have HP := hide (And.intro ho5 (And.intro ho6 (And.intro hA4 (And.intro hrng hnd))))
  clear ho5 ho6 hA4 hrng hnd hf ho3 ho4 hA3 n1 n2 r1 r2 hsz
  go_wp2_with fail
  obtain ⟨ho5, ho6, hA4, hrng, hnd⟩ := unhide HP
  exact bodyPost_ret (v := .agg #[.slice a1 x.1.length c1, .slice a2 x.2.length c2]) (by simp [results, Tryz.results134, go_sem, g0, g1]) rfl ⟨a1, c1, a2, c2, rfl, _, ⟨_, _, rfl, ho5, ho6, rfl⟩, hnd, hrng.mono (Nat.le_refl _) (by simp), hA4⟩
end Go.Proofs.YtkmmhlimihkgfaaGreat
