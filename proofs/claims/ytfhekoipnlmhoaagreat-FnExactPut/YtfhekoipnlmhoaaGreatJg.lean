/- Own texts joined: Ins, OwnE, InsO, SetO, IPut, Mark, MarkZ, MarkOsM, MarkOs, EqOs, HeldOs, MarkO, SzOs. -/
import Derived.Test.YtfhekoipnlmhoaaGreatJa
import Derived.Test.YtfhekoipnlmhoaaGreatJb
import Derived.Test.YtfhekoipnlmhoaaGreatJc
import Derived.Test.YtfhekoipnlmhoaaGreatJd
import Derived.Test.YtfhekoipnlmhoaaGreatJe
import Derived.Test.YtfhekoipnlmhoaaGreatJf
import Derived.Lib.AppendZerosOnto
import Derived.Lib.Overlaps
import Derived.Lib.Walk
import Derived.Laws.Externs
import Derived.Laws.NewBlocks
import Derived.Deep.RegionLaw
import Derived.Deep.AppendLies
import Derived.Test.YtfhekoipnlmhoaaGreatChecked
import Derived.Deep.RegionHeld3

/- slices.Insert of one operation into a row of the call's own. -/
namespace Go.Proofs.YtfhekoipnlmhoaaGreat
open Go.RowKit
set_option linter.unusedVariables false
set_option maxRecDepth 100000

def InsAns (w : World) (v : Value) (n : Nat) (ys : List Value) (e : Ending) (w' : World) : Prop :=
  ∃ g cap, e = .returned (.slice (some ⟨g, 0, none⟩) (n + 1) cap) ∧ w'.ownsRow 0 28 12 (.slice (some ⟨g, 0, none⟩) (n + 1) cap) (n + 1) ys ∧ Frm w w' (FB v) ∧ (v.ownBlock = some g ∨ w.heap.size ≤ g) ∧ g < w'.heap.size

theorem loc_cells {w : World} {g : Nat} {C : List Value} {T : TypeId} (h : Loc w g C.toArray T) (j : Nat) (u : Value) (hj : C[j]? = some u) : w.cell? ((⟨g, 0, none⟩ : Addr).add j) = some u := by
  rw [add_plain, Nat.zero_add, h.cell j]
  simpa using hj

set_option maxHeartbeats 6400000 in
theorem ins_end (w : World) (v : Value) (n vb : Nat) (xs C : List Value) (h : w.ownsRow 0 28 12 v n xs) (hC : C.length = 12) (hl : Loc w vb C.toArray 28) (h1 : ∀ u ∈ C, u.oneCell' = true) (hn : n ≤ 100000) :
    Calls Tryz.prog 48 #[v, .int .i64 n, .slice (some ⟨vb, 0, none⟩) 1 1] w (InsAns w v n (xs ++ C)) := by
  obtain ⟨i0, hi, hz0, hz1, hz2⟩ := info_parts Tryz.info28
  have hcell := loc_cells hl
  have H := hide h
  have hsh : v = .slice none 0 0 ∧ n = 0 ∨ ∃ g cap, v = .slice (some ⟨g, 0, none⟩) n cap ∧ n ≤ cap := by
    rcases h.2 with ⟨rfl, rfl⟩ | ⟨g, cap, cur, rfl, _, _, hc, _⟩
    · exact .inl ⟨rfl, rfl⟩
    · exact .inr ⟨g, cap, rfl, hc⟩
  clear h
  rcases hsh with ⟨rfl, rfl⟩ | ⟨g, cap, rfl, hnc⟩
  · go_enter Tryz.func48, Tryz.ntmps48
    go_wp2_with (at_builtin; refine wpList_append_lies w rfl _ _ 23 rfl 0 28 i0 _ 12 144 Tryz.underlying23 hi hz0 hz1 hz2 rfl (by decide) _ 0 xs rfl (unhide H) ⟨vb, 0, none⟩ 1 1 C rfl (by omega) hcell h1 (by omega) (by unfold maxLen; omega) (by omega) (Nat.zero_le _) w.heap.size rfl ?_; intro g cap w' k1 k2 k3 k4)
    go_ret
    exact ⟨g, cap, rfl, k1, Frm.ofGrown k2, k3.imp id (fun e => by omega), k4⟩
  · go_enter Tryz.func48, Tryz.ntmps48
    go_wp2_with (at_builtin; refine wpList_append_lies w rfl _ _ 23 rfl 0 28 i0 _ 12 144 Tryz.underlying23 hi hz0 hz1 hz2 rfl (by decide) _ n xs rfl (unhide H) ⟨vb, 0, none⟩ 1 1 C rfl (by omega) hcell h1 (by omega) (by unfold maxLen; omega) (by omega) (Nat.zero_le _) w.heap.size rfl ?_; intro g' cap' w' k1 k2 k3 k4)
    all_goals (go_ret; exact ⟨g', cap', rfl, k1, Frm.ofGrown k2, k3.imp id (fun e => by omega), k4⟩)

theorem own_whole {w : World} {g n cap : Nat} {xs : List Value} (h : w.ownsRow 0 28 12 (.slice (some ⟨g, 0, none⟩) n cap) n xs) :
    ∃ R : List Value, Loc w g R.toArray 28 ∧ n ≤ cap ∧ cap ≤ maxLen ∧ R.length = cap * 12 ∧ R.take (n * 12) = xs := by
  rcases h.2 with ⟨h, _⟩ | ⟨g', cap', cur, h, _, hg, a, b, c, d⟩
  · cases h
  · cases h
    exact ⟨cur.toList, by simpa [Loc] using hg, a, b, by simpa using c, d⟩
theorem own_make {w : World} {g n cap : Nat} {R xs : List Value} (h : Loc w g R.toArray 28) (a : n ≤ cap) (b : cap ≤ maxLen) (c : R.length = cap * 12) (d : R.take (n * 12) = xs) : w.ownsRow 0 28 12 (.slice (some ⟨g, 0, none⟩) n cap) n xs := by
  refine ⟨?_, .inr ⟨g, cap, R.toArray, rfl, Nat.zero_le _, h, a, b, by simpa using c, by simpa using d⟩⟩
  have : n * 12 ≤ cap * 12 := Nat.mul_le_mul_right _ a
  rw [← d, List.length_take]; omega

set_option maxHeartbeats 8000000 in
theorem ins_grow (w : World) (g n cap i vb : Nat) (xs C : List Value) (h : w.ownsRow 0 28 12 (.slice (some ⟨g, 0, none⟩) n cap) n xs) (hC : C.length = 12) (hl : Loc w vb C.toArray 28) (h1 : ∀ u ∈ C, u.oneCell' = true) (hx1 : ∀ u ∈ xs, u.oneCell' = true) (hn : n ≤ 100000) (hi : i < n) (hroom : cap < n + 1) :
    Calls Tryz.prog 48 #[.slice (some ⟨g, 0, none⟩) n cap, .int .i64 i, .slice (some ⟨vb, 0, none⟩) 1 1] w (InsAns w (.slice (some ⟨g, 0, none⟩) n cap) n (xs.take (i * 12) ++ (C ++ xs.drop (i * 12)))) := by
  obtain ⟨i0, hi0, hz0, hzs, hzb⟩ := info_parts Tryz.info28
  have hsz : (Tryz.prog.info? 28).map (·.size) = some 12 := by rw [hi0]; simp [hzs]
  have hxl := h.1
  obtain ⟨R0, hg, hnc, hcm, hcs, htk⟩ := own_whole h
  have hcells : ∀ j u, xs[j]? = some u → w.cell? ⟨g, j, none⟩ = some u := fun j u hj => by
    rw [hg.cell j]
    rw [← htk, List.getElem?_take] at hj
    split at hj
    · simpa using hj
    · cases hj
  have hin : i * 12 ≤ n * 12 := Nat.mul_le_mul_right _ (by omega)
  have hold : (Builtin.firstCells i0.size i (.slice (some ⟨g, 0, none⟩) i cap)).run Tryz.prog w.drew = .ok (xs.take (i * 12)).toArray w.drew := by
    rw [hzs]
    exact run_firstCells_some w.drew 12 i ⟨g, 0, none⟩ i cap (xs.take (i * 12)) (by rw [List.length_take]; omega) (fun j v hj => by
      rw [add_plain, Nat.zero_add]
      rw [List.getElem?_take] at hj
      split at hj
      · exact hcells j v hj
      · cases hj)
  have hik : i + (n + 1 - i) = n + 1 := by omega
  have hkk : (n : Int) + 1 - (i : Int) = ((n + 1 - i : Nat) : Int) := by omega
  obtain ⟨z, hz⟩ : ∃ z : Value, z = .agg #[.int .i64 0, .int .i64 0, .int .i64 0, .int .i64 0, .int .i64 0, .int .i64 0, .int .i64 0, .slice none 0 0, .int .i64 0, .slice none 0 0, .slice none 0 0, .bool false] := ⟨_, rfl⟩
  have hzc : z.cells.size = 12 := by rw [hz]; rfl
  rw [← hz] at hz0
  obtain ⟨G, hG⟩ : ∃ G, G = grownCap w (n + 1) cap 28 := ⟨_, rfl⟩
  obtain ⟨R, hR⟩ : ∃ R : List Value, R = ((xs.take (i * 12)).toArray ++ Builtin.zeroCells z.cells (n + 1 - i) ++ Builtin.zeroCells z.cells (G - (n + 1))).toList := ⟨_, rfl⟩
  have hrz : ∀ ty, (Builtin.append_ #[23, 3] ty #[.slice (some ⟨g, 0, none⟩) i cap, .int .i64 ((n : Int) + 1 - (i : Int))]).run Tryz.prog w = .ok (.slice (some ⟨w.heap.size, 0, none⟩) (n + 1) G) (w.drew.alloc (.cells R.toArray 28)) := by
    intro ty
    have h := Lib.run_append_grow_zeros w 23 3 ty 28 i0 z .i64 .i64 Tryz.underlying23 Tryz.underlying3 hi0 hz0 (some ⟨g, 0, none⟩) i cap (xs.take (i * 12)) hold (n + 1 - i) (by omega) (by omega) (by omega) (by omega) (by rw [hzb]; omega) (by rw [hzb, hik]; exact growslice_fits hroom (by omega))
    rw [hik, ← hG] at h
    rw [hkk, hR, Array.toArray_toList]
    exact h
  have hGn : n + 1 ≤ G := by rw [hG]; exact grownCap_ge w _ _ _
  have hGm : G ≤ maxLen := by rw [hG]; exact grownCap_le_maxLen w (n + 1) cap 28 (by unfold maxLen; omega)
  have hRl : R.length = G * 12 := by
    rw [hR]
    simp [Builtin.zeroCells, hzc, List.length_take]
    omega
  have hRt : R.take (i * 12) = xs.take (i * 12) := by
    rw [hR]
    simp [List.take_append, List.length_take]
    have e : i * 12 - min (i * 12) xs.length = 0 := by omega
    rw [e]
    simp [List.take_take]
  have hdl : (xs.drop (i * 12)).length = (n - i) * 12 := by rw [List.length_drop]; omega
  have hGi : ¬ (G = i) := by omega
  have hGim : ¬ (G = i + 1) := by omega
  have hci : ¬ (cap = i) := by omega
  have hG63 : G ≤ 9223372036854775807 := by unfold maxLen at hGm; omega
  have hW1 : ((w.alloc (.cells R.toArray 28)).drew).heap[w.heap.size]? = some (.cells R.toArray 28 (0, 0)) := heap_alloc_new w _
  have hlv : Loc (w.alloc (.cells R.toArray 28)).drew vb C.toArray 28 := hl.alloc _
  have hgo : Loc (w.alloc (.cells R.toArray 28)).drew g R0.toArray 28 := hg.alloc _
  have hfa : Frm w (w.alloc (.cells R.toArray 28)).drew [] := ⟨rfl, rfl, rfl, by simp [World.drew], fun k hk _ => heap_alloc_old w _ hk⟩
  have hglt := hg.lt
  have hvlt := hl.lt
  clear hold hkk hik hR hG h hcells
  go_enter Tryz.func48, Tryz.ntmps48
  go_wp2_with (first
    | (at_builtin; refine Lib.wpList_append_run _ rfl _ _ _ _ rfl _ _ rfl rfl _ _ (hrz _) ?_)
    | (refine wpList_copyw rfl _ _ 23 23 rfl 28 12 Tryz.underlying23 hsz w.heap.size (i * 12) (n + 1 - i) (G - i) ⟨vb, 0, none⟩ 1 1 ?_ ?_ R 28 ?_ C 1 (by simp only [Nat.min_def]; split <;> omega) (by omega) ?_ (by omega) h1 ?_; rfl; rfl; exact hW1; exact loc_cells hlv; intro w2 hg2 hf2))
  have hg2' := unhide hg2
  have hgo2 := hgo.frm hf2 (by simp; omega)
  have hcells2 : ∀ j u, (xs.drop (i * 12))[j]? = some u → w2.cell? ((⟨g, i * 12, none⟩ : Addr).add j) = some u := fun j u hj => by
    rw [add_plain, hgo2.cell]
    rw [List.getElem?_drop, ← htk, List.getElem?_take] at hj
    split at hj
    · simpa using hj
    · cases hj
  have hsl : (splice R (i * 12) C).length = G * 12 := by rw [length_splice _ _ _ (by omega)]; exact hRl
  have hd1 : ∀ u ∈ xs.drop (i * 12), u.oneCell' = true := fun u hu => hx1 u (List.mem_of_mem_drop hu)
  have HM := hide (show n - i = Nat.min (n - i) (n - i) by simp only [Nat.min_def]; split <;> omega)
  have hb1 : (0 : Int) ≤ (i : Int) + 1 := by omega
  have hin' : i ≤ n := by omega
  have hb3 : (i : Int) ≤ (n : Int) := by omega
  have hgd : w2.drew.heap[w.heap.size]? = some (.cells (splice R (i * 12) C).toArray 28 (0, 0)) := hg2'
  have hcd : ∀ j u, (xs.drop (i * 12))[j]? = some u → w2.drew.cell? ((⟨g, i * 12, none⟩ : Addr).add j) = some u := hcells2
  have hw1 : IntKind.i64.wrap ((i : Int) + 1) = (i : Int) + 1 := by rw [IntKind.wrap_i64]; omega
  have htn : ((i : Int) + 1).toNat = i + 1 := by omega
  clear hrz hW1 hlv
  go_region_law (refine step_copyw rfl _ _ 23 23 rfl 28 12 Tryz.underlying23 hsz w.heap.size ((i + 1) * 12) (n - i) (G - (i + 1)) ⟨g, i * 12, none⟩ (n - i) (cap - i) (by simp [Act.eval, Act.put]) (by simp [Act.eval, Act.put]) (splice R (i * 12) C) 28 hgd (xs.drop (i * 12)) (n - i) (unhide HM) hdl hcd (by omega) hd1 ?_; intro w3 hg3 hf3)
  go_wp2
  go_ret
  have hfin := ins_new R C (xs.drop (i * 12)) (i * 12) 12 ((n - i) * 12) hC hdl (by omega)
  rw [hRt] at hfin
  have hg3' : Loc w3 w.heap.size (splice (splice R (i * 12) C) (i * 12 + 12) (xs.drop (i * 12))).toArray 28 := by
    have := unhide hg3
    rw [show (i + 1) * 12 = i * 12 + 12 by omega] at this
    exact this
  refine ⟨w.heap.size, G, rfl, own_make hg3' hGn hGm (by rw [length_splice _ _ _ (by omega)]; exact hsl) ?_, ?_, .inr (Nat.le_refl _), hg3'.lt⟩
  · rw [← hfin]; congr 1; omega
  · have f2 : Frm w w2 [] := hfa.new hf2 (fun q hq => by simp at hq; omega)
    have f3 : Frm w w3 [] := f2.new (⟨hf3.os, hf3.tape, hf3.output, hf3.size, hf3.block⟩ : Frm w2 w3 [w.heap.size]) (fun q hq => by simp at hq; omega)
    exact f3.mono (fun q hq => by simp at hq)

theorem loc_shape {w : World} {g : Nat} {C : List Value} {T : TypeId} (h : Loc w g C.toArray T) : w.shape? g = some (T, C.length) := by
  unfold Loc at h
  simp [World.shape?, h]

set_option maxHeartbeats 8000000 in
theorem ins_shift (w : World) (g n cap i vb : Nat) (xs C : List Value) (h : w.ownsRow 0 28 12 (.slice (some ⟨g, 0, none⟩) n cap) n xs) (hC : C.length = 12) (hl : Loc w vb C.toArray 28) (h1 : ∀ u ∈ C, u.oneCell' = true) (hx1 : ∀ u ∈ xs, u.oneCell' = true) (hn : n ≤ 100000) (hi : i < n) (hroom : n + 1 ≤ cap) (hvb : vb ≠ g) :
    Calls Tryz.prog 48 #[.slice (some ⟨g, 0, none⟩) n cap, .int .i64 i, .slice (some ⟨vb, 0, none⟩) 1 1] w (InsAns w (.slice (some ⟨g, 0, none⟩) n cap) n (xs.take (i * 12) ++ (C ++ xs.drop (i * 12)))) := by
  obtain ⟨i0, hi0, hz0, hzs, hzb⟩ := info_parts Tryz.info28
  have hsz : (Tryz.prog.info? 28).map (·.size) = some 12 := by rw [hi0]; simp [hzs]
  have hsz' : ∀ w, (sizeOf 28).run Tryz.prog w = .ok 12 w := fun w => by simp [sizeOf, typeInfo, hi0, hzs]
  have hxl := h.1
  obtain ⟨R0, hg, hnc, hcm, hcs, htk⟩ := own_whole h
  have hov : ∀ lb cb, (callFunc 98 #[.slice (some ⟨vb, 0, none⟩) 1 1, .slice (some ⟨g, (i + 1) * 12, none⟩) lb cb]).run Tryz.prog w = .ok (.value (.bool false)) w := fun lb cb => by
    rw [run_callFunc_extern Tryz.func98 (by kernel_rfl) (by kernel_rfl) (by kernel_rfl) (e := Extern.SlicesOverlaps.overlaps #[23, 23] #[4]) (by kernel_rfl),
      Lib.run_overlaps_apart w 23 4 28 Tryz.underlying23 12 hsz' ⟨vb, 0, none⟩ ⟨g, (i + 1) * 12, none⟩ 1 1 lb cb hvb _ _ _ _ (loc_shape hl) (loc_shape hg) (by rw [hcs]; omega) (hl.frozen 0) (hl.frozen _)]
    rfl
  have hin : i * 12 ≤ n * 12 := Nat.mul_le_mul_right _ (by omega)
  have hRt : R0.take (i * 12) = xs.take (i * 12) := by rw [← htk, List.take_take, Nat.min_eq_left (by omega)]
  have hdl : (xs.drop (i * 12)).length = (n - i) * 12 := by rw [List.length_drop]; omega
  have hd1 : ∀ u ∈ xs.drop (i * 12), u.oneCell' = true := fun u hu => hx1 u (List.mem_of_mem_drop hu)
  have hcells : ∀ j u, (xs.drop (i * 12))[j]? = some u → w.drew.cell? ((⟨g, i * 12, none⟩ : Addr).add j) = some u := fun j u hj => by
    have : w.cell? ((⟨g, i * 12, none⟩ : Addr).add j) = some u := by
      rw [add_plain, hg.cell]
      rw [List.getElem?_drop, ← htk, List.getElem?_take] at hj
      split at hj
      · simpa using hj
      · cases hj
    exact this
  have hgd : w.drew.heap[g]? = some (.cells R0.toArray 28 (0, 0)) := hg
  have hfd : Frm w w.drew [] := ⟨rfl, rfl, rfl, Nat.le_refl _, fun _ _ _ => rfl⟩
  have hld : Loc w.drew vb C.toArray 28 := hl
  have HM := hide (show n - i = Nat.min (n + 1 - i) (n - i) by simp only [Nat.min_def]; split <;> omega)
  have HM2 := hide (show 1 = Nat.min 1 (n + 1 - i) by simp only [Nat.min_def]; split <;> omega)
  have hw1 : IntKind.i64.wrap ((i : Int) + 1) = (i : Int) + 1 := by rw [IntKind.wrap_i64]; omega
  have htn : ((i : Int) + 1).toNat = i + 1 := by omega
  have hb1 : (0 : Int) ≤ (i : Int) + 1 := by omega
  have hin' : i ≤ n := by omega
  have hb3 : (i : Int) ≤ (n : Int) := by omega
  have hb2 : ¬ (cap = i + 1) := by omega
  have hb4 : ¬ (cap = i) := by omega
  have hb5 : (i : Int) ≤ (n : Int) + 1 := by omega
  have hc63 : cap ≤ 9223372036854775807 := by unfold maxLen at hcm; omega
  have hlen := length_splice R0 ((i + 1) * 12) (xs.drop (i * 12)) (by omega)
  clear h
  go_enter Tryz.func48, Tryz.ntmps48
  go_wp2_with (simp only [hov])
  go_region_law (refine step_copyw rfl _ _ 23 23 rfl 28 12 Tryz.underlying23 hsz g ((i + 1) * 12) (n - i) (cap - (i + 1)) ⟨g, i * 12, none⟩ (n + 1 - i) (cap - i) (by simp [Act.eval, Act.put]) (by simp [Act.eval, Act.put]) R0 28 hgd (xs.drop (i * 12)) (n - i) (unhide HM) hdl hcells (by omega) hd1 ?_; intro w3 hg3 hf3)
  have hg3' := unhide hg3
  have hl3 : Loc w3 vb C.toArray 28 := hld.frm hf3 (by simpa using hvb)
  go_wp2_with (refine wpList_copyw rfl _ _ 23 23 rfl 28 12 Tryz.underlying23 hsz g (i * 12) (n + 1 - i) (cap - i) ⟨vb, 0, none⟩ 1 1 ?_ ?_ (splice R0 ((i + 1) * 12) (xs.drop (i * 12))) 28 ?_ C 1 (unhide HM2) (by omega) ?_ (by omega) h1 ?_; rfl; rfl; exact hg3'; exact loc_cells hl3; intro w4 hg4 hf4)
  go_ret
  have hfin := ins_up R0 C (xs.drop (i * 12)) (i * 12) 12 ((n - i) * 12) hC hdl (by omega)
  rw [hRt] at hfin
  have hg4' : Loc w4 g (splice (splice R0 (i * 12 + 12) (xs.drop (i * 12))) (i * 12) C).toArray 28 := by
    have := unhide hg4
    rw [show (i + 1) * 12 = i * 12 + 12 by omega] at this
    exact this
  refine ⟨g, cap, rfl, own_make hg4' hroom hcm ?_ ?_, ?_, .inl rfl, hg4'.lt⟩
  · rw [show (i + 1) * 12 = i * 12 + 12 by omega] at hlen
    rw [length_splice _ _ _ (by omega), hlen]; exact hcs
  · rw [← hfin]; congr 1; omega
  · exact ((hfd.mono (fun q hq => by simp at hq)).trans hf3).trans hf4
end Go.Proofs.YtfhekoipnlmhoaaGreat

/- Rows of elements of a call's own: a cell of one, its blocks apart. No program. -/
namespace Go.Proofs.YtfhekoipnlmhoaaGreat
open Go.RowKit
set_option linter.unusedVariables false

/-- A cell of a row of elements. -/
theorem own_cellAt {w : World} {base g n cap size : Nat} {e : TypeId} {Cs : List (List Value)} (h : w.ownsRow base e size (.slice (some ⟨g, 0, none⟩) n cap) n Cs.flatten) (hC : ∀ i, i < Cs.length → (Cs.getD i []).length = size) (hl : Cs.length = n) (i j : Nat) (hi : i < n) (hj : j < size) :
    w.cell? ⟨g, i * size + j, none⟩ = (Cs.getD i [])[j]? := by
  have hlt : i * size + j < n * size := by
    have : (i + 1) * size ≤ n * size := Nat.mul_le_mul_right _ hi
    rw [Nat.succ_mul] at this; omega
  rw [h.cellAt (i * size + j) hlt]
  exact flat_at Cs size hC i j (by omega) hj
theorem nodup_part {a b : List Nat} (h : (a ++ b).Nodup) : ∀ g ∈ a, g ∉ b := fun g ha hb => by
  rw [List.nodup_append] at h
  exact h.2.2 g ha g hb rfl
theorem nodup_flat : ∀ {Fs : List (List Nat)} {i j : Nat}, Fs.flatten.Nodup → i ≠ j → ∀ g ∈ Fs.getD i [], g ∉ Fs.getD j []
  | [], i, j, _, _, g, hg, _ => by simp at hg
  | F :: Fs, i, j, h, hij, g, hg, hg' => by
    rw [List.flatten_cons] at h
    have h2 := List.nodup_append.1 h
    cases i with
    | zero =>
      cases j with
      | zero => exact hij rfl
      | succ j =>
        simp only [List.getD_cons_zero] at hg
        simp only [List.getD_cons_succ] at hg'
        exact h2.2.2 g hg g (mem_flat hg') rfl
    | succ i =>
      cases j with
      | zero =>
        simp only [List.getD_cons_zero] at hg'
        simp only [List.getD_cons_succ] at hg
        exact h2.2.2 g hg' g (mem_flat hg) rfl
      | succ j =>
        simp only [List.getD_cons_succ] at hg hg'
        exact nodup_flat (i := i) (j := j) h2.2.1 (by omega) g hg hg'
theorem nodup_at : ∀ {Fs : List (List Nat)} {i : Nat}, Fs.flatten.Nodup → (Fs.getD i []).Nodup
  | [], i, _ => by simp
  | F :: Fs, i, h => by
    rw [List.flatten_cons] at h
    have h2 := List.nodup_append.1 h
    cases i with
    | zero => simpa using h2.1
    | succ i => simpa using nodup_at (i := i) h2.2.1
theorem own_grown_frm {w w' : World} {v : Value} (h : w.grownBy w' v.ownBlock) : Frm w w' (FB v) := Frm.ofGrown h

theorem own_nil_shape {w : World} {base : Nat} {e : TypeId} {size n : Nat} {v : Value} {xs : List Value} (h : w.ownsRow base e size v n xs) : ∃ a cap, v = .slice a n cap := by
  rcases h.2 with ⟨rfl, rfl⟩ | ⟨g, cap, cur, rfl, _⟩
  · exact ⟨_, _, rfl⟩
  · exact ⟨_, _, rfl⟩

theorem flat_put (size : Nat) (D : List Value) (hD : D.length = size) (i : Nat) (hi : i < size) (v : Value) : ∀ (Ds : List (List Value)) (j : Nat), (∀ i, i < Ds.length → (Ds.getD i []).length = size) → j < Ds.length → (Ds.set j (D.set i v)).flatten = (Ds.set j D).flatten.set (j * size + i) v
  | [], j, _, hj => by simp at hj
  | C :: Ds, 0, _, _ => by
    simp only [List.set_cons_zero, List.flatten_cons, Nat.zero_mul, Nat.zero_add]
    rw [List.set_append_left _ _ (by omega)]
  | C :: Ds, j + 1, h, hj => by
    have h0 : C.length = size := by simpa using h 0 (by simp)
    have e : (j + 1) * size + i = C.length + (j * size + i) := by rw [h0, Nat.succ_mul]; omega
    rw [List.set_cons_succ, List.set_cons_succ, List.flatten_cons, List.flatten_cons, e, List.set_append_right _ _ (by omega), Nat.add_sub_cancel_left]
    rw [flat_put size D hD i hi v Ds j (fun k hk => by simpa using h (k + 1) (by simpa using hk)) (by simpa using hj)]

/-- A row of elements of the call's own whose j-th is D. -/
structure RowJ (w : World) (T : TypeId) (size g n cap : Nat) (Ds : List (List Value)) (j : Nat) (D : List Value) : Prop where
  lenD : D.length = size
  lenDs : Ds.length = n
  lens : ∀ i, i < Ds.length → (Ds.getD i []).length = size
  lt : j < n
  row : w.ownsRow 0 T size (.slice (some ⟨g, 0, none⟩) n cap) n (Ds.set j D).flatten
theorem getD_set_at {α : Type} (Ds : List (List α)) (j : Nat) (D : List α) (h : j < Ds.length) : (Ds.set j D).getD j [] = D := by
  simp [List.getD_eq_getElem?_getD, h]
theorem getD_set_ne {α : Type} (Ds : List (List α)) (i j : Nat) (D : List α) (h : i ≠ j) : (Ds.set j D).getD i [] = Ds.getD i [] := by
  simp [List.getD_eq_getElem?_getD, Ne.symm h]
theorem RowJ.lens' {w : World} {T : TypeId} {size g n cap : Nat} {Ds : List (List Value)} {j : Nat} {D : List Value} (h : RowJ w T size g n cap Ds j D) : ∀ i, i < (Ds.set j D).length → ((Ds.set j D).getD i []).length = size := fun i hi => by
  by_cases e : i = j
  · subst e; rw [getD_set_at _ _ _ (by rw [h.lenDs]; exact h.lt)]; exact h.lenD
  · rw [getD_set_ne _ _ _ _ e]; exact h.lens i (by simpa using hi)
theorem RowJ.cell {w : World} {T : TypeId} {size g n cap : Nat} {Ds : List (List Value)} {j : Nat} {D : List Value} (h : RowJ w T size g n cap Ds j D) (i : Nat) (hi : i < size) : w.cell? ⟨g, j * size + i, none⟩ = D[i]? := by
  have := own_cellAt h.row h.lens' (by simp [h.lenDs]) j i h.lt hi
  rw [getD_set_at _ _ _ (by rw [h.lenDs]; exact h.lt)] at this
  exact this
theorem RowJ.put {w : World} {T : TypeId} {size g n cap : Nat} {Ds : List (List Value)} {j : Nat} {D : List Value} (h : RowJ w T size g n cap Ds j D) (i : Nat) (hi : i < size) (v : Value) : RowJ (w.setCell ⟨g, j * size + i, none⟩ v) T size g n cap Ds j (D.set i v) :=
  ⟨by rw [List.length_set]; exact h.lenD, h.lenDs, h.lens, h.lt, by
    rw [flat_put size D h.lenD i hi v Ds j h.lens (by rw [h.lenDs]; exact h.lt)]
    exact (h.row.stored (j * size + i) v).1⟩
theorem RowJ.frozen {w : World} {T : TypeId} {size g n cap : Nat} {Ds : List (List Value)} {j : Nat} {D : List Value} (h : RowJ w T size g n cap Ds j D) (i : Nat) : w.frozen? ⟨g, i, none⟩ = false := h.row.frozenAt i
theorem RowJ.frm {w w' : World} {T : TypeId} {size g n cap : Nat} {Ds : List (List Value)} {j : Nat} {D : List Value} {S : List Nat} (h : RowJ w T size g n cap Ds j D) (f : Frm w w' S) (hg : g ∉ S) : RowJ w' T size g n cap Ds j D :=
  ⟨h.lenD, h.lenDs, h.lens, h.lt, ownsRow_frm h.row f (fun p hp => by
    have : p = g := by simpa [FB, Value.ownBlock] using hp
    rw [this]; exact hg)⟩
theorem RowJ.start {w : World} {T : TypeId} {size g n cap : Nat} {Ds : List (List Value)} (hl : Ds.length = n) (h : ∀ i, i < Ds.length → (Ds.getD i []).length = size) (j : Nat) (hj : j < n) (hr : w.ownsRow 0 T size (.slice (some ⟨g, 0, none⟩) n cap) n Ds.flatten) : RowJ w T size g n cap Ds j (Ds.getD j []) :=
  ⟨h j (by omega), hl, h, hj, by
    have e : Ds.set j (Ds.getD j []) = Ds := by
      apply List.ext_getElem?
      intro i
      rw [List.getElem?_set]
      split
      · rename_i e; subst e
        rw [if_pos (by omega), List.getD_eq_getElem?_getD, List.getElem?_eq_getElem (by omega)]; rfl
      · rfl
    rw [e]; exact hr⟩
end Go.Proofs.YtfhekoipnlmhoaaGreat

/- Rows of operations of a call's own: one more put in between, one put in another's place. -/
namespace Go.Proofs.YtfhekoipnlmhoaaGreat
open Go.RowKit
set_option linter.unusedVariables false
set_option maxRecDepth 100000

theorem flat_take (size : Nat) : ∀ (Cs : List (List Value)) (i : Nat), (∀ k, k < Cs.length → (Cs.getD k []).length = size) → i ≤ Cs.length → (Cs.take i).flatten = Cs.flatten.take (i * size) ∧ (Cs.drop i).flatten = Cs.flatten.drop (i * size)
  | Cs, 0, _, _ => by simp
  | [], i + 1, _, h => by simp at h
  | C :: Cs, i + 1, hl, h => by
    have h0 : C.length = size := by simpa using hl 0 (by simp)
    obtain ⟨a, b⟩ := flat_take size Cs i (fun k hk => by simpa using hl (k + 1) (by simpa using hk)) (by simpa using h)
    have e : (i + 1) * size = C.length + i * size := by rw [h0, Nat.succ_mul]; omega
    constructor
    · rw [List.take_succ_cons, List.flatten_cons, List.flatten_cons, e, List.take_length_add_append, a]
    · rw [List.drop_succ_cons, List.flatten_cons, e, List.drop_length_add_append, b]
theorem getD_ins {α : Type} (l : List (List α)) (x : List α) (i k : Nat) (hi : i ≤ l.length) : (l.take i ++ (x :: l.drop i)).getD k [] = if k < i then l.getD k [] else if k = i then x else l.getD (k - 1) [] := by
  have hl : (l.take i).length = i := by simp; omega
  rw [List.getD_eq_getElem?_getD, List.getElem?_append, hl]
  by_cases h1 : k < i
  · rw [if_pos h1, if_pos h1, List.getElem?_take, if_pos h1, List.getD_eq_getElem?_getD]
  · rw [if_neg h1, if_neg h1]
    by_cases h2 : k = i
    · subst h2; simp
    · rw [if_neg h2, show k - i = (k - i - 1) + 1 by omega, List.getElem?_cons_succ, List.getElem?_drop, List.getD_eq_getElem?_getD]
      congr 2
      omega
theorem get_ins {α : Type} (l : List α) (x : α) (i k : Nat) (hi : i ≤ l.length) (hk : k < (l.take i ++ (x :: l.drop i)).length) : (∃ h : k < l.length, k < i ∧ (l.take i ++ (x :: l.drop i))[k] = l[k]) ∨ (k = i ∧ (l.take i ++ (x :: l.drop i))[k] = x) ∨ (∃ h : k - 1 < l.length, i < k ∧ (l.take i ++ (x :: l.drop i))[k] = l[k - 1]) := by
  have hl : (l.take i).length = i := by simp; omega
  have hk' : k < l.length + 1 := by simp at hk; omega
  by_cases h1 : k < i
  · refine .inl ⟨by omega, h1, ?_⟩
    rw [List.getElem_append_left (by omega), List.getElem_take]
  · by_cases h2 : k = i
    · subst h2
      refine .inr (.inl ⟨rfl, ?_⟩)
      rw [List.getElem_append_right (by omega)]
      simp [hl]
    · refine .inr (.inr ⟨by omega, by omega, ?_⟩)
      have : (l.take i ++ (x :: l.drop i))[k]? = l[k - 1]? := by
        rw [List.getElem?_append_right (by omega), hl, show k - i = (k - i - 1) + 1 by omega, List.getElem?_cons_succ, List.getElem?_drop]
        congr 1
        omega
      rw [List.getElem?_eq_getElem hk, List.getElem?_eq_getElem (by omega)] at this
      exact Option.some.inj this
theorem flat_ins_mem {Fs : List (List Nat)} {G : List Nat} {i q : Nat} : q ∈ (Fs.take i ++ (G :: Fs.drop i)).flatten ↔ q ∈ Fs.flatten ∨ q ∈ G := by
  have e : Fs.flatten = (Fs.take i).flatten ++ (Fs.drop i).flatten := by rw [← List.flatten_append, List.take_append_drop]
  rw [List.flatten_append, List.flatten_cons, e]
  simp only [List.mem_append]
  constructor
  · rintro (h | h | h)
    · exact .inl (.inl h)
    · exact .inr h
    · exact .inl (.inr h)
  · rintro ((h | h) | h)
    · exact .inl h
    · exact .inr (.inr h)
    · exact .inr (.inl h)
theorem flat_ins_nodup {Fs : List (List Nat)} {G : List Nat} {i : Nat} (h : Fs.flatten.Nodup) (hG : G.Nodup) (hd : ∀ q ∈ Fs.flatten, q ∉ G) : (Fs.take i ++ (G :: Fs.drop i)).flatten.Nodup := by
  have e : Fs.flatten = (Fs.take i).flatten ++ (Fs.drop i).flatten := by rw [← List.flatten_append, List.take_append_drop]
  rw [e] at h hd
  have h' := List.nodup_append.1 h
  rw [List.flatten_append, List.flatten_cons]
  refine List.nodup_append.2 ⟨h'.1, List.nodup_append.2 ⟨hG, h'.2.1, fun a ha b hb e => hd b (List.mem_append_right _ hb) (e ▸ ha)⟩, fun a ha b hb e => ?_⟩
  rcases List.mem_append.1 hb with hb | hb
  · exact hd a (List.mem_append_left _ ha) (e ▸ hb)
  · exact h'.2.2 a ha b hb e
theorem OwOps.ltI {w : World} {v : Value} {l : List OpV} {F : List Nat} (h : OwOps w v l F) : ∀ q ∈ F, q < w.heap.size := by
  obtain ⟨Cs, Fs, e1, e2, e3, e4, rfl⟩ := h
  intro q hq
  rcases List.mem_append.1 hq with hq | hq
  · exact (e4.lt q (by simpa [FB] using hq)).2
  · obtain ⟨F, hF, hq⟩ := List.mem_flatten.1 hq
    obtain ⟨i, hi, rfl⟩ := List.getElem_of_mem hF
    obtain ⟨k, n, t, _, a, b, c, e⟩ := (e3 i (by omega)).2
    have e' : Fs.getD i [] = Fs[i] := by simp [List.getD_eq_getElem?_getD, hi]
    rw [e'] at e
    rw [e] at hq
    simp only [List.mem_append] at hq
    rcases hq with (hq | hq) | hq
    · exact (a.rng q hq).2
    · exact (b.rng q hq).2
    · exact (c.rng q hq).2
theorem owc_one {w : World} {C : List Value} {o : OpV} {F : List Nat} (h : OwOpC w C o F) : ∀ u ∈ C, u.oneCell' = true := by
  obtain ⟨k, n, t, e, h1, h2, h3, _⟩ := h
  exact opc_one ⟨k, n, t, e, h1.ints, h2.byt, h3.byt⟩
theorem owc_len {w : World} {C : List Value} {o : OpV} {F : List Nat} (h : OwOpC w C o F) : C.length = 12 := by
  obtain ⟨k, n, t, rfl, _⟩ := h; rfl

/-- slices.Insert of an operation that owns its rows into a row of the call's own. -/
theorem insO_any (w : World) (v : Value) (l : List OpV) (F : List Nat) (i vb : Nat) (C : List Value) (o : OpV) (G : List Nat) (h : OwOps w v l F) (hN : F.Nodup) (hi : i ≤ l.length) (hn : l.length ≤ 100000)
    (hl : Loc w vb C.toArray 28) (ho : OwOpC w C o G) (hG : G.Nodup) (hFG : ∀ q ∈ F, q ∉ G) (hvF : vb ∉ F) :
    Calls Tryz.prog 48 #[v, .int .i64 i, .slice (some ⟨vb, 0, none⟩) 1 1] w fun e w' => ∃ u F', e = .returned u ∧ OwOps w' u (l.take i ++ (o :: l.drop i)) F' ∧ F'.Nodup ∧ (∀ q ∈ F', q ∈ F ∨ q ∈ G ∨ (w.heap.size ≤ q ∧ q < w'.heap.size)) ∧ Frm w w' (FB v) := by
  have hlt := h.ltI
  have hR := h.rd
  obtain ⟨Cs, Fs, e1, e2, e3, e4, rfl⟩ := h
  have hC : ∀ k, k < Cs.length → (Cs.getD k []).length = 12 := fun k hk => (e3 k (by omega)).1
  have hx1 : ∀ u ∈ Cs.flatten, u.oneCell' = true := by
    intro u hu
    obtain ⟨D, hD, hu⟩ := List.mem_flatten.1 hu
    obtain ⟨k, hk, rfl⟩ := List.getElem_of_mem hD
    have e' : Cs.getD k [] = Cs[k] := by simp [List.getD_eq_getElem?_getD, hk]
    have := (e3 k (by omega)).2
    rw [e'] at this
    exact owc_one this u hu
  have hmain : Calls Tryz.prog 48 #[v, .int .i64 i, .slice (some ⟨vb, 0, none⟩) 1 1] w (InsAns w v l.length (Cs.flatten.take (i * 12) ++ (C ++ Cs.flatten.drop (i * 12)))) := by
    by_cases hin : i = l.length
    · have e : i * 12 = Cs.flatten.length := by rw [e4.1, hin]
      rw [e, List.take_length, List.drop_length, List.append_nil, hin]
      exact ins_end w v l.length vb _ C e4 (owc_len ho) hl (owc_one ho) hn
    · rcases e4.2 with ⟨rfl, h0⟩ | ⟨g, cap, cur, rfl, _, hg, hnc, _⟩
      · omega
      · by_cases hroom : cap < l.length + 1
        · exact ins_grow w g l.length cap i vb _ C e4 (owc_len ho) hl (owc_one ho) hx1 hn (by omega) hroom
        · exact ins_shift w g l.length cap i vb _ C e4 (owc_len ho) hl (owc_one ho) hx1 hn (by omega) (by omega) (fun e => hvF (List.mem_append_left _ (by simp [FB, Value.ownBlock, e])))
  refine hmain.mono ?_
  rintro e w' ⟨g, cap, rfl, k1, k2, k3, k4⟩
  have hFd : ∀ q ∈ Fs.flatten, q ∉ FB v := fun q hq hv => (List.nodup_append.1 hN).2.2 q hv q hq rfl
  have hGd : ∀ q ∈ G, q ∉ FB v := fun q hq hv => hFG q (List.mem_append_left _ hv) hq
  obtain ⟨t1, t2⟩ := flat_take 12 Cs i hC (by omega)
  refine ⟨_, FB (.slice (some ⟨g, 0, none⟩) (l.length + 1) cap) ++ (Fs.take i ++ (G :: Fs.drop i)).flatten, rfl, ⟨Cs.take i ++ (C :: Cs.drop i), Fs.take i ++ (G :: Fs.drop i), by simp; omega, by simp; omega, fun k hk => ?_, ?_, ?_⟩, ?_, ?_, k2⟩
  · rw [getD_ins Cs C i k (by omega), getD_ins Fs G i k (by omega)]
    rcases get_ins l o i k hi hk with ⟨h, hlt', e⟩ | ⟨rfl, e⟩ | ⟨h, hlt', e⟩
    · rw [e, if_pos hlt', if_pos hlt']
      exact ⟨(e3 k h).1, (e3 k h).2.frm k2 (fun q hq => hFd q (mem_flat hq))⟩
    · rw [e, if_neg (Nat.lt_irrefl _), if_pos rfl, if_neg (Nat.lt_irrefl _), if_pos rfl]
      exact ⟨owc_len ho, ho.frm k2 hGd⟩
    · rw [e, if_neg (by omega), if_neg (by omega), if_neg (by omega), if_neg (by omega)]
      exact ⟨(e3 _ h).1, (e3 _ h).2.frm k2 (fun q hq => hFd q (mem_flat hq))⟩
  · have e : (l.take i ++ (o :: l.drop i)).length = l.length + 1 := by simp; omega
    rw [e, List.flatten_append, List.flatten_cons, t1, t2]
    exact k1
  · have e : (l.take i ++ (o :: l.drop i)).length = l.length + 1 := by simp; omega
    rfl
  · refine List.nodup_append.2 ⟨FB_nodup _, flat_ins_nodup (List.nodup_append.1 hN).2.1 hG (fun q hq => hFG q (List.mem_append_right _ hq)), fun a ha b hb e => ?_⟩
    have ea : a = g := by simpa [FB, Value.ownBlock] using ha
    subst e
    subst ea
    rcases flat_ins_mem.1 hb with hb | hb
    · rcases k3 with k3 | k3
      · exact hFd a hb (by simp [FB, k3])
      · have := hlt a (List.mem_append_right _ hb); omega
    · rcases k3 with k3 | k3
      · exact hGd a hb (by simp [FB, k3])
      · obtain ⟨kk, nn, tt, _, a1, a2, a3, rfl⟩ := ho
        simp only [List.mem_append] at hb
        have : a < w.heap.size := by
          rcases hb with (hb | hb) | hb
          · exact (a1.rng a hb).2
          · exact (a2.rng a hb).2
          · exact (a3.rng a hb).2
        omega
  · intro q hq
    rcases List.mem_append.1 hq with hq | hq
    · have eq : q = g := by simpa [FB, Value.ownBlock] using hq
      subst eq
      rcases k3 with k3 | k3
      · exact .inl (List.mem_append_left _ (by simp [FB, k3]))
      · exact .inr (.inr ⟨k3, k4⟩)
    · rcases flat_ins_mem.1 hq with hq | hq
      · exact .inl (List.mem_append_right _ hq)
      · exact .inr (.inl hq)
end Go.Proofs.YtfhekoipnlmhoaaGreat

/- An operation that owns its rows in another's place, in a row of the call's own. -/
namespace Go.Proofs.YtfhekoipnlmhoaaGreat
open Go.RowKit
set_option linter.unusedVariables false
set_option maxRecDepth 100000

theorem flat_set_mem {Fs : List (List Nat)} {G : List Nat} {i q : Nat} (h : q ∈ (Fs.set i G).flatten) : q ∈ Fs.flatten ∨ q ∈ G := by
  obtain ⟨F, hF, hq⟩ := List.mem_flatten.1 h
  rcases List.mem_or_eq_of_mem_set hF with hF | rfl
  · exact .inl (List.mem_flatten.2 ⟨F, hF, hq⟩)
  · exact .inr hq
theorem flat_set_nodup : ∀ {Fs : List (List Nat)} {G : List Nat} {i : Nat}, Fs.flatten.Nodup → G.Nodup → (∀ q ∈ Fs.flatten, q ∉ G) → (Fs.set i G).flatten.Nodup
  | [], _, _, _, _, _ => by simp
  | F :: Fs, G, 0, h, hG, hd => by
    rw [List.flatten_cons] at h hd
    have h' := List.nodup_append.1 h
    rw [List.set_cons_zero, List.flatten_cons]
    exact List.nodup_append.2 ⟨hG, h'.2.1, fun a ha b hb e => hd b (List.mem_append_right _ hb) (e ▸ ha)⟩
  | F :: Fs, G, i + 1, h, hG, hd => by
    rw [List.flatten_cons] at h hd
    have h' := List.nodup_append.1 h
    rw [List.set_cons_succ, List.flatten_cons]
    refine List.nodup_append.2 ⟨h'.1, flat_set_nodup h'.2.1 hG (fun q hq => hd q (List.mem_append_right _ hq)), fun a ha b hb e => ?_⟩
    rcases flat_set_mem hb with hb | hb
    · exact h'.2.2 a ha b hb e
    · exact hd a (List.mem_append_left _ ha) (e ▸ hb)

set_option maxHeartbeats 3200000 in
theorem OwOps.setAt {w : World} {g cap : Nat} {l : List OpV} {F : List Nat} (h : OwOps w (.slice (some ⟨g, 0, none⟩) l.length cap) l F) (hN : F.Nodup) (i : Nat) (hi : i < l.length) (v0 v1 v2 v3 v4 v5 v6 v7 v8 v9 v10 v11 : Value) (o : OpV) (G : List Nat) (ho : OwOpC w [v0, v1, v2, v3, v4, v5, v6, v7, v8, v9, v10, v11] o G) (hG : G.Nodup) (hFG : ∀ q ∈ F, q ∉ G) :
    ∃ F', OwOps ((((((((((((w.setCell ⟨g, i * 12, none⟩ v0).setCell ⟨g, i * 12 + 1, none⟩ v1).setCell ⟨g, i * 12 + 2, none⟩ v2).setCell ⟨g, i * 12 + 3, none⟩ v3).setCell ⟨g, i * 12 + 4, none⟩ v4).setCell ⟨g, i * 12 + 5, none⟩ v5).setCell ⟨g, i * 12 + 6, none⟩ v6).setCell ⟨g, i * 12 + 7, none⟩ v7).setCell ⟨g, i * 12 + 8, none⟩ v8).setCell ⟨g, i * 12 + 9, none⟩ v9).setCell ⟨g, i * 12 + 10, none⟩ v10).setCell ⟨g, i * 12 + 11, none⟩ v11) (.slice (some ⟨g, 0, none⟩) l.length cap) (l.set i o) F' ∧ F'.Nodup ∧ (∀ q ∈ F', q ∈ F ∨ q ∈ G) ∧ Frm w ((((((((((((w.setCell ⟨g, i * 12, none⟩ v0).setCell ⟨g, i * 12 + 1, none⟩ v1).setCell ⟨g, i * 12 + 2, none⟩ v2).setCell ⟨g, i * 12 + 3, none⟩ v3).setCell ⟨g, i * 12 + 4, none⟩ v4).setCell ⟨g, i * 12 + 5, none⟩ v5).setCell ⟨g, i * 12 + 6, none⟩ v6).setCell ⟨g, i * 12 + 7, none⟩ v7).setCell ⟨g, i * 12 + 8, none⟩ v8).setCell ⟨g, i * 12 + 9, none⟩ v9).setCell ⟨g, i * 12 + 10, none⟩ v10).setCell ⟨g, i * 12 + 11, none⟩ v11) [g] := by
  have hlt := h.ltI
  obtain ⟨Cs, Fs, e1, e2, e3, e4, rfl⟩ := h
  have hC : ∀ k, k < Cs.length → (Cs.getD k []).length = 12 := fun k hk => (e3 k (by omega)).1
  have R0 := RowJ.start e1 hC i hi e4
  obtain ⟨kv, nv, tv, eD, _⟩ := (e3 i hi).2
  rw [eD] at R0
  have R1 := ((((((((((((R0.put 0 (by omega) v0).put 1 (by omega) v1).put 2 (by omega) v2).put 3 (by omega) v3).put 4 (by omega) v4).put 5 (by omega) v5).put 6 (by omega) v6).put 7 (by omega) v7).put 8 (by omega) v8).put 9 (by omega) v9).put 10 (by omega) v10).put 11 (by omega) v11)
  simp only [Nat.add_zero, List.set_cons_zero, List.set_cons_succ] at R1
  have f : Frm w ((((((((((((w.setCell ⟨g, i * 12, none⟩ v0).setCell ⟨g, i * 12 + 1, none⟩ v1).setCell ⟨g, i * 12 + 2, none⟩ v2).setCell ⟨g, i * 12 + 3, none⟩ v3).setCell ⟨g, i * 12 + 4, none⟩ v4).setCell ⟨g, i * 12 + 5, none⟩ v5).setCell ⟨g, i * 12 + 6, none⟩ v6).setCell ⟨g, i * 12 + 7, none⟩ v7).setCell ⟨g, i * 12 + 8, none⟩ v8).setCell ⟨g, i * 12 + 9, none⟩ v9).setCell ⟨g, i * 12 + 10, none⟩ v10).setCell ⟨g, i * 12 + 11, none⟩ v11) [g] := ((((((((((((set_frm w g (i * 12) v0).trans (set_frm _ g (i * 12 + 1) v1)).trans (set_frm _ g (i * 12 + 2) v2)).trans (set_frm _ g (i * 12 + 3) v3)).trans (set_frm _ g (i * 12 + 4) v4)).trans (set_frm _ g (i * 12 + 5) v5)).trans (set_frm _ g (i * 12 + 6) v6)).trans (set_frm _ g (i * 12 + 7) v7)).trans (set_frm _ g (i * 12 + 8) v8)).trans (set_frm _ g (i * 12 + 9) v9)).trans (set_frm _ g (i * 12 + 10) v10)).trans (set_frm _ g (i * 12 + 11) v11))
  have hgF : g ∉ Fs.flatten := fun hq => (List.nodup_append.1 hN).2.2 g (by simp [FB, Value.ownBlock]) g hq rfl
  have hgG : g ∉ G := hFG g (List.mem_append_left _ (by simp [FB, Value.ownBlock]))
  refine ⟨FB (.slice (some ⟨g, 0, none⟩) l.length cap) ++ (Fs.set i G).flatten, ⟨Cs.set i [v0, v1, v2, v3, v4, v5, v6, v7, v8, v9, v10, v11], Fs.set i G, by simp [e1], by simp [e2], fun k hk => ?_, ?_, rfl⟩, ?_, ?_, f⟩
  · have hk' : k < l.length := by simpa using hk
    by_cases e : k = i
    · subst e
      rw [getD_set_at _ _ _ (by omega), getD_set_at _ _ _ (by omega), List.getElem_set_self]
      exact ⟨rfl, ho.frm f (fun q hq hq' => by simp at hq'; subst hq'; exact hgG hq)⟩
    · rw [getD_set_ne _ _ _ _ e, getD_set_ne _ _ _ _ e, List.getElem_set_ne (Ne.symm e)]
      exact ⟨(e3 k hk').1, (e3 k hk').2.frm f (fun q hq hq' => by simp at hq'; subst hq'; exact hgF (mem_flat hq))⟩
  · rw [List.length_set]
    exact R1.row
  · refine List.nodup_append.2 ⟨FB_nodup _, flat_set_nodup (List.nodup_append.1 hN).2.1 hG (fun q hq => hFG q (List.mem_append_right _ hq)), fun a ha b hb e => ?_⟩
    have ea : a = g := by simpa [FB, Value.ownBlock] using ha
    subst e
    subst ea
    rcases flat_set_mem hb with hb | hb
    · exact hgF hb
    · exact hgG hb
  · intro q hq
    rcases List.mem_append.1 hq with hq | hq
    · exact .inl (List.mem_append_left _ hq)
    · rcases flat_set_mem hq with hq | hq
      · exact .inl (List.mem_append_right _ hq)
      · exact .inr hq
end Go.Proofs.YtfhekoipnlmhoaaGreat

/- impl.Put. -/
namespace Go.Proofs.YtfhekoipnlmhoaaGreat
open Go.RowKit
set_option linter.unusedVariables false
set_option maxRecDepth 100000

theorem there_lt {l : List OpV} {n r : Int} (h : there l n r = true) : posO l n r < l.length := by
  unfold there at h
  split at h
  · assumption
  · cases h
theorem obV_of {o : OpV} (h : opB o = true) : obV o = opBytes o := by unfold obV; rw [if_pos h]
theorem OwOp.cells {w : World} {base : Nat} {o : OpV} {k n t : Value} (h : OwOp w base o k n t) : OwOpC w [.int .i64 o.kind, .int .i64 o.atN, .int .i64 o.atR, .int .i64 o.nodeN, .int .i64 o.nodeR, .int .i64 o.parN, .int .i64 o.parR, k, .int .i64 o.elem, n, t, .bool o.gone] o (FB k ++ FB n ++ FB t) :=
  ⟨k, n, t, rfl, h.1.mono (Nat.zero_le _), h.2.1.mono (Nat.zero_le _), h.2.2.1.mono (Nat.zero_le _), rfl⟩
theorem OwOp.rng {w : World} {base : Nat} {o : OpV} {k n t : Value} (h : OwOp w base o k n t) : Rng (FB k ++ FB n ++ FB t) base w.heap.size := (h.1.rng.app h.2.1.rng).app h.2.2.1.rng

set_option maxHeartbeats 40000000 in
theorem iput_any (w : World) (v vo : Value) (l : List OpV) (o : OpV) (h : RdOps w v l) (ho : RdOp w vo o) (hs : szO o ≤ 2097152) (hls : ∀ x ∈ l, szO x ≤ 2097152) :
    Calls Tryz.prog 10 #[v, vo] w fun e w' => ∃ u, e = .returned (.tuple #[u, .bool (putAns l o)]) ∧ ∃ F, OwOps w' u (putV l o) F ∧ F.Nodup ∧ Rng F w.heap.size w'.heap.size ∧ Below w.heap.size w w' := by
  have HO := hide (fun (W : World) (hW : Below w.heap.size w W) => bytesI_any W vo o (ho.keep hW) (by unfold szO at hs; omega))
  have HC := hide (fun (W : World) (hW : Below w.heap.size w W) => copyOp_any W vo o (ho.keep hW) (by omega))
  have HS := hide (fun (W : World) (hW : Below w.heap.size w W) => opsI_any W v l (h.keep hW))
  have HP := hide (fun (hl : l.length ≤ 150) (W : World) (hW : Below w.heap.size w W) => copyOps_any W v l (h.keep hW) (by omega) (fun x hx => by have := hls x hx; omega))
  have HLS := hide hls
  obtain ⟨k, n, t, rfl, hk, hn, ht⟩ := ho
  obtain ⟨ak, ck, rfl, _, _⟩ := hk.shape
  obtain ⟨an, cn, rfl, _, _⟩ := hn.shape
  obtain ⟨tt, ct, rfl, _, _⟩ := ht.shape
  obtain ⟨av, cv, rfl, _, _⟩ := Elems.shape h
  clear hk hn ht h hs hls
  have hA0 := (Below.refl w.heap.size w).alloc (Nat.le_refl _) (.cells #[.int .i64 o.kind, .int .i64 o.atN, .int .i64 o.atR, .int .i64 o.nodeN, .int .i64 o.nodeR, .int .i64 o.parN, .int .i64 o.parR, .slice ak o.key.length ck, .int .i64 o.elem, .slice an o.name.length cn, .slice tt o.text.length ct, .bool o.gone] 28)
  have l0 := Loc.made w #[.int .i64 o.kind, .int .i64 o.atN, .int .i64 o.atR, .int .i64 o.nodeN, .int .i64 o.nodeR, .int .i64 o.parN, .int .i64 o.parR, .slice ak o.key.length ck, .int .i64 o.elem, .slice an o.name.length cn, .slice tt o.text.length ct, .bool o.gone] 28
  unfold opVal at HO HC
  unfold putV putAns
  refine calls_via ?_
  intro Q HQ
  unfold opVal
  go_enter Tryz.func10, Tryz.ntmps10
  go_wp2_with fail
  generalize (w.alloc (.cells #[.int .i64 o.kind, .int .i64 o.atN, .int .i64 o.atR, .int .i64 o.nodeN, .int .i64 o.nodeR, .int .i64 o.parN, .int .i64 o.parR, .slice ak o.key.length ck, .int .i64 o.elem, .slice an o.name.length cn, .slice tt o.text.length ct, .bool o.gone] 28)) = wa at *
  generalize hSS : w.heap.size = S at *
  have BS := hide (show ∀ (b c : World), Below S w b → Below b.heap.size b c → Below S w c from fun b c h k => h.trans (k.mono (by have := h.size; omega)))
  refine (unhide HO _ hA0).mono ?_
  rintro e w1 ⟨pg, cg, rfl, og, hB⟩
  have hB1 := unhide BS _ _ hA0 hB
  have l1 := l0.all hB
  clear hA0 hB l0 HO
  cases hb : opB o with
  | false =>
    rw [hb] at HQ
    rw [Bool.and_false] at HQ
    have KK := hide (unhide HQ (.returned (.tuple #[.slice none 0 0, .bool false])) w1 ⟨.slice none 0 0, rfl, [], owOps_none _, List.nodup_nil, Rng.nil _ _, hB1⟩)
    clear HQ
    go_wp2_with fail
    exact unhide KK
  | true =>
    rw [obV_of hb] at og ⊢
    go_wp2_with fail
    refine (unhide HS _ hB1).mono ?_
    rintro e w2 ⟨rfl, hB⟩
    have hB2 := unhide BS _ _ hB1 hB
    have l2 := l1.all hB
    have og2 := og.keep hB
    clear hB1 hB l1 og HS
    cases hc : opsB l with
    | false =>
      rw [hb, hc] at HQ
      rw [Bool.false_and] at HQ
      have KK := hide (unhide HQ (.returned (.tuple #[.slice none 0 0, .bool false])) w2 ⟨.slice none 0 0, rfl, [], owOps_none _, List.nodup_nil, Rng.nil _ _, hB2⟩)
      clear HQ
      go_wp2_with fail
      exact unhide KK
    | true =>
      rw [hb, hc] at HQ
      have hl := opsB_len hc
      have HQ2 := hide (fun u kk w9 (hkk : kk = putOk l o) (z : ∃ F, OwOps w9 u (putL l o) F ∧ F.Nodup ∧ Rng F S w9.heap.size ∧ Below S w w9) => unhide HQ (.returned (.tuple #[u, .bool kk])) w9 ⟨u, by rw [hkk]; rfl, z⟩)
      clear HQ
      go_wp2_with fail
      refine (unhide HP hl _ hB2).mono ?_
      rintro e w3 ⟨u, rfl, F, hF, hN, hRng, hB⟩
      have hB3 := unhide BS _ _ hB2 hB
      have l3 := l2.all hB
      have og3 := og2.keep hB
      have hRng' : Rng F S w3.heap.size := hRng.mono (by have := hB2.size; have := hSS; omega) (Nat.le_refl _)
      have hSF : S ∉ F := fun hq => by have := (hRng S hq).1; have := l2.lt; omega
      clear hB2 hB l2 og2 HP hRng
      obtain ⟨au, cu, rfl, _, _⟩ := Elems.shape hF.rd
      have t1 : w3.cell? ⟨S, 1, none⟩ = some (.int .i64 o.atN) := l3.cell 1
      have t2 : w3.cell? ⟨S, 2, none⟩ = some (.int .i64 o.atR) := l3.cell 2
      go_wp2_with fail
      refine (search_any w3 _ l o.atN o.atR hF.rd hc).mono ?_
      rintro e w4 ⟨rfl, hB⟩
      have hB4 := unhide BS _ _ hB3 hB
      have l4 := l3.all hB
      have og4 := og3.keep hB
      have hF4 : OwOps w4 (.slice au l.length cu) l F := OwOps.frm hF (Frm.ofBelow hB []) (fun _ _ => by simp)
      have hRng4 : Rng F S w4.heap.size := hRng'.mono (Nat.le_refl _) hB.size
      clear hB3 hB l3 og3 hF hRng' t1 t2
      cases hth : there l o.atN o.atR with
      | true =>
        have hpos := there_lt hth
        have hput : putL l o = if klB (opBytes o) (opBytes (l.getD (posO l o.atN o.atR) o)) then l.set (posO l o.atN o.atR) o else l := by unfold putL; rw [if_pos hth]
        have hok : putOk l o = true := by unfold putOk; rw [hth]; rfl
        generalize posO l o.atN o.atR = p at *
        obtain ⟨b, off, cap, eu, _, hbl, hel⟩ : ∃ b off cap, (Value.slice au l.length cu) = .slice (some ⟨b, off, none⟩) l.length cap ∧ l ≠ [] ∧ b < w4.heap.size ∧ ∀ i (hi : i < l.length), ∃ C : List Value, C.length = 12 ∧ (∀ j, j < 12 → w4.cell? ⟨b, off + i * 12 + j, none⟩ = C[j]?) ∧ RdOpC w4 C l[i] := by
          rcases hF4.rd.cases with ⟨e, _⟩ | h
          · subst e; simp at hpos
          · exact h
        have hoff : off = 0 := by
          obtain ⟨Cs, Fs, _, _, _, hrow, _⟩ := hF4
          rcases hrow.2 with ⟨e, _⟩ | ⟨g, cap', cur, e, _⟩
          · rw [eu] at e; cases e
          · rw [eu] at e; cases e; rfl
        subst hoff
        cases eu
        obtain ⟨b1, d1, b2, d2, b3, d3, e0, e1, e2, e3, e4, e5, e6, e7, e8, e9, e10, e11, hro⟩ := opc_at (w := w4) (W := w4) (Below.refl _ _) hbl (hel p hpos)
        have hx : l.getD p o = l[p] := by simp [List.getD_eq_getElem?_getD, hpos]
        rw [hx] at hput
        have hbx := opsB_each hc hpos
        have hsx := unhide HLS l[p] (List.getElem_mem hpos)
        simp only [Nat.zero_add] at e0 e1 e2 e3 e4 e5 e6 e7 e8 e9 e10 e11
        have HB5 := hide (bytesI_any w4 _ l[p] hro (by unfold szO at hsx; omega))
        unfold opVal at HB5
        rw [obV_of hbx, hbx] at HB5
        have hpl : (p : Int) < (l.length : Int) := by omega
        have hp0 : (0 : Int) ≤ (p : Int) := by omega
        clear hro hel
        go_wp2_with fail
        refine (unhide HB5).mono ?_
        rintro e w5 ⟨pa, pc, rfl, ox, hB⟩
        have hB5 := unhide BS _ _ hB4 hB
        have l5 := l4.all hB
        have og5 := og4.keep hB
        have hF5 : OwOps w5 (.slice (some ⟨b, 0, none⟩) l.length cu) l F := OwOps.frm hF4 (Frm.ofBelow hB []) (fun _ _ => by simp)
        have hRng5 : Rng F S w5.heap.size := hRng4.mono (Nat.le_refl _) hB.size
        clear hB4 hB l4 og4 hF4 HB5 hRng4 e0 e1 e2 e3 e4 e5 e6 e7 e8 e9 e10 e11
        go_wp2_with fail
        refine (rowLessB_any w5 _ _ _ _ og5.byt ox.byt).mono ?_
        rintro e w6 ⟨rfl, hB⟩
        have hB6 := unhide BS _ _ hB5 hB
        have l6 := l5.all hB
        have hF6 : OwOps w6 (.slice (some ⟨b, 0, none⟩) l.length cu) l F := OwOps.frm hF5 (Frm.ofBelow hB []) (fun _ _ => by simp)
        have hRng6 : Rng F S w6.heap.size := hRng5.mono (Nat.le_refl _) hB.size
        clear hB5 hB l5 og5 ox hF5 hRng5
        cases hkl : klB (opBytes o) (opBytes l[p]) with
        | false =>
          rw [hkl] at hput
          have KK := hide (unhide HQ2 (.slice (some ⟨b, 0, none⟩) l.length cu) true w6 hok.symm ⟨F, by rw [hput]; exact hF6, hN, hRng6, hB6⟩)
          clear HQ2 hput
          go_wp2_with fail
          exact unhide KK
        | true =>
          rw [hkl, if_pos rfl] at hput
          obtain ⟨x0, x1, x2, x3, x4, x5, x6, x7, x8, x9, x10, x11⟩ := l6.twelve
          go_wp2_with fail
          clear x0 x1 x2 x3 x4 x5 x6 x7 x8 x9 x10 x11
          refine (unhide HC _ hB6).mono ?_
          rintro e w7 ⟨a1, c1, a2, c2, a3, c3, rfl, oc, hB⟩
          have hB7 := unhide BS _ _ hB6 hB
          have hF7 : OwOps w7 (.slice (some ⟨b, 0, none⟩) l.length cu) l F := OwOps.frm hF6 (Frm.ofBelow hB []) (fun _ _ => by simp)
          have hcr := oc.rng
          have hS6 : S ≤ w6.heap.size := by rw [← hSS]; exact hB6.size
          have hs67 := hB.size
          have hcF : ∀ q ∈ F, q ∉ FB (.slice a1 o.key.length c1) ++ FB (.slice a2 o.name.length c2) ++ FB (.slice a3 o.text.length c3) := fun q hq hq' => by have := hcr q hq'; have := hRng6 q hq; omega
          obtain ⟨F', hO, hN', hsub, hfs⟩ := OwOps.setAt hF7 hN p hpos (.int .i64 o.kind) (.int .i64 o.atN) (.int .i64 o.atR) (.int .i64 o.nodeN) (.int .i64 o.nodeR) (.int .i64 o.parN) (.int .i64 o.parR) (.slice a1 o.key.length c1) (.int .i64 o.elem) (.slice a2 o.name.length c2) (.slice a3 o.text.length c3) (.bool o.gone) o _ oc.cells oc.2.2.2 hcF
          have hbF : S ≤ b := by
            obtain ⟨Cs, Fs, _, _, _, _, rfl⟩ := hF7
            exact (hRng6 b (List.mem_append_left _ (by simp [FB, Value.ownBlock]))).1
          obtain ⟨xs, hx⟩ : ∃ xs : List Value, w7.ownsRow 0 28 12 (.slice (some ⟨b, 0, none⟩) l.length cu) l.length xs := by
            obtain ⟨Cs, Fs, _, _, _, hrow, _⟩ := hF7
            exact ⟨_, hrow⟩
          have hxl := hx.1
          have hcell : ∀ j, j < 12 → ∃ y, w7.cell? ⟨b, p * 12 + j, none⟩ = some y := fun j hj => ⟨xs[p * 12 + j]'(by omega), by rw [hx.cellAt (p * 12 + j) (by omega), List.getElem?_eq_getElem (by omega)]⟩
          obtain ⟨y0, q0⟩ := hcell 0 (by omega)
          obtain ⟨y1, q1⟩ := hcell 1 (by omega)
          obtain ⟨y2, q2⟩ := hcell 2 (by omega)
          obtain ⟨y3, q3⟩ := hcell 3 (by omega)
          obtain ⟨y4, q4⟩ := hcell 4 (by omega)
          obtain ⟨y5, q5⟩ := hcell 5 (by omega)
          obtain ⟨y6, q6⟩ := hcell 6 (by omega)
          obtain ⟨y7, q7⟩ := hcell 7 (by omega)
          obtain ⟨y8, q8⟩ := hcell 8 (by omega)
          obtain ⟨y9, q9⟩ := hcell 9 (by omega)
          obtain ⟨y10, q10⟩ := hcell 10 (by omega)
          obtain ⟨y11, q11⟩ := hcell 11 (by omega)
          rw [Nat.add_zero] at q0
          have f0 := hx.frozenAt (p * 12)
          have f1 := hx.frozenAt (p * 12 + 1)
          have f2 := hx.frozenAt (p * 12 + 2)
          have f3 := hx.frozenAt (p * 12 + 3)
          have f4 := hx.frozenAt (p * 12 + 4)
          have f5 := hx.frozenAt (p * 12 + 5)
          have f6 := hx.frozenAt (p * 12 + 6)
          have f7 := hx.frozenAt (p * 12 + 7)
          have f8 := hx.frozenAt (p * 12 + 8)
          have f9 := hx.frozenAt (p * 12 + 9)
          have f10 := hx.frozenAt (p * 12 + 10)
          have f11 := hx.frozenAt (p * 12 + 11)
          have hB8 := hB7.trans (hfs.below (by omega) (fun q hq => by simp at hq; omega))
          have KK := hide (unhide HQ2 (.slice (some ⟨b, 0, none⟩) l.length cu) true _ hok.symm ⟨F', by rw [hput]; exact hO, hN', fun q hq => by
            have s8 := hfs.size
            rcases hsub q hq with h | h
            · have := hRng6 q h; omega
            · have := hcr q h; omega, hB8⟩)
          clear HQ2 hput hO hF6 hF7 hx hcell hfs hB8 hB7 hB6 oc HC
          go_wp2_with fail
          exact unhide KK
      | false =>
        have hput : putL l o = if 150 ≤ l.length then l else l.take (posO l o.atN o.atR) ++ [o] ++ l.drop (posO l o.atN o.atR) := by unfold putL; rw [hth]; rfl
        have hok : putOk l o = decide (l.length < 150) := by unfold putOk; rw [hth]; rfl
        have hple := posO_le l o.atN o.atR
        generalize posO l o.atN o.atR = p at *
        by_cases hfull : l.length = 150
        · rw [if_pos (by omega)] at hput
          have hok' : putOk l o = false := by rw [hok]; simp; omega
          have KK := hide (unhide HQ2 (.slice au l.length cu) false w4 hok'.symm ⟨F, by rw [hput]; exact hF4, hN, hRng4, hB4⟩)
          have hfi : (l.length : Int) = 150 := by omega
          rw [hfull] at KK
          clear HQ2 hput
          go_wp2_with fail
          exact unhide KK
        · rw [if_neg (by omega)] at hput
          have hok' : putOk l o = true := by rw [hok]; simp; omega
          have hfi : ¬ ((l.length : Int) = 150) := by omega
          obtain ⟨x0, x1, x2, x3, x4, x5, x6, x7, x8, x9, x10, x11⟩ := l4.twelve
          go_wp2_with fail
          clear x0 x1 x2 x3 x4 x5 x6 x7 x8 x9 x10 x11
          refine (unhide HC _ hB4).mono ?_
          rintro e w5 ⟨a1, c1, a2, c2, a3, c3, rfl, oc, hB⟩
          have hB5 := unhide BS _ _ hB4 hB
          have hF5 : OwOps w5 (.slice au l.length cu) l F := OwOps.frm hF4 (Frm.ofBelow hB []) (fun _ _ => by simp)
          have hcr := oc.rng
          have hcF : ∀ q ∈ F, q ∉ FB (.slice a1 o.key.length c1) ++ FB (.slice a2 o.name.length c2) ++ FB (.slice a3 o.text.length c3) := fun q hq hq' => by have := hcr q hq'; have := hRng4 q hq; omega
          have hA6 := hB5.alloc (by rw [← hSS]; exact hB5.size) (.cells #[.int .i64 o.kind, .int .i64 o.atN, .int .i64 o.atR, .int .i64 o.nodeN, .int .i64 o.nodeR, .int .i64 o.parN, .int .i64 o.parR, .slice a1 o.key.length c1, .int .i64 o.elem, .slice a2 o.name.length c2, .slice a3 o.text.length c3, .bool o.gone] 28)
          have lv := Loc.made w5 #[.int .i64 o.kind, .int .i64 o.atN, .int .i64 o.atR, .int .i64 o.nodeN, .int .i64 o.nodeR, .int .i64 o.parN, .int .i64 o.parR, .slice a1 o.key.length c1, .int .i64 o.elem, .slice a2 o.name.length c2, .slice a3 o.text.length c3, .bool o.gone] 28
          have hsz5 := hB.size
          have hS4 : S ≤ w4.heap.size := by rw [← hSS]; exact hB4.size
          have oc6 := oc.keep ((Below.refl w5.heap.size w5).alloc (Nat.le_refl _) (.cells #[.int .i64 o.kind, .int .i64 o.atN, .int .i64 o.atR, .int .i64 o.nodeN, .int .i64 o.nodeR, .int .i64 o.parN, .int .i64 o.parR, .slice a1 o.key.length c1, .int .i64 o.elem, .slice a2 o.name.length c2, .slice a3 o.text.length c3, .bool o.gone] 28))
          have hF6 : OwOps (w5.alloc (.cells #[.int .i64 o.kind, .int .i64 o.atN, .int .i64 o.atR, .int .i64 o.nodeN, .int .i64 o.nodeR, .int .i64 o.parN, .int .i64 o.parR, .slice a1 o.key.length c1, .int .i64 o.elem, .slice a2 o.name.length c2, .slice a3 o.text.length c3, .bool o.gone] 28)) (.slice au l.length cu) l F := OwOps.frm hF5 (Frm.ofBelow ((Below.refl w5.heap.size w5).alloc (Nat.le_refl _) _) []) (fun _ _ => by simp)
          have hvF : w5.heap.size ∉ F := fun hq => by have := (hRng4 _ hq).2; omega
          clear hB4 hF4 hF5 oc HC
          go_wp2_with fail
          generalize (w5.alloc (.cells #[.int .i64 o.kind, .int .i64 o.atN, .int .i64 o.atR, .int .i64 o.nodeN, .int .i64 o.nodeR, .int .i64 o.parN, .int .i64 o.parR, .slice a1 o.key.length c1, .int .i64 o.elem, .slice a2 o.name.length c2, .slice a3 o.text.length c3, .bool o.gone] 28)) = w6 at *
          refine (insO_any w6 _ l F p w5.heap.size [.int .i64 o.kind, .int .i64 o.atN, .int .i64 o.atR, .int .i64 o.nodeN, .int .i64 o.nodeR, .int .i64 o.parN, .int .i64 o.parR, .slice a1 o.key.length c1, .int .i64 o.elem, .slice a2 o.name.length c2, .slice a3 o.text.length c3, .bool o.gone] o _ hF6 hN hple (by omega) lv oc6.cells oc6.2.2.2 hcF hvF).mono ?_
          rintro e w7 ⟨u, F', rfl, hO, hN', hsub, hf⟩
          have hS5 : S ≤ w5.heap.size := by rw [← hSS]; exact hB5.size
          have hFv : ∀ q ∈ FB (.slice au l.length cu), S ≤ q := fun q hq => (hRng4 q (by obtain ⟨Cs, Fs, _, _, _, _, rfl⟩ := hF6; exact List.mem_append_left _ hq)).1
          have hB7 : Below S w w7 := hA6.trans (hf.below (by have := hA6.size; omega) hFv)
          have KK := hide (unhide HQ2 u true w7 hok'.symm ⟨F', by rw [hput, List.append_assoc]; exact hO, hN', fun q hq => by
            have s7 := hf.size
            have lvlt := lv.lt
            rcases hsub q hq with h | h | h
            · have := hRng4 q h; have := hA6.size; omega
            · have := hcr q h; omega
            · omega, hB7⟩)
          clear HQ2 hput hO hF6
          go_wp2_with fail
          exact unhide KK
end Go.Proofs.YtfhekoipnlmhoaaGreat

/- The law's own helpers that write a count into a row of bytes and look for it again, by their contracts. -/
namespace Go.Proofs.YtfhekoipnlmhoaaGreat
open Go.RowKit
set_option linter.unusedVariables false

/-- n bytes that count on from k. -/
def marks (k : Int) (n : Nat) : List Int := (List.range n).map fun i : Nat => (k + (i : Int)) % 256
theorem marks_len (k : Int) (n : Nat) : (marks k n).length = n := by simp [marks]
theorem marks_ok (k : Int) (n : Nat) : okB (marks k n) := fun x hx => by
  obtain ⟨i, _, rfl⟩ := List.mem_map.1 hx
  omega
theorem marks_at (k : Int) (n i : Nat) (h : i < n) : (marks k n).getD i 0 = (k + (i : Int)) % 256 := by simp [marks, h]
theorem marks_step (k : Int) (l : List Int) (j : Nat) (h : j < l.length) : (vals (marks k j ++ l.drop j)).set j (.int .u8 ((k + (j : Int)) % 256)) = vals (marks k (j + 1) ++ l.drop (j + 1)) := by
  have e : marks k (j + 1) = marks k j ++ [(k + (j : Int)) % 256] := by simp [marks, List.range_succ]
  have hl : (vals (marks k j)).length = j := by simp [vals, marks_len]
  rw [vals_app, List.set_append_right _ _ (by omega), hl, Nat.sub_self, e, List.drop_eq_getElem_cons h, vals_app, vals_app, List.append_assoc]
  rfl

theorem markB_nil (w : World) (a : Option Addr) (cap : Nat) (k : Int) :
    Calls Tryz.prog 62 #[.slice a 0 cap, .int .i64 k] w fun e w' => e = .returned (.int .i64 k) ∧ w' = w := by
  go_enter Tryz.func62, Tryz.ntmps62
  go_wp2
  refine wp_loop_rounds 1 ?_
  rw [rounds_succ]
  go_wp2
  go_ret
  exact ⟨rfl, rfl⟩

set_option maxHeartbeats 1600000 in
set_option maxRecDepth 1000000 in
theorem markB_row (w : World) (base g cap : Nat) (l : List Int) (k : Int) (hw : w.ownsRow base 5 1 (.slice (some ⟨g, 0, none⟩) l.length cap) l.length (vals l)) (hs : l.length ≤ 16777216) (h0 : 0 ≤ k) (h1 : k ≤ 1000000000) :
    Calls Tryz.prog 62 #[.slice (some ⟨g, 0, none⟩) l.length cap, .int .i64 k] w fun e w' => e = .returned (.int .i64 (k + l.length)) ∧
      w'.ownsRow base 5 1 (.slice (some ⟨g, 0, none⟩) l.length cap) l.length (vals (marks k l.length)) ∧ w.grownBy w' (some g) := by
  generalize hn : l.length = n at *
  have HN := hide hn
  clear hn
  go_enter Tryz.func62, Tryz.ntmps62
  go_wp2
  go_loopw [1, 5] (fun c i wr => ∃ j : Nat, j ≤ n ∧ i = .int .i64 j ∧ c = .int .i64 (k + (j : Int)) ∧ wr.ownsRow base 5 1 (.slice (some ⟨g, 0, none⟩) n cap) n (vals (marks k j ++ l.drop j)) ∧ w.grownBy wr (some g)) (fun _ i _ => n - (intOf i).toNat)
  case atStart => exact ⟨0, Nat.zero_le _, rfl, by simp, by simpa [marks] using hw, World.grownBy.refl _ _⟩
  case round =>
    obtain ⟨j, hj, rfl, rfl, hr, hg⟩ := hrel
    by_cases hlt : j < n
    · have hlen := unhide HN
      have hjl : j < l.length := by omega
      obtain ⟨y, hy⟩ : ∃ y, wr.cell? ⟨g, j, none⟩ = some (.int .u8 y) := ⟨(marks k j ++ l.drop j).getD j 0, by rw [hr.cellAt j (by omega), vals_at (by simp [marks_len]; omega)]⟩
      have hfr := hr.frozenAt j
      have hst := hr.stored j (.int .u8 ((k + (j : Int)) % 256))
      rw [marks_step k l j hjl] at hst
      have HS := hide hst
      clear hst hr hlen
      have hlt' : (j : Int) < (n : Int) := by omega
      go_wp2
      have R := unhide HS
      go_roundw
      case rel => exact ⟨j + 1, by omega, by go_num, by go_num, R.1, grown_trans hg R.2⟩
      case measure => simp [intOf]; omega
    · have e : j = n := by omega
      subst e
      have hr' : wr.ownsRow base 5 1 (.slice (some ⟨g, 0, none⟩) j cap) j (vals (marks k j)) := by
        have := unhide HN
        rw [List.drop_of_length_le (by omega), List.append_nil] at hr
        exact hr
      clear hr
      go_wp2
      go_ret
      exact ⟨rfl, hr', hg⟩

theorem markB_any (w : World) (base : Nat) (v : Value) (l : List Int) (k : Int) (h : Own w base v l) (hs : l.length ≤ 16777216) (h0 : 0 ≤ k) (h1 : k ≤ 1000000000) :
    Calls Tryz.prog 62 #[v, .int .i64 k] w fun e w' => e = .returned (.int .i64 (k + l.length)) ∧ Own w' base v (marks k l.length) ∧ w.grownBy w' v.ownBlock := by
  obtain ⟨hok, hlen, ⟨rfl, hz⟩ | ⟨g, cap, cur, rfl, hr⟩⟩ := h
  · have e : l = [] := List.eq_nil_of_length_eq_zero hz
    subst e
    refine (markB_nil w none 0 k).mono ?_
    rintro e w' ⟨rfl, rfl⟩
    exact ⟨by simp, ⟨marks_ok _ _, World.ownsRow_nil _ _ _ _⟩, World.grownBy.refl _ _⟩
  · refine (markB_row w base g cap l k ⟨hlen, .inr ⟨g, cap, cur, rfl, hr⟩⟩ hs h0 h1).mono ?_
    rintro e w' ⟨rfl, ho, hg⟩
    refine ⟨rfl, ⟨marks_ok _ _, ?_⟩, hg⟩
    rw [marks_len]
    exact ho

theorem heldB_nil (w : World) (a : Option Addr) (cap : Nat) (k : Int) :
    Calls Tryz.prog 64 #[.slice a 0 cap, .int .i64 k] w fun e w' => e = .returned (.int .i64 k) ∧ w' = w := by
  go_enter Tryz.func64, Tryz.ntmps64
  go_wp2
  refine wp_loop_rounds 1 ?_
  rw [rounds_succ]
  go_wp2
  go_ret
  exact ⟨rfl, rfl⟩

set_option maxHeartbeats 1600000 in
set_option maxRecDepth 1000000 in
theorem heldB_row (w : World) (b off cap n : Nat) (k : Int) (hc : ∀ i, i < n → w.cell? ⟨b, off + i, none⟩ = some (.int .u8 ((marks k n).getD i 0))) (hs : n ≤ 16777216) (h0 : 0 ≤ k) (h1 : k ≤ 1000000000) :
    Calls Tryz.prog 64 #[.slice (some ⟨b, off, none⟩) n cap, .int .i64 k] w fun e w' => e = .returned (.int .i64 (k + n)) ∧ w' = w := by
  go_enter Tryz.func64, Tryz.ntmps64
  go_wp2
  go_loop [1, 5] (fun c i => ∃ j : Nat, j ≤ n ∧ i = .int .i64 j ∧ c = .int .i64 (k + (j : Int))) (fun _ i => n - (intOf i).toNat)
  case atStart => exact ⟨0, Nat.zero_le _, rfl, by simp⟩
  case round =>
    obtain ⟨j, hj, rfl, rfl⟩ := hrel
    by_cases hlt : j < n
    · have c1 := hc j hlt
      rw [marks_at k n j hlt] at c1
      clear hc
      have hlt' : (j : Int) < (n : Int) := by omega
      go_wp2
      go_round
      case rel => exact ⟨j + 1, by omega, by go_num, by go_num⟩
      case measure => simp [intOf]; omega
    · have e : j = n := by omega
      subst e
      clear hc
      go_wp2
      go_ret
      exact ⟨rfl, rfl⟩

theorem heldB_any (w : World) (v : Value) (n : Nat) (k : Int) (h : Byt w v (marks k n)) (hs : n ≤ 16777216) (h0 : 0 ≤ k) (h1 : k ≤ 1000000000) :
    Calls Tryz.prog 64 #[v, .int .i64 k] w fun e w' => e = .returned (.int .i64 (k + n)) ∧ w' = w := by
  obtain ⟨_, _, ⟨rfl, hn⟩ | ⟨x, cap, rfl, hc, hn⟩ | ⟨b, off, cap, rfl, _, _, _, _, h5⟩⟩ := h
  · have e : n = 0 := by have := congrArg List.length hn; rw [marks_len] at this; exact this
    subst e
    refine (heldB_nil w none 0 k).mono ?_
    rintro e w' ⟨rfl, rfl⟩
    exact ⟨by simp, rfl⟩
  · have e : n = 0 := by have := congrArg List.length hn; rw [marks_len] at this; exact this
    subst e
    refine (heldB_nil w (some x) cap k).mono ?_
    rintro e w' ⟨rfl, rfl⟩
    exact ⟨by simp, rfl⟩
  · rw [marks_len] at h5 ⊢
    exact heldB_row w b off cap n k h5 hs h0 h1

end Go.Proofs.YtfhekoipnlmhoaaGreat

/- The law's own helpers that write a count into a row of bytes and look for it again, by their contracts. -/
namespace Go.Proofs.YtfhekoipnlmhoaaGreat
open Go.RowKit
set_option linter.unusedVariables false

/-- n bytes that count on from k. -/
def markz (k : Int) (n : Nat) : List Int := (List.range n).map fun i : Nat => k + (i : Int)
theorem markz_len (k : Int) (n : Nat) : (markz k n).length = n := by simp [markz]
theorem markz_ok (k : Int) (n : Nat) (h0 : 0 ≤ k) (h1 : k + (n : Int) ≤ 9223372036854775807) : okZ (markz k n) := fun x hx => by
  obtain ⟨i, hi, rfl⟩ := List.mem_map.1 hx
  have := List.mem_range.1 hi
  omega
theorem markz_at (k : Int) (n i : Nat) (h : i < n) : (markz k n).getD i 0 = k + (i : Int) := by simp [markz, h]
theorem markz_step (k : Int) (l : List Int) (j : Nat) (h : j < l.length) : (valz (markz k j ++ l.drop j)).set j (.int .i64 (k + (j : Int))) = valz (markz k (j + 1) ++ l.drop (j + 1)) := by
  have e : markz k (j + 1) = markz k j ++ [k + (j : Int)] := by simp [markz, List.range_succ]
  have hl : (valz (markz k j)).length = j := by simp [valz, markz_len]
  rw [valz_app, List.set_append_right _ _ (by omega), hl, Nat.sub_self, e, List.drop_eq_getElem_cons h, valz_app, valz_app, List.append_assoc]
  rfl

theorem markZ_nil (w : World) (a : Option Addr) (cap : Nat) (k : Int) :
    Calls Tryz.prog 61 #[.slice a 0 cap, .int .i64 k] w fun e w' => e = .returned (.int .i64 k) ∧ w' = w := by
  go_enter Tryz.func61, Tryz.ntmps61
  go_wp2
  refine wp_loop_rounds 1 ?_
  rw [rounds_succ]
  go_wp2
  go_ret
  exact ⟨rfl, rfl⟩

set_option maxHeartbeats 1600000 in
set_option maxRecDepth 1000000 in
theorem markZ_row (w : World) (base g cap : Nat) (l : List Int) (k : Int) (hw : w.ownsRow base 3 1 (.slice (some ⟨g, 0, none⟩) l.length cap) l.length (valz l)) (hs : l.length ≤ 16777216) (h0 : 0 ≤ k) (h1 : k ≤ 1000000000) :
    Calls Tryz.prog 61 #[.slice (some ⟨g, 0, none⟩) l.length cap, .int .i64 k] w fun e w' => e = .returned (.int .i64 (k + l.length)) ∧
      w'.ownsRow base 3 1 (.slice (some ⟨g, 0, none⟩) l.length cap) l.length (valz (markz k l.length)) ∧ w.grownBy w' (some g) := by
  generalize hn : l.length = n at *
  have HN := hide hn
  clear hn
  go_enter Tryz.func61, Tryz.ntmps61
  go_wp2
  go_loopw [1, 5] (fun c i wr => ∃ j : Nat, j ≤ n ∧ i = .int .i64 j ∧ c = .int .i64 (k + (j : Int)) ∧ wr.ownsRow base 3 1 (.slice (some ⟨g, 0, none⟩) n cap) n (valz (markz k j ++ l.drop j)) ∧ w.grownBy wr (some g)) (fun _ i _ => n - (intOf i).toNat)
  case atStart => exact ⟨0, Nat.zero_le _, rfl, by simp, by simpa [markz] using hw, World.grownBy.refl _ _⟩
  case round =>
    obtain ⟨j, hj, rfl, rfl, hr, hg⟩ := hrel
    by_cases hlt : j < n
    · have hlen := unhide HN
      have hjl : j < l.length := by omega
      obtain ⟨y, hy⟩ : ∃ y, wr.cell? ⟨g, j, none⟩ = some (.int .i64 y) := ⟨(markz k j ++ l.drop j).getD j 0, by rw [hr.cellAt j (by omega), valz_at (by simp [markz_len]; omega)]⟩
      have hfr := hr.frozenAt j
      have hst := hr.stored j (.int .i64 (k + (j : Int)))
      rw [markz_step k l j hjl] at hst
      have HS := hide hst
      clear hst hr hlen
      have hlt' : (j : Int) < (n : Int) := by omega
      go_wp2
      have R := unhide HS
      go_roundw
      case rel => exact ⟨j + 1, by omega, by go_num, by go_num, R.1, grown_trans hg R.2⟩
      case measure => simp [intOf]; omega
    · have e : j = n := by omega
      subst e
      have hr' : wr.ownsRow base 3 1 (.slice (some ⟨g, 0, none⟩) j cap) j (valz (markz k j)) := by
        have := unhide HN
        rw [List.drop_of_length_le (by omega), List.append_nil] at hr
        exact hr
      clear hr
      go_wp2
      go_ret
      exact ⟨rfl, hr', hg⟩

theorem markZ_any (w : World) (base : Nat) (v : Value) (l : List Int) (k : Int) (h : OwnZ w base v l) (hs : l.length ≤ 16777216) (h0 : 0 ≤ k) (h1 : k ≤ 1000000000) :
    Calls Tryz.prog 61 #[v, .int .i64 k] w fun e w' => e = .returned (.int .i64 (k + l.length)) ∧ OwnZ w' base v (markz k l.length) ∧ w.grownBy w' v.ownBlock := by
  obtain ⟨hok, hlen, ⟨rfl, hz⟩ | ⟨g, cap, cur, rfl, hr⟩⟩ := h
  · have e : l = [] := List.eq_nil_of_length_eq_zero hz
    subst e
    refine (markZ_nil w none 0 k).mono ?_
    rintro e w' ⟨rfl, rfl⟩
    exact ⟨by simp, ⟨markz_ok _ _ h0 (by first | omega | (simp; omega)), World.ownsRow_nil _ _ _ _⟩, World.grownBy.refl _ _⟩
  · refine (markZ_row w base g cap l k ⟨hlen, .inr ⟨g, cap, cur, rfl, hr⟩⟩ hs h0 h1).mono ?_
    rintro e w' ⟨rfl, ho, hg⟩
    refine ⟨rfl, ⟨markz_ok _ _ h0 (by first | omega | (simp; omega)), ?_⟩, hg⟩
    rw [markz_len]
    exact ho

theorem heldZ_nil (w : World) (a : Option Addr) (cap : Nat) (k : Int) :
    Calls Tryz.prog 63 #[.slice a 0 cap, .int .i64 k] w fun e w' => e = .returned (.int .i64 k) ∧ w' = w := by
  go_enter Tryz.func63, Tryz.ntmps63
  go_wp2
  refine wp_loop_rounds 1 ?_
  rw [rounds_succ]
  go_wp2
  go_ret
  exact ⟨rfl, rfl⟩

set_option maxHeartbeats 1600000 in
set_option maxRecDepth 1000000 in
theorem heldZ_row (w : World) (b off cap n : Nat) (k : Int) (hc : ∀ i, i < n → w.cell? ⟨b, off + i, none⟩ = some (.int .i64 ((markz k n).getD i 0))) (hs : n ≤ 16777216) (h0 : 0 ≤ k) (h1 : k ≤ 1000000000) :
    Calls Tryz.prog 63 #[.slice (some ⟨b, off, none⟩) n cap, .int .i64 k] w fun e w' => e = .returned (.int .i64 (k + n)) ∧ w' = w := by
  go_enter Tryz.func63, Tryz.ntmps63
  go_wp2
  go_loop [1, 5] (fun c i => ∃ j : Nat, j ≤ n ∧ i = .int .i64 j ∧ c = .int .i64 (k + (j : Int))) (fun _ i => n - (intOf i).toNat)
  case atStart => exact ⟨0, Nat.zero_le _, rfl, by simp⟩
  case round =>
    obtain ⟨j, hj, rfl, rfl⟩ := hrel
    by_cases hlt : j < n
    · have c1 := hc j hlt
      rw [markz_at k n j hlt] at c1
      clear hc
      have hlt' : (j : Int) < (n : Int) := by omega
      go_wp2
      go_round
      case rel => exact ⟨j + 1, by omega, by go_num, by go_num⟩
      case measure => simp [intOf]; omega
    · have e : j = n := by omega
      subst e
      clear hc
      go_wp2
      go_ret
      exact ⟨rfl, rfl⟩

theorem heldZ_any (w : World) (v : Value) (n : Nat) (k : Int) (h : Ints w v (markz k n)) (hs : n ≤ 16777216) (h0 : 0 ≤ k) (h1 : k ≤ 1000000000) :
    Calls Tryz.prog 63 #[v, .int .i64 k] w fun e w' => e = .returned (.int .i64 (k + n)) ∧ w' = w := by
  obtain ⟨_, _, ⟨rfl, hn⟩ | ⟨x, cap, rfl, hc, hn⟩ | ⟨b, off, cap, rfl, _, _, _, _, h5⟩⟩ := h
  · have e : n = 0 := by have := congrArg List.length hn; rw [markz_len] at this; exact this
    subst e
    refine (heldZ_nil w none 0 k).mono ?_
    rintro e w' ⟨rfl, rfl⟩
    exact ⟨by simp, rfl⟩
  · have e : n = 0 := by have := congrArg List.length hn; rw [markz_len] at this; exact this
    subst e
    refine (heldZ_nil w (some x) cap k).mono ?_
    rintro e w' ⟨rfl, rfl⟩
    exact ⟨by simp, rfl⟩
  · rw [markz_len] at h5 ⊢
    exact heldZ_row w b off cap n k h5 hs h0 h1

end Go.Proofs.YtfhekoipnlmhoaaGreat

/- What laws.markOpS lays: plain mathematics. -/
namespace Go.Proofs.YtfhekoipnlmhoaaGreat
open Go.RowKit
set_option linter.unusedVariables false
set_option maxRecDepth 100000

/-- An operation with a count in it, from k on. -/
def mkO (o : OpV) (k : Int) : OpV where
  kind := k
  atN := k + 1
  atR := k + 1 + 1
  nodeN := k + 1 + 1 + 1
  nodeR := k + 1 + 1 + 1 + 1
  parN := k + 1 + 1 + 1 + 1 + 1
  parR := k + 1 + 1 + 1 + 1 + 1 + 1
  key := markz (k + 1 + 1 + 1 + 1 + 1 + 1 + 1) o.key.length
  elem := k + 1 + 1 + 1 + 1 + 1 + 1 + 1 + (o.key.length : Int)
  name := marks (k + 1 + 1 + 1 + 1 + 1 + 1 + 1 + (o.key.length : Int) + 1) o.name.length
  text := marks (k + 1 + 1 + 1 + 1 + 1 + 1 + 1 + (o.key.length : Int) + 1 + (o.name.length : Int)) o.text.length
  gone := ((k + 1 + 1 + 1 + 1 + 1 + 1 + 1 + (o.key.length : Int) + 1 + (o.name.length : Int) + (o.text.length : Int)) % 3 == 0)
def cntOs : List OpV → Nat
  | [] => 0
  | x :: r => 9 + szO x + cntOs r
def mkOs : List OpV → Int → List OpV
  | [], _ => []
  | x :: r, k => mkO x k :: mkOs r (k + ((9 + szO x : Nat) : Int))
theorem mkOs_len : ∀ (l : List OpV) (k : Int), (mkOs l k).length = l.length
  | [], _ => rfl
  | x :: r, k => by simp [mkOs, mkOs_len r]
theorem mkOs_app : ∀ (a b : List OpV) (k : Int), mkOs (a ++ b) k = mkOs a k ++ mkOs b (k + (cntOs a : Nat))
  | [], b, k => by simp [mkOs, cntOs]
  | x :: r, b, k => by
    simp only [List.cons_append, mkOs, mkOs_app r b, cntOs, List.cons.injEq, true_and]
    congr 2
    omega
theorem cntOs_app : ∀ (a b : List OpV), cntOs (a ++ b) = cntOs a + cntOs b
  | [], b => by simp [cntOs]
  | x :: r, b => by simp only [List.cons_append, cntOs, cntOs_app r b]; omega
theorem cntOs_take (l : List OpV) (j : Nat) (h : j < l.length) : cntOs (l.take (j + 1)) = cntOs (l.take j) + (9 + szO l[j]) := by
  rw [List.take_succ_eq_append_getElem h, cntOs_app]
  simp [cntOs]
theorem cntOs_le (l : List OpV) (j : Nat) : cntOs (l.take j) ≤ cntOs l := by
  have := cntOs_app (l.take j) (l.drop j)
  rw [List.take_append_drop] at this
  omega
theorem mkOs_at (l : List OpV) (k : Int) (j : Nat) (h : j < l.length) (h' : j < (mkOs l k).length) : (mkOs l k)[j] = mkO l[j] (k + (cntOs (l.take j) : Nat)) := by
  have e : mkOs l k = mkOs (l.take j) k ++ mkOs (l.drop j) (k + (cntOs (l.take j) : Nat)) := by rw [← mkOs_app, List.take_append_drop]
  have e2 : l.drop j = l[j] :: l.drop (j + 1) := List.drop_eq_getElem_cons h
  have hl : (mkOs (l.take j) k).length = j := by rw [mkOs_len]; simp; omega
  have : (mkOs l k)[j]? = some (mkO l[j] (k + (cntOs (l.take j) : Nat))) := by
    rw [e, List.getElem?_append_right (by omega), hl, Nat.sub_self, e2, mkOs]
    rfl
  rw [List.getElem?_eq_getElem h'] at this
  exact Option.some.inj this
end Go.Proofs.YtfhekoipnlmhoaaGreat

/- laws.markOpS, by its contract. -/
namespace Go.Proofs.YtfhekoipnlmhoaaGreat
open Go.RowKit
set_option linter.unusedVariables false
set_option maxRecDepth 100000

theorem OwOpC.len {w : World} {C : List Value} {o : OpV} {F : List Nat} (h : OwOpC w C o F) : C.length = 12 := by
  obtain ⟨k, n, t, rfl, _⟩ := h; rfl
theorem nodup3 {a b c : List Nat} (h : (a ++ b ++ c).Nodup) : (∀ g ∈ a, g ∉ b ∧ g ∉ c) ∧ (∀ g ∈ b, g ∉ c) := by
  have h1 := List.nodup_append.1 h
  have h2 := List.nodup_append.1 h1.1
  exact ⟨fun g ha => ⟨fun hb => h2.2.2 g ha g hb rfl, fun hc => h1.2.2 g (List.mem_append_left _ ha) g hc rfl⟩, fun g hb hc => h1.2.2 g (List.mem_append_right _ hb) g hc rfl⟩

set_option maxHeartbeats 20000000 in
theorem markOs_any (w : World) (v : Value) (l : List OpV) (F : List Nat) (k : Int) (h : OwOps w v l F) (hF : F.Nodup) (hs : cntOs l ≤ 16777216) (h0 : 0 ≤ k) (h1 : k ≤ 900000000) :
    Calls Tryz.prog 20 #[v, .int .i64 k] w fun e w' => e = .returned (.int .i64 (k + (cntOs l : Nat))) ∧ OwOps w' v (mkOs l k) F ∧ Frm w w' F := by
  have hml := OwElems.len h
  unfold maxLen at hml
  obtain ⟨Cs, Fs, hCl, hFl, hR, hrow, rfl⟩ := h
  have hFv := nodup_part hF
  have hFn := (List.nodup_append.1 hF).2.1
  by_cases hl0 : l = []
  · subst hl0
    obtain ⟨a, cap, rfl⟩ := own_nil_shape hrow
    have HW := hide (show OwOps w (.slice a ([] : List OpV).length cap) (mkOs [] k) _ from ⟨Cs, Fs, hCl, hFl, hR, hrow, rfl⟩)
    clear hrow hR
    go_enter Tryz.func20, Tryz.ntmps20
    go_wp2_with fail
    refine wp_loop_rounds 1 ?_
    rw [rounds_succ]
    go_wp2_with fail
    go_ret
    exact ⟨by simp [cntOs], unhide HW, Frm.refl _ _⟩
  have hv : ∃ g cap, v = .slice (some ⟨g, 0, none⟩) l.length cap := by
    rcases hrow.2 with ⟨_, h⟩ | ⟨g, cap, cur, rfl, _⟩
    · exact absurd (List.eq_nil_of_length_eq_zero h) hl0
    · exact ⟨g, cap, rfl⟩
  obtain ⟨g, cap, rfl⟩ := hv
  have hgF : ∀ i, g ∉ Fs.getD i [] := fun i hi => hFv g (by simp [FB, Value.ownBlock]) (mem_flat hi)
  have hFB : FB (.slice (some ⟨g, 0, none⟩) l.length cap) = [g] := rfl
  rw [hFB] at hF hFv ⊢
  have HR := hide hR
  have HROW := hide hrow
  have hm' : (l.length : Int) ≤ 9223372036854775807 := by omega
  clear hR hrow hFB
  go_enter Tryz.func20, Tryz.ntmps20
  go_wp2_with fail
  go_loopw [1, 5] (fun c i wr => ∃ j : Nat, j ≤ l.length ∧ i = .int .i64 j ∧ c = .int .i64 (k + (cntOs (l.take j) : Nat)) ∧ ∃ Ds : List (List Value), Ds.length = l.length ∧ wr.ownsRow 0 28 12 (.slice (some ⟨g, 0, none⟩) l.length cap) l.length Ds.flatten ∧
      (∀ i (hi : i < (mkOs l k).length), i < j → OwOpC wr (Ds.getD i []) (mkOs l k)[i] (Fs.getD i [])) ∧ (∀ i (hi : i < l.length), j ≤ i → OwOpC wr (Ds.getD i []) l[i] (Fs.getD i [])) ∧ Frm w wr ([g] ++ Fs.flatten)) (fun _ i _ => l.length - (intOf i).toNat)
  case atStart => exact ⟨0, Nat.zero_le _, rfl, by simp [cntOs], Cs, hCl, unhide HROW, fun i hi hj => by omega, fun i hi _ => (unhide HR i hi).2, Frm.refl _ _⟩
  case round =>
    obtain ⟨j, hj, rfl, rfl, Ds, hDl, hr, hdone, htodo, hf⟩ := hrel
    have hD : ∀ i, i < Ds.length → (Ds.getD i []).length = 12 := fun i hi => by
      by_cases hij : i < j
      · exact (hdone i (by rw [mkOs_len]; omega) hij).len
      · exact (htodo i (by omega) (by omega)).len
    by_cases hjl : j < l.length
    · obtain ⟨kv, nv, tv, hab, hk, hn, ht, hFj⟩ := htodo j hjl (Nat.le_refl _)
      have hct := cntOs_take l j hjl
      have hcl := cntOs_le l (j + 1)
      unfold szO at hct
      have hat := mkOs_at l k j hjl (by rw [mkOs_len]; exact hjl)
      obtain ⟨x, hx⟩ : ∃ x, x = l[j] := ⟨_, rfl⟩
      rw [← hx] at hk hn ht hct hat hab
      obtain ⟨q, hq⟩ : ∃ q : Int, q = k + (cntOs (l.take j) : Nat) := ⟨_, rfl⟩
      rw [← hq] at hat ⊢
      have hq0 : 0 ≤ q := by omega
      have hq1 : q ≤ 917000000 := by omega
      obtain ⟨pk, ck, rfl, _, _⟩ := hk.ints.shape
      obtain ⟨pn, cn, rfl, _, _⟩ := hn.byt.shape
      obtain ⟨pt, ct, rfl, _, _⟩ := ht.byt.shape
      have hFjn := nodup_at (i := j) hFn
      rw [hFj] at hFjn
      obtain ⟨na, nb'⟩ := nodup3 hFjn
      have R0 := RowJ.start hDl hD j hjl hr
      rw [hab] at R0
      have c0 := R0.cell 0 (by omega)
      have f0 := R0.frozen (j * 12)
      have c1 := R0.cell 1 (by omega)
      have f1 := R0.frozen (j * 12 + 1)
      have c2 := R0.cell 2 (by omega)
      have f2 := R0.frozen (j * 12 + 2)
      have c3 := R0.cell 3 (by omega)
      have f3 := R0.frozen (j * 12 + 3)
      have c4 := R0.cell 4 (by omega)
      have f4 := R0.frozen (j * 12 + 4)
      have c5 := R0.cell 5 (by omega)
      have f5 := R0.frozen (j * 12 + 5)
      have c6 := R0.cell 6 (by omega)
      have f6 := R0.frozen (j * 12 + 6)
      simp only [List.getElem?_cons_zero, List.getElem?_cons_succ, Nat.add_zero] at c0 c1 c2 c3 c4 c5 c6
      have R1 := (((((((R0.put 0 (by omega) (.int .i64 q)).put 1 (by omega) (.int .i64 (q + 1))).put 2 (by omega) (.int .i64 (q + 1 + 1))).put 3 (by omega) (.int .i64 (q + 1 + 1 + 1))).put 4 (by omega) (.int .i64 (q + 1 + 1 + 1 + 1))).put 5 (by omega) (.int .i64 (q + 1 + 1 + 1 + 1 + 1))).put 6 (by omega) (.int .i64 (q + 1 + 1 + 1 + 1 + 1 + 1)))
      simp only [Nat.add_zero, List.set_cons_zero, List.set_cons_succ] at R1
      have F1 : Frm wr (((((((wr.setCell ⟨g, j * 12, none⟩ (.int .i64 q)).setCell ⟨g, j * 12 + 1, none⟩ (.int .i64 (q + 1))).setCell ⟨g, j * 12 + 2, none⟩ (.int .i64 (q + 1 + 1))).setCell ⟨g, j * 12 + 3, none⟩ (.int .i64 (q + 1 + 1 + 1))).setCell ⟨g, j * 12 + 4, none⟩ (.int .i64 (q + 1 + 1 + 1 + 1))).setCell ⟨g, j * 12 + 5, none⟩ (.int .i64 (q + 1 + 1 + 1 + 1 + 1))).setCell ⟨g, j * 12 + 6, none⟩ (.int .i64 (q + 1 + 1 + 1 + 1 + 1 + 1))) [g] := (((((((set_frm wr g (j * 12) (.int .i64 q)).trans (set_frm _ g (j * 12 + 1) (.int .i64 (q + 1)))).trans (set_frm _ g (j * 12 + 2) (.int .i64 (q + 1 + 1)))).trans (set_frm _ g (j * 12 + 3) (.int .i64 (q + 1 + 1 + 1)))).trans (set_frm _ g (j * 12 + 4) (.int .i64 (q + 1 + 1 + 1 + 1)))).trans (set_frm _ g (j * 12 + 5) (.int .i64 (q + 1 + 1 + 1 + 1 + 1)))).trans (set_frm _ g (j * 12 + 6) (.int .i64 (q + 1 + 1 + 1 + 1 + 1 + 1))))
      have c7 := R1.cell 7 (by omega)
      simp only [List.getElem?_cons_zero, List.getElem?_cons_succ] at c7
      have HX := hide hx
      have HQ := hide hq
      have HT := hide hat
      have HCT := hide hct
      have HFJ := hide hFj
      have HDN := hide hdone
      have HTD := hide htodo
      have hx0 : x.key.length ≤ 16777216 := by omega
      have hx1 : x.name.length ≤ 16777216 := by omega
      have hx2 : x.text.length ≤ 16777216 := by omega
      have hjl' : (j : Int) < (l.length : Int) := by omega
      have hgn : g ∉ Fs.getD j [] := hgF j
      rw [unhide HFJ] at hgn
      simp only [List.mem_append, not_or] at hgn
      obtain ⟨⟨hgk, hgnn⟩, hgt⟩ := hgn
      have hk1 := hk.frm F1 (fun p hp hp' => by simp at hp'; subst hp'; exact hgk hp)
      have hn1 := hn.frm F1 (fun p hp hp' => by simp at hp'; subst hp'; exact hgnn hp)
      have ht1 := ht.frm F1 (fun p hp hp' => by simp at hp'; subst hp'; exact hgt hp)
      clear hx hq hat hct hFj hdone htodo hcl hr hab hk hn ht hFjn R0
      go_wp2_with fail
      generalize (((((((wr.setCell ⟨g, j * 12, none⟩ (.int .i64 q)).setCell ⟨g, j * 12 + 1, none⟩ (.int .i64 (q + 1))).setCell ⟨g, j * 12 + 2, none⟩ (.int .i64 (q + 1 + 1))).setCell ⟨g, j * 12 + 3, none⟩ (.int .i64 (q + 1 + 1 + 1))).setCell ⟨g, j * 12 + 4, none⟩ (.int .i64 (q + 1 + 1 + 1 + 1))).setCell ⟨g, j * 12 + 5, none⟩ (.int .i64 (q + 1 + 1 + 1 + 1 + 1))).setCell ⟨g, j * 12 + 6, none⟩ (.int .i64 (q + 1 + 1 + 1 + 1 + 1 + 1))) = w1 at *
      clear c0 c1 c2 c3 c4 c5 c6 f0 f1 f2 f3 f4 f5 f6 c7
      refine (markZ_any w1 0 _ x.key (q + 1 + 1 + 1 + 1 + 1 + 1 + 1) hk1 hx0 (by omega) (by omega)).mono ?_
      rintro e w2 ⟨rfl, hk2, hg2⟩
      have F2 := Frm.ofGrown hg2
      have R2 := R1.frm F2 hgk
      have hn2 := hn1.frm F2 (fun p hp hp' => (na p hp').1 hp)
      have ht2 := ht1.frm F2 (fun p hp hp' => (na p hp').2 hp)
      have c8 := R2.cell 8 (by omega)
      have f8 := R2.frozen (j * 12 + 8)
      have R3 := R2.put 8 (by omega) (.int .i64 (q + 1 + 1 + 1 + 1 + 1 + 1 + 1 + (x.key.length : Int)))
      have F3 := set_frm w2 g (j * 12 + 8) (.int .i64 (q + 1 + 1 + 1 + 1 + 1 + 1 + 1 + (x.key.length : Int)))
      have c9 := R3.cell 9 (by omega)
      simp only [List.set_cons_zero, List.set_cons_succ, List.getElem?_cons_zero, List.getElem?_cons_succ] at c8 c9 R3
      have hk3 := hk2.frm F3 (fun p hp hp' => by simp at hp'; subst hp'; exact hgk hp)
      have hn3 := hn2.frm F3 (fun p hp hp' => by simp at hp'; subst hp'; exact hgnn hp)
      have ht3 := ht2.frm F3 (fun p hp hp' => by simp at hp'; subst hp'; exact hgt hp)
      clear R1 R2 hk1 hn1 ht1 hk2 hn2 ht2 hg2
      go_wp2_with fail
      generalize (w2.setCell ⟨g, j * 12 + 8, none⟩ (.int .i64 (q + 1 + 1 + 1 + 1 + 1 + 1 + 1 + (x.key.length : Int)))) = w3 at *
      clear c8 f8 c9
      refine (markB_any w3 0 _ x.name (q + 1 + 1 + 1 + 1 + 1 + 1 + 1 + (x.key.length : Int) + 1) hn3 hx1 (by omega) (by omega)).mono ?_
      rintro e w4 ⟨rfl, hn4, hg4⟩
      have F4 := Frm.ofGrown hg4
      have R4 := R3.frm F4 hgnn
      have hk4 := hk3.frm F4 (fun p hp hp' => (na p hp).1 hp')
      have ht4 := ht3.frm F4 (fun p hp hp' => nb' p hp' hp)
      have c10 := R4.cell 10 (by omega)
      simp only [List.getElem?_cons_zero, List.getElem?_cons_succ] at c10
      clear R3 hk3 hn3 ht3 hg4
      go_wp2_with fail
      clear c10
      refine (markB_any w4 0 _ x.text (q + 1 + 1 + 1 + 1 + 1 + 1 + 1 + (x.key.length : Int) + 1 + (x.name.length : Int)) ht4 hx2 (by omega) (by omega)).mono ?_
      rintro e w5 ⟨rfl, ht5, hg5⟩
      have F5 := Frm.ofGrown hg5
      have R5 := R4.frm F5 hgt
      have hk5 := hk4.frm F5 (fun p hp hp' => (na p hp).2 hp')
      have hn5 := hn4.frm F5 (fun p hp hp' => nb' p hp hp')
      have c11 := R5.cell 11 (by omega)
      have f11 := R5.frozen (j * 12 + 11)
      have R6 := R5.put 11 (by omega) (.bool ((q + 1 + 1 + 1 + 1 + 1 + 1 + 1 + (x.key.length : Int) + 1 + (x.name.length : Int) + (x.text.length : Int)) % 3 == 0))
      have F6 := set_frm w5 g (j * 12 + 11) (.bool ((q + 1 + 1 + 1 + 1 + 1 + 1 + 1 + (x.key.length : Int) + 1 + (x.name.length : Int) + (x.text.length : Int)) % 3 == 0))
      simp only [List.set_cons_zero, List.set_cons_succ, List.getElem?_cons_zero, List.getElem?_cons_succ] at c11 R6
      have hk6 := hk5.frm F6 (fun p hp hp' => by simp at hp'; subst hp'; exact hgk hp)
      have hn6 := hn5.frm F6 (fun p hp hp' => by simp at hp'; subst hp'; exact hgnn hp)
      have ht6 := ht5.frm F6 (fun p hp hp' => by simp at hp'; subst hp'; exact hgt hp)
      have FJ : Frm wr (w5.setCell ⟨g, j * 12 + 11, none⟩ (.bool ((q + 1 + 1 + 1 + 1 + 1 + 1 + 1 + (x.key.length : Int) + 1 + (x.name.length : Int) + (x.text.length : Int)) % 3 == 0))) ([g] ++ Fs.getD j []) := by
        have m0 : ∀ p, p ∈ [g] → p ∈ [g] ++ Fs.getD j [] := fun p hp => List.mem_append_left _ hp
        have m1 : ∀ p, p ∈ (Value.slice pk x.key.length ck).ownBlock.toList → p ∈ [g] ++ Fs.getD j [] := fun p hp => by rw [unhide HFJ]; simp [FB, hp]
        have m2 : ∀ p, p ∈ (Value.slice pn x.name.length cn).ownBlock.toList → p ∈ [g] ++ Fs.getD j [] := fun p hp => by rw [unhide HFJ]; simp [FB, hp]
        have m3 : ∀ p, p ∈ (Value.slice pt x.text.length ct).ownBlock.toList → p ∈ [g] ++ Fs.getD j [] := fun p hp => by rw [unhide HFJ]; simp [FB, hp]
        exact (((((F1.mono m0).trans (F2.mono m1)).trans (F3.mono m0)).trans (F4.mono m2)).trans (F5.mono m3)).trans (F6.mono m0)
      clear R4 R5 hk4 hn4 ht4 hk5 hn5 ht5 hg5 F1 F2 F3 F4 F5 F6
      go_wp2_with fail
      go_roundw
      case rel =>
        refine ⟨j + 1, by omega, by go_num, ?_, Ds.set j _, by rw [List.length_set]; exact hDl, R6.row, fun i hi hij => ?_, fun i hi hij => ?_, hf.trans (FJ.mono (fun p hp => ?_))⟩
        · rw [unhide HCT, unhide HQ]; go_num
        · by_cases e : i = j
          · subst e
            rw [unhide HT, getD_set_at _ _ _ (by omega)]
            exact ⟨_, _, _, by simp only [mkO], hk6, hn6, ht6, unhide HFJ⟩
          · rw [getD_set_ne _ _ _ _ e]
            exact (unhide HDN i hi (by omega)).frm FJ (fun p hp hp' => by
              rcases List.mem_append.1 hp' with h | h
              · simp at h; subst h; exact hgF i hp
              · exact nodup_flat hFn e p hp h)
        · rw [getD_set_ne _ _ _ _ (by omega)]
          exact (unhide HTD i hi (by omega)).frm FJ (fun p hp hp' => by
            rcases List.mem_append.1 hp' with h | h
            · simp at h; subst h; exact hgF i hp
            · exact nodup_flat hFn (by omega) p hp h)
        · rcases List.mem_append.1 hp with h | h
          · exact List.mem_append_left _ h
          · exact List.mem_append_right _ (mem_flat h)
      case measure => simp [intOf]; omega
    · have e : j = l.length := by omega
      subst e
      have HW := hide (show OwOps wr (.slice (some ⟨g, 0, none⟩) l.length cap) (mkOs l k) ([g] ++ Fs.flatten) from
        ⟨Ds, Fs, by rw [mkOs_len]; exact hDl, by rw [mkOs_len]; exact hFl, fun i hi => ⟨hD i (by rw [mkOs_len] at hi; omega), hdone i hi (by rw [mkOs_len] at hi; exact hi)⟩, by rw [mkOs_len]; exact hr, rfl⟩)
      clear hdone htodo hr hD
      go_wp2_with fail
      go_ret
      exact ⟨by first | rfl | (rw [List.take_length]; rfl), unhide HW, hf⟩
end Go.Proofs.YtfhekoipnlmhoaaGreat

/- Rows of the same operations are alike. -/
namespace Go.Proofs.YtfhekoipnlmhoaaGreat
open Go.RowKit
set_option linter.unusedVariables false
set_option maxRecDepth 100000

set_option maxHeartbeats 3200000 in
theorem eqOps_same (w : World) (u v : Value) (l : List OpV) (hu : RdOps w u l) (hv : RdOps w v l) :
    Calls Tryz.prog 18 #[u, v] w fun e w' => e = .returned (.bool true) ∧ Below w.heap.size w w' := by
  have hm := hu.1
  unfold maxLen at hm
  obtain ⟨rfl, a, cap, rfl⟩ | ⟨b, off, cap, rfl, hnil, g4, g5⟩ := hu.cases
  · obtain ⟨a', cap', rfl, _, _⟩ := Elems.shape hv
    go_enter Tryz.func18, Tryz.ntmps18
    go_wp2_with fail
    refine wp_loop_rounds 1 ?_
    rw [rounds_succ]
    go_wp2_with fail
    go_ret
    exact ⟨rfl, Below.refl _ _⟩
  obtain ⟨rfl, _⟩ | ⟨b', off', cap', rfl, _, f4, f5⟩ := hv.cases
  · exact absurd rfl hnil
  go_enter Tryz.func18, Tryz.ntmps18
  go_wp2_with fail
  go_loopw [5] (fun i wr => ∃ k : Nat, k ≤ l.length ∧ i = .int .i64 k ∧ Below w.heap.size w wr) (fun i _ => l.length - (intOf i).toNat)
  case atStart => exact ⟨0, Nat.zero_le _, rfl, Below.refl _ _⟩
  case round =>
    obtain ⟨k, hk, rfl, hB⟩ := hrel
    by_cases hlt : k < l.length
    · have HE := hide (fun W u v (hu : RdOp W u l[k]) (hv : RdOp W v l[k]) => eqOp_same W u v l[k] hu hv)
      obtain ⟨a1, c1, a2, c2, a3, c3, e0, e1, e2, e3, e4, e5, e6, e7, e8, e9, e10, e11, hr⟩ := opc_at hB g4 (g5 k hlt)
      obtain ⟨a1', c1', a2', c2', a3', c3', i0, i1, i2, i3, i4, i5, i6, i7, i8, i9, i10, i11, hr'⟩ := opc_at hB f4 (f5 k hlt)
      have hlt' : (k : Int) < (l.length : Int) := by omega
      have hk0 : (0 : Int) ≤ (k : Int) := by omega
      have HR := hide hr
      have HR' := hide hr'
      unfold opVal at HR HR'
      generalize l[k] = o at *
      generalize o.key.length = nK at *
      generalize o.name.length = nN at *
      generalize o.text.length = nT at *
      clear g5 f5 hr hr' hnil
      go_wp2_with fail
      go_region_held3 (fun w' => w'.cell? ⟨b, off + k * 12, none⟩ = some (.int .i64 o.kind) ∧ w'.cell? ⟨b, off + k * 12 + 1, none⟩ = some (.int .i64 o.atN) ∧ w'.cell? ⟨b, off + k * 12 + 2, none⟩ = some (.int .i64 o.atR) ∧ w'.cell? ⟨b, off + k * 12 + 3, none⟩ = some (.int .i64 o.nodeN) ∧ w'.cell? ⟨b, off + k * 12 + 4, none⟩ = some (.int .i64 o.nodeR) ∧ w'.cell? ⟨b, off + k * 12 + 5, none⟩ = some (.int .i64 o.parN) ∧ w'.cell? ⟨b, off + k * 12 + 6, none⟩ = some (.int .i64 o.parR) ∧ w'.cell? ⟨b, off + k * 12 + 7, none⟩ = some (.slice a1 nK c1) ∧ w'.cell? ⟨b, off + k * 12 + 8, none⟩ = some (.int .i64 o.elem) ∧ w'.cell? ⟨b, off + k * 12 + 9, none⟩ = some (.slice a2 nN c2) ∧ w'.cell? ⟨b, off + k * 12 + 10, none⟩ = some (.slice a3 nT c3) ∧ w'.cell? ⟨b, off + k * 12 + 11, none⟩ = some (.bool o.gone) ∧ w'.cell? ⟨b', off' + k * 12, none⟩ = some (.int .i64 o.kind) ∧ w'.cell? ⟨b', off' + k * 12 + 1, none⟩ = some (.int .i64 o.atN) ∧ w'.cell? ⟨b', off' + k * 12 + 2, none⟩ = some (.int .i64 o.atR) ∧ w'.cell? ⟨b', off' + k * 12 + 3, none⟩ = some (.int .i64 o.nodeN) ∧ w'.cell? ⟨b', off' + k * 12 + 4, none⟩ = some (.int .i64 o.nodeR) ∧ w'.cell? ⟨b', off' + k * 12 + 5, none⟩ = some (.int .i64 o.parN) ∧ w'.cell? ⟨b', off' + k * 12 + 6, none⟩ = some (.int .i64 o.parR) ∧ w'.cell? ⟨b', off' + k * 12 + 7, none⟩ = some (.slice a1' nK c1') ∧ w'.cell? ⟨b', off' + k * 12 + 8, none⟩ = some (.int .i64 o.elem) ∧ w'.cell? ⟨b', off' + k * 12 + 9, none⟩ = some (.slice a2' nN c2') ∧ w'.cell? ⟨b', off' + k * 12 + 10, none⟩ = some (.slice a3' nT c3') ∧ w'.cell? ⟨b', off' + k * 12 + 11, none⟩ = some (.bool o.gone)) (first | exact ⟨by assumption, by assumption, by assumption, by assumption, by assumption, by assumption, by assumption, by assumption, by assumption, by assumption, by assumption, by assumption, by assumption, by assumption, by assumption, by assumption, by assumption, by assumption, by assumption, by assumption, by assumption, by assumption, by assumption, by assumption⟩ | simp [*])
        ((go_at_call 19; refine (unhide HE _ _ _ ((unhide HR).keep ((Below.refl _ _).drew)) ((unhide HR').keep ((Below.refl _ _).drew))).mono ?_; rintro e w2 ⟨rfl, hB2⟩; have s0 := cell_later hB2 e0; have s1 := cell_later hB2 e1; have s2 := cell_later hB2 e2; have s3 := cell_later hB2 e3; have s4 := cell_later hB2 e4; have s5 := cell_later hB2 e5; have s6 := cell_later hB2 e6; have s7 := cell_later hB2 e7; have s8 := cell_later hB2 e8; have s9 := cell_later hB2 e9; have s10 := cell_later hB2 e10; have s11 := cell_later hB2 e11; have r0 := cell_later hB2 i0; have r1 := cell_later hB2 i1; have r2 := cell_later hB2 i2; have r3 := cell_later hB2 i3; have r4 := cell_later hB2 i4; have r5 := cell_later hB2 i5; have r6 := cell_later hB2 i6; have r7 := cell_later hB2 i7; have r8 := cell_later hB2 i8; have r9 := cell_later hB2 i9; have r10 := cell_later hB2 i10; have r11 := cell_later hB2 i11))
      have hB3 := hB.trans ((Below.drew (Below.refl wr.heap.size wr)).trans hB2 |>.mono hB.size)
      clear e0 e1 e2 e3 e4 e5 e6 e7 e8 e9 e10 e11 i0 i1 i2 i3 i4 i5 i6 i7 i8 i9 i10 i11 s0 s1 s2 s3 s4 s5 s6 s7 s8 s9 s10 s11 r0 r1 r2 r3 r4 r5 r6 r7 r8 r9 r10 r11 hB2 HR HR'
      go_wp2_with fail
      go_roundw
      case rel => exact ⟨k + 1, by omega, by go_num, hB3⟩
      case measure => simp [intOf]; omega
    · clear g5 f5
      go_wp2_with fail
      go_ret
      exact ⟨rfl, hB⟩
end Go.Proofs.YtfhekoipnlmhoaaGreat

/- laws.heldOpS, by its contract. -/
namespace Go.Proofs.YtfhekoipnlmhoaaGreat
open Go.RowKit
set_option linter.unusedVariables false
set_option maxRecDepth 100000

set_option maxHeartbeats 20000000 in
theorem heldOs_any (w : World) (v : Value) (l : List OpV) (k : Int) (h : RdOps w v (mkOs l k)) (hs : cntOs l ≤ 16777216) (h0 : 0 ≤ k) (h1 : k ≤ 900000000) :
    Calls Tryz.prog 22 #[v, .int .i64 k] w fun e w' => e = .returned (.int .i64 (k + (cntOs l : Nat))) ∧ w' = w := by
  have hml := h.1
  rw [mkOs_len] at hml
  unfold maxLen at hml
  have hm' : (l.length : Int) ≤ 9223372036854775807 := by omega
  obtain ⟨hnil, a, cap, rfl⟩ | ⟨b, off, cap, rfl, hnil, g4, g5⟩ := h.cases
  · have e := congrArg List.length hnil
    rw [mkOs_len] at e
    have e' := List.eq_nil_of_length_eq_zero e
    subst e'
    go_enter Tryz.func22, Tryz.ntmps22
    go_wp2_with fail
    refine wp_loop_rounds 1 ?_
    rw [rounds_succ]
    go_wp2_with fail
    go_ret
    exact ⟨by simp [cntOs], rfl⟩
  rw [mkOs_len]
  clear hnil h
  go_enter Tryz.func22, Tryz.ntmps22
  go_wp2_with fail
  go_loop [1, 5] (fun c i => ∃ j : Nat, j ≤ l.length ∧ i = .int .i64 j ∧ c = .int .i64 (k + (cntOs (l.take j) : Nat))) (fun _ i => l.length - (intOf i).toNat)
  case atStart => exact ⟨0, Nat.zero_le _, rfl, by simp [cntOs]⟩
  case round =>
    obtain ⟨j, hj, rfl, rfl⟩ := hrel
    by_cases hjl : j < l.length
    · have hat := mkOs_at l k j hjl (by rw [mkOs_len]; exact hjl)
      obtain ⟨C, hC, hc, hr⟩ := g5 j (by rw [mkOs_len]; exact hjl)
      rw [hat] at hr
      obtain ⟨q, hq⟩ : ∃ q : Int, q = k + (cntOs (l.take j) : Nat) := ⟨_, rfl⟩
      rw [← hq] at hr ⊢
      unfold mkO at hr
      obtain ⟨kv, nv, tv, rfl, hb0, hb1, hb2⟩ := hr
      have e0 := hc 0 (by omega)
      have e1 := hc 1 (by omega)
      have e2 := hc 2 (by omega)
      have e3 := hc 3 (by omega)
      have e4 := hc 4 (by omega)
      have e5 := hc 5 (by omega)
      have e6 := hc 6 (by omega)
      have e7 := hc 7 (by omega)
      have e8 := hc 8 (by omega)
      have e9 := hc 9 (by omega)
      have e10 := hc 10 (by omega)
      have e11 := hc 11 (by omega)
      simp only [List.getElem?_cons_zero, List.getElem?_cons_succ, Nat.add_zero] at e0 e1 e2 e3 e4 e5 e6 e7 e8 e9 e10 e11
      have hct := cntOs_take l j hjl
      have hcl := cntOs_le l (j + 1)
      unfold szO at hct
      simp only at hb0 hb1 hb2
      obtain ⟨p0, k0, rfl, _, _⟩ := hb0.shape
      obtain ⟨p1, k1, rfl, _, _⟩ := hb1.shape
      obtain ⟨p2, k2, rfl, _, _⟩ := hb2.shape
      rw [markz_len] at e7 hb0
      rw [marks_len] at e9 e10 hb1 hb2
      clear hC hat g5 hc
      generalize l[j].key.length = nK at *
      generalize l[j].name.length = nN at *
      generalize l[j].text.length = nT at *
      have hq0 : 0 ≤ q := by omega
      have hq1 : q ≤ 917000000 := by omega
      have hn1 : nK ≤ 16777216 := by omega
      have hn2 : nN ≤ 16777216 := by omega
      have hn3 : nT ≤ 16777216 := by omega
      have HQ := hide hq
      have HCT := hide hct
      have hjl' : (j : Int) < (l.length : Int) := by omega
      have d1 : decide (q + 1 + 1 + 1 + 1 + 1 + 1 + 1 + (nK : Int) < 0) = false := by simp; omega
      have d2 : decide (q + 1 + 1 + 1 + 1 + 1 + 1 + 1 + (nK : Int) + 1 + (nN : Int) < 0) = false := by simp; omega
      have d3 : decide (q + 1 + 1 + 1 + 1 + 1 + 1 + 1 + (nK : Int) + 1 + (nN : Int) + (nT : Int) < 0) = false := by simp; omega
      have H0 := hide (heldZ_any w _ nK (q + 1 + 1 + 1 + 1 + 1 + 1 + 1) hb0 (by omega) (by omega) (by omega))
      have H1 := hide (heldB_any w _ nN (q + 1 + 1 + 1 + 1 + 1 + 1 + 1 + (nK : Int) + 1) hb1 (by omega) (by omega) (by omega))
      have H2 := hide (heldB_any w _ nT (q + 1 + 1 + 1 + 1 + 1 + 1 + 1 + (nK : Int) + 1 + (nN : Int)) hb2 (by omega) (by omega) (by omega))
      clear hq hct hcl hb0 hb1 hb2
      go_wp2_with fail
      refine (unhide H0).mono ?_
      rintro e w ⟨rfl, rfl⟩
      go_wp2_with fail
      refine (unhide H1).mono ?_
      rintro e w ⟨rfl, rfl⟩
      go_wp2_with fail
      refine (unhide H2).mono ?_
      rintro e w ⟨rfl, rfl⟩
      go_wp2_with fail
      all_goals try (exfalso; rename_i hz; simp at hz; done)
      go_round
      case rel => exact ⟨j + 1, by omega, by go_num, by rw [unhide HCT, unhide HQ]; go_num⟩
      case measure => simp [intOf]; omega
    · have e : j = l.length := by omega
      subst e
      clear g5
      go_wp2_with fail
      go_ret
      exact ⟨by simp, rfl⟩
end Go.Proofs.YtfhekoipnlmhoaaGreat

/- laws.markOp, by its contract. -/
namespace Go.Proofs.YtfhekoipnlmhoaaGreat
open Go.RowKit
set_option linter.unusedVariables false
set_option maxRecDepth 100000

theorem Frm.app {a b c : World} {S T : List Nat} (h : Frm a b S) (k : Frm b c T) : Frm a c (S ++ T) := (h.mono fun g hg => List.mem_append_left _ hg).trans (k.mono fun g hg => List.mem_append_right _ hg)
theorem Loc.grown {w w' : World} {g : Nat} {cs : Array Value} {T : TypeId} {row : Option Nat} (h : Loc w g cs T) (hG : w.grownBy w' row) (hne : row ≠ some g) : Loc w' g cs T := by
  have hlt : g < w.heap.size := by
    by_cases hlt : g < w.heap.size
    · exact hlt
    · unfold Loc at h
      rw [Array.getElem?_eq_none (by omega)] at h
      cases h
  exact (hG.block g hlt (fun e => hne e.symm)).trans h
theorem fb_notin {v u : Value} {F : List Nat} (h : (FB v ++ FB u).Nodup) : ∀ g ∈ FB v, g ∉ FB u := fun g hg hu => (List.nodup_append.1 h).2.2 g hg g hu rfl

/-- What markOp lays. -/
def OwMk (w : World) (base : Nat) (k n t : Value) (a b c : Nat) (z : Int) : Prop := OwnZ w base k (markz z a) ∧ Own w base n (marks (z + a) b) ∧ Own w base t (marks (z + a + b) c)

set_option maxHeartbeats 6400000 in
theorem markOp_any (w : World) (base : Nat) (o : OpV) (a1 a2 a3 : Option Addr) (c1 c2 c3 : Nat) (z : Int)
    (h : OwOp w base o (.slice a1 o.key.length c1) (.slice a2 o.name.length c2) (.slice a3 o.text.length c3)) (hs : o.key.length + o.name.length + o.text.length ≤ 2097152) (h0 : 0 ≤ z) (h1 : z ≤ 900000000) :
    Calls Tryz.prog 21 #[opVal o (.slice a1 o.key.length c1) (.slice a2 o.name.length c2) (.slice a3 o.text.length c3), .int .i64 z] w fun e w' => e = .returned (.int .i64 (z + (o.key.length : Int) + (o.name.length : Int) + (o.text.length : Int))) ∧
      OwMk w' base (.slice a1 o.key.length c1) (.slice a2 o.name.length c2) (.slice a3 o.text.length c3) o.key.length o.name.length o.text.length z ∧ Frm w w' (FB (.slice a1 o.key.length c1) ++ FB (.slice a2 o.name.length c2) ++ FB (.slice a3 o.text.length c3)) := by
  obtain ⟨hk, hn, ht, hnd⟩ := h
  have hA0 := (Below.refl w.heap.size w).alloc (Nat.le_refl _) (.cells #[.int .i64 o.kind, .int .i64 o.atN, .int .i64 o.atR, .int .i64 o.nodeN, .int .i64 o.nodeR, .int .i64 o.parN, .int .i64 o.parR, .slice a1 o.key.length c1, .int .i64 o.elem, .slice a2 o.name.length c2, .slice a3 o.text.length c3, .bool o.gone] 28)
  have l0 := Loc.made w #[.int .i64 o.kind, .int .i64 o.atN, .int .i64 o.atR, .int .i64 o.nodeN, .int .i64 o.nodeR, .int .i64 o.parN, .int .i64 o.parR, .slice a1 o.key.length c1, .int .i64 o.elem, .slice a2 o.name.length c2, .slice a3 o.text.length c3, .bool o.gone] 28
  unfold opVal
  go_enter Tryz.func21, Tryz.ntmps21
  go_wp2_with fail
  have nd := List.nodup_append.1 hnd
  have ndk : ∀ g ∈ FB (.slice a1 o.key.length c1), g ∉ FB (.slice a2 o.name.length c2) ∧ g ∉ FB (.slice a3 o.text.length c3) := fun g hg => ⟨fun h => (List.nodup_append.1 nd.1).2.2 g hg g h rfl, fun h => nd.2.2 g (List.mem_append_left _ hg) g h rfl⟩
  have ndn : ∀ g ∈ FB (.slice a2 o.name.length c2), g ∉ FB (.slice a3 o.text.length c3) := fun g hg h => nd.2.2 g (List.mem_append_right _ hg) g h rfl
  have bk := hk.rng
  have bn := hn.rng
  have bt := ht.rng
  have fo : ∀ (v : Value) (g : Nat), v.ownBlock = some g → g ∈ FB v := fun v g h => by simp [FB, h]
  have fl : ∀ (v : Value), v.ownBlock.toList = FB v := fun v => rfl
  have hk0 := hk.keep hA0
  have hn0 := hn.keep hA0
  have ht0 := ht.keep hA0
  clear hk hn ht hnd nd
  generalize (w.alloc (.cells #[.int .i64 o.kind, .int .i64 o.atN, .int .i64 o.atR, .int .i64 o.nodeN, .int .i64 o.nodeR, .int .i64 o.parN, .int .i64 o.parR, .slice a1 o.key.length c1, .int .i64 o.elem, .slice a2 o.name.length c2, .slice a3 o.text.length c3, .bool o.gone] 28)) = w0 at *
  refine (markZ_any w0 base _ o.key z hk0 (by omega) h0 (by omega)).mono ?_
  rintro e w1 ⟨rfl, hk1, hG1⟩
  have f1 := Frm.ofGrown hG1
  rw [fl] at f1
  have l1 := l0.grown hG1 (fun e => by have := bk _ (fo _ _ e); omega)
  have hn1 := hn0.frm f1 (fun g hg h => (ndk g h).1 hg)
  have ht1 := ht0.frm f1 (fun g hg h => (ndk g h).2 hg)
  clear hG1 hn0 ht0 hk0 l0
  obtain ⟨x0, x1, x2, x3, x4, x5, x6, x7, x8, x9, x10, x11⟩ := l1.twelve
  go_wp2_with fail
  clear x0 x1 x2 x3 x4 x5 x6 x7 x8 x9 x10 x11
  refine (markB_any w1 base _ o.name (z + (o.key.length : Int)) hn1 (by omega) (by omega) (by omega)).mono ?_
  rintro e w2 ⟨rfl, hn2, hG2⟩
  have f2 := Frm.ofGrown hG2
  rw [fl] at f2
  have l2 := l1.grown hG2 (fun e => by have := bn _ (fo _ _ e); omega)
  have hk2 := hk1.frm f2 (fun g hg h => (ndk g hg).1 h)
  have ht2 := ht1.frm f2 (fun g hg h => ndn g h hg)
  clear hG2 hn1 ht1 hk1 l1
  obtain ⟨x0, x1, x2, x3, x4, x5, x6, x7, x8, x9, x10, x11⟩ := l2.twelve
  go_wp2_with fail
  clear x0 x1 x2 x3 x4 x5 x6 x7 x8 x9 x10 x11
  refine (markB_any w2 base _ o.text (z + (o.key.length : Int) + (o.name.length : Int)) ht2 (by omega) (by omega) (by omega)).mono ?_
  rintro e w3 ⟨rfl, ht3, hG3⟩
  have f3 := Frm.ofGrown hG3
  rw [fl] at f3
  have hk3 := hk2.frm f3 (fun g hg h => (ndk g hg).2 h)
  have hn3 := hn2.frm f3 (fun g hg h => ndn g hg h)
  have f := (((Frm.ofBelow hA0 []).app f1).app f2).app f3
  clear f1 f2 f3 hG3 ht2 hk2 hn2 l2
  go_wp2_with fail
  go_ret
  exact ⟨rfl, ⟨hk3, hn3, ht3⟩, by simpa using f⟩

end Go.Proofs.YtfhekoipnlmhoaaGreat

/- The laws' own count of how great a row of operations is. -/
namespace Go.Proofs.YtfhekoipnlmhoaaGreat
open Go.RowKit
set_option linter.unusedVariables false
set_option maxRecDepth 100000

theorem ret_i64O {a b : Int} (h : a = b) : Ending.returned (.int .i64 a) = .returned (.int .i64 b) := by rw [h]

set_option maxHeartbeats 1600000 in
theorem szOps_any (w : World) (v : Value) (l : List OpV) (left : Int) (h : RdOps w v l) (h0 : 0 ≤ left) (h1 : left ≤ 1000000000) :
    Calls Tryz.prog 13 #[v, .int .i64 left] w fun e w' => e = .returned (.int .i64 (rest (szOs l) left)) ∧ Below w.heap.size w w' := by
  have hm := h.1
  unfold maxLen at hm
  by_cases h2 : (l.length : Int) ≤ left
  · have hd : ¬ left - (l.length : Int) < 0 := by omega
    obtain ⟨_, ⟨rfl, rfl⟩ | ⟨x, cap, rfl, hc, rfl⟩ | ⟨b, off, cap, rfl, g1, g2, g3, g4, g5⟩⟩ := h
    · go_enter Tryz.func13, Tryz.ntmps13
      go_wp2_with fail
      refine wp_loop_rounds 1 ?_
      rw [rounds_succ]
      go_wp2_with fail
      go_ret
      exact ⟨ret_i64O (by rw [rest_in (by simpa [szOs] using h0)]; simp [szOs]), Below.refl _ _⟩
    · go_enter Tryz.func13, Tryz.ntmps13
      go_wp2_with fail
      refine wp_loop_rounds 1 ?_
      rw [rounds_succ]
      go_wp2_with fail
      go_ret
      exact ⟨ret_i64O (by rw [rest_in (by simpa [szOs] using h0)]; simp [szOs]), Below.refl _ _⟩
    · have HE := hide (rest_rest (b := (l.map szO).sum) h2)
      go_enter Tryz.func13, Tryz.ntmps13
      go_wp2_with fail
      go_loopw [1, 5] (fun q i wr => ∃ k : Nat, k ≤ l.length ∧ i = .int .i64 k ∧ ((sumO l k : Nat) : Int) ≤ left - (l.length : Int) ∧ q = .int .i64 (left - (l.length : Int) - (sumO l k : Nat)) ∧ Below w.heap.size w wr) (fun _ i _ => l.length - (intOf i).toNat)
      case atStart => exact ⟨0, Nat.zero_le _, rfl, by simp [sumO]; omega, by simp [sumO], Below.refl _ _⟩
      case round =>
        obtain ⟨k, hk, rfl, hs, rfl, hB⟩ := hrel
        by_cases hlt : k < l.length
        · obtain ⟨a1, c1, a2, c2, a3, c3, e0, e1, e2, e3, e4, e5, e6, e7, e8, e9, e10, e11, hr⟩ := opc_at hB g4 (g5 k hlt)
          have hlt' : (k : Int) < (l.length : Int) := by omega
          have hst := sumO_step l k hlt
          have hle := sumO_le l (k + 1)
          rw [hst] at hle
          have HR := hide (szOp_any wr _ l[k] (left - (l.length : Int) - (sumO l k : Nat)) hr (by omega) (by omega))
          change Hid (Calls _ _ _ _ fun e w' => e = .returned (.int .i64 (left4 (szO l[k]) _)) ∧ _) at HR
          unfold opVal at HR
          generalize l[k] = o at *
          generalize o.key.length = nK at *
          generalize o.name.length = nN at *
          generalize o.text.length = nT at *
          generalize hq : sumO l k = q at *
          have HQ := hide hq
          have HST := hide hst
          clear g5 hq hst hr
          go_wp2_with fail
          refine (unhide HR).mono ?_
          rintro e w2 ⟨rfl, hB2⟩
          have hB3 := hB.trans (hB2.mono hB.size)
          clear e0 e1 e2 e3 e4 e5 e6 e7 e8 e9 e10 e11 HR
          generalize szO o = m at *
          by_cases h3 : (m : Int) ≤ left - (l.length : Int) - (q : Int)
          · rw [left4_in h3]
            have hd3 : ¬ left - (l.length : Int) - (q : Int) - (m : Int) < 0 := by omega
            go_wp2_with fail
            go_roundw
            case rel => exact ⟨k + 1, by omega, by go_num, by rw [unhide HST]; omega, by rw [unhide HST]; exact congrArg (Value.int .i64) (by omega), hB3⟩
            case measure => simp [intOf]; omega
          · rw [left4_out h3]
            have HF := hide (show rest (szOs l) left = -1 by unfold szOs; rw [unhide HE, rest_out (by omega)])
            go_wp2_with fail
            go_ret
            exact ⟨by rw [unhide HF]; rfl, hB3⟩
        · have e : k = l.length := by omega
          subst e
          rw [sumO_all] at hs ⊢
          have HF := hide (show rest (szOs l) left = left - (l.length : Int) - ((l.map szO).sum : Nat) by unfold szOs; rw [unhide HE, rest_in hs])
          go_wp2_with fail
          go_ret
          exact ⟨by rw [unhide HF]; rfl, hB⟩
  · have HF := hide (show rest (szOs l) left = -1 from rest_bad h2)
    obtain ⟨a, cap, rfl, _, _⟩ := Elems.shape h
    have hd : left - (l.length : Int) < 0 := by omega
    go_enter Tryz.func13, Tryz.ntmps13
    go_wp2_with fail
    go_ret
    exact ⟨by rw [unhide HF]; rfl, Below.refl _ _⟩
end Go.Proofs.YtfhekoipnlmhoaaGreat
