/- Own texts joined: Ins, OwnE, InsO, SetO, Sz, ToT, Tool, PutIn, OpsI, IPut, Mark. -/
import Derived.Test.YtkmmhlimihkgfaaGreatJa
import Derived.Test.YtkmmhlimihkgfaaGreatJb
import Derived.Test.YtkmmhlimihkgfaaGreatJc
import Derived.Test.YtkmmhlimihkgfaaGreatJd
import Derived.Test.YtkmmhlimihkgfaaGreatJe
import Derived.Test.YtkmmhlimihkgfaaGreatJf
import Derived.Lib.AppendZerosOnto
import Derived.Lib.Overlaps
import Derived.Lib.Walk
import Derived.Laws.Externs
import Derived.Laws.NewBlocks
import Derived.Deep.RegionLaw
import Derived.Deep.AppendLies
import Derived.Test.YtkmmhlimihkgfaaGreatChecked

/- slices.Insert of one operation into a row of the call's own. -/
namespace Go.Proofs.YtkmmhlimihkgfaaGreat
open Go.RowKit
set_option linter.unusedVariables false
set_option maxRecDepth 100000

def InsAns (w : World) (v : Value) (n : Nat) (ys : List Value) (e : Ending) (w' : World) : Prop :=
  ∃ g cap, e = .returned (.slice (some ⟨g, 0, none⟩) (n + 1) cap) ∧ w'.ownsRow 0 28 12 (.slice (some ⟨g, 0, none⟩) (n + 1) cap) (n + 1) ys ∧ Frm w w' (FB v) ∧ (v.ownBlock = some g ∨ w.heap.size ≤ g) ∧ g < w'.heap.size

theorem loc_cells {w : World} {g : Nat} {C : List Value} {T : TypeId} (h : Loc w g C.toArray T) (j : Nat) (u : Value) (hj : C[j]? = some u) : w.cell? ((⟨g, 0, none⟩ : Addr).add j) = some u := by
  rw [add_plain, Nat.zero_add, h.cell j]
  simpa using hj

set_option maxHeartbeats 6400000 in
theorem ins_end (w : World) (v : Value) (n vb : Nat) (xs C : List Value) (h : w.ownsRow 0 28 12 v n xs) (hC : C.length = 12) (hl : Loc w vb C.toArray 28) (h1 : ∀ u ∈ C, u.oneCell' = true) (hn : n ≤ 100000) :
    Calls Tryz.prog 92 #[v, .int .i64 n, .slice (some ⟨vb, 0, none⟩) 1 1] w (InsAns w v n (xs ++ C)) := by
  obtain ⟨i0, hi, hz0, hz1, hz2⟩ := info_parts Tryz.info28
  have hcell := loc_cells hl
  have H := hide h
  have hsh : v = .slice none 0 0 ∧ n = 0 ∨ ∃ g cap, v = .slice (some ⟨g, 0, none⟩) n cap ∧ n ≤ cap := by
    rcases h.2 with ⟨rfl, rfl⟩ | ⟨g, cap, cur, rfl, _, _, hc, _⟩
    · exact .inl ⟨rfl, rfl⟩
    · exact .inr ⟨g, cap, rfl, hc⟩
  clear h
  rcases hsh with ⟨rfl, rfl⟩ | ⟨g, cap, rfl, hnc⟩
  · go_enter Tryz.func92, Tryz.ntmps92
    go_wp2_with (at_builtin; refine wpList_append_lies w rfl _ _ 23 rfl 0 28 i0 _ 12 144 Tryz.underlying23 hi hz0 hz1 hz2 rfl (by decide) _ 0 xs rfl (unhide H) ⟨vb, 0, none⟩ 1 1 C rfl (by omega) hcell h1 (by omega) (by unfold maxLen; omega) (by omega) (Nat.zero_le _) w.heap.size rfl ?_; intro g cap w' k1 k2 k3 k4)
    go_ret
    exact ⟨g, cap, rfl, k1, Frm.ofGrown k2, k3.imp id (fun e => by omega), k4⟩
  · go_enter Tryz.func92, Tryz.ntmps92
    go_wp2_with (at_builtin; refine wpList_append_lies w rfl _ _ 23 rfl 0 28 i0 _ 12 144 Tryz.underlying23 hi hz0 hz1 hz2 rfl (by decide) _ n xs rfl (unhide H) ⟨vb, 0, none⟩ 1 1 C rfl (by omega) hcell h1 (by omega) (by unfold maxLen; omega) (by omega) (Nat.zero_le _) w.heap.size rfl ?_; intro g' cap' w' k1 k2 k3 k4)
    all_goals (go_ret; exact ⟨g', cap', rfl, k1, Frm.ofGrown k2, k3.imp id (fun e => by omega), k4⟩)

theorem own_whole {w : World} {g n cap : Nat} {xs : List Value} (h : w.ownsRow 0 28 12 (.slice (some ⟨g, 0, none⟩) n cap) n xs) :
    ∃ R : List Value, Loc w g R.toArray 28 ∧ n ≤ cap ∧ cap ≤ maxLen ∧ R.length = cap * 12 ∧ R.take (n * 12) = xs := by
  rcases h.2 with ⟨h, _⟩ | ⟨g', cap', cur, h, _, hg, a, b, c, d⟩
  · cases h
  · cases h
    exact ⟨cur.toList, by simpa [Loc] using hg, a, b, by simpa using c, d⟩
theorem own_make {w : World} {g n cap : Nat} {R xs : List Value} (h : Loc w g R.toArray 28) (a : n ≤ cap) (b : cap ≤ maxLen) (c : R.length = cap * 12) (d : R.take (n * 12) = xs) : w.ownsRow 0 28 12 (.slice (some ⟨g, 0, none⟩) n cap) n xs := by
  refine ⟨?_, .inr ⟨g, cap, R.toArray, rfl, Nat.zero_le _, h, a, b, by simpa using c, by simpa using d⟩⟩
  have : n * 12 ≤ cap * 12 := Nat.mul_le_mul_right _ a
  rw [← d, List.length_take]; omega

set_option maxHeartbeats 8000000 in
theorem ins_grow (w : World) (g n cap i vb : Nat) (xs C : List Value) (h : w.ownsRow 0 28 12 (.slice (some ⟨g, 0, none⟩) n cap) n xs) (hC : C.length = 12) (hl : Loc w vb C.toArray 28) (h1 : ∀ u ∈ C, u.oneCell' = true) (hx1 : ∀ u ∈ xs, u.oneCell' = true) (hn : n ≤ 100000) (hi : i < n) (hroom : cap < n + 1) :
    Calls Tryz.prog 92 #[.slice (some ⟨g, 0, none⟩) n cap, .int .i64 i, .slice (some ⟨vb, 0, none⟩) 1 1] w (InsAns w (.slice (some ⟨g, 0, none⟩) n cap) n (xs.take (i * 12) ++ (C ++ xs.drop (i * 12)))) := by
  obtain ⟨i0, hi0, hz0, hzs, hzb⟩ := info_parts Tryz.info28
  have hsz : (Tryz.prog.info? 28).map (·.size) = some 12 := by rw [hi0]; simp [hzs]
  have hxl := h.1
  obtain ⟨R0, hg, hnc, hcm, hcs, htk⟩ := own_whole h
  have hcells : ∀ j u, xs[j]? = some u → w.cell? ⟨g, j, none⟩ = some u := fun j u hj => by
    rw [hg.cell j]
    rw [← htk, List.getElem?_take] at hj
    split at hj
    · simpa using hj
    · cases hj
  have hin : i * 12 ≤ n * 12 := Nat.mul_le_mul_right _ (by omega)
  have hold : (Builtin.firstCells i0.size i (.slice (some ⟨g, 0, none⟩) i cap)).run Tryz.prog w.drew = .ok (xs.take (i * 12)).toArray w.drew := by
    rw [hzs]
    exact run_firstCells_some w.drew 12 i ⟨g, 0, none⟩ i cap (xs.take (i * 12)) (by rw [List.length_take]; omega) (fun j v hj => by
      rw [add_plain, Nat.zero_add]
      rw [List.getElem?_take] at hj
      split at hj
      · exact hcells j v hj
      · cases hj)
  have hik : i + (n + 1 - i) = n + 1 := by omega
  have hkk : (n : Int) + 1 - (i : Int) = ((n + 1 - i : Nat) : Int) := by omega
  obtain ⟨z, hz⟩ : ∃ z : Value, z = .agg #[.int .i64 0, .int .i64 0, .int .i64 0, .int .i64 0, .int .i64 0, .int .i64 0, .int .i64 0, .slice none 0 0, .int .i64 0, .slice none 0 0, .slice none 0 0, .bool false] := ⟨_, rfl⟩
  have hzc : z.cells.size = 12 := by rw [hz]; rfl
  rw [← hz] at hz0
  obtain ⟨G, hG⟩ : ∃ G, G = grownCap w (n + 1) cap 28 := ⟨_, rfl⟩
  obtain ⟨R, hR⟩ : ∃ R : List Value, R = ((xs.take (i * 12)).toArray ++ Builtin.zeroCells z.cells (n + 1 - i) ++ Builtin.zeroCells z.cells (G - (n + 1))).toList := ⟨_, rfl⟩
  have hrz : ∀ ty, (Builtin.append_ #[23, 3] ty #[.slice (some ⟨g, 0, none⟩) i cap, .int .i64 ((n : Int) + 1 - (i : Int))]).run Tryz.prog w = .ok (.slice (some ⟨w.heap.size, 0, none⟩) (n + 1) G) (w.drew.alloc (.cells R.toArray 28)) := by
    intro ty
    have h := Lib.run_append_grow_zeros w 23 3 ty 28 i0 z .i64 .i64 Tryz.underlying23 Tryz.underlying3 hi0 hz0 (some ⟨g, 0, none⟩) i cap (xs.take (i * 12)) hold (n + 1 - i) (by omega) (by omega) (by omega) (by omega) (by rw [hzb]; omega) (by rw [hzb, hik]; exact growslice_fits hroom (by omega))
    rw [hik, ← hG] at h
    rw [hkk, hR, Array.toArray_toList]
    exact h
  have hGn : n + 1 ≤ G := by rw [hG]; exact grownCap_ge w _ _ _
  have hGm : G ≤ maxLen := by rw [hG]; exact grownCap_le_maxLen w (n + 1) cap 28 (by unfold maxLen; omega)
  have hRl : R.length = G * 12 := by
    rw [hR]
    simp [Builtin.zeroCells, hzc, List.length_take]
    omega
  have hRt : R.take (i * 12) = xs.take (i * 12) := by
    rw [hR]
    simp [List.take_append, List.length_take]
    have e : i * 12 - min (i * 12) xs.length = 0 := by omega
    rw [e]
    simp [List.take_take]
  have hdl : (xs.drop (i * 12)).length = (n - i) * 12 := by rw [List.length_drop]; omega
  have hGi : ¬ (G = i) := by omega
  have hGim : ¬ (G = i + 1) := by omega
  have hci : ¬ (cap = i) := by omega
  have hG63 : G ≤ 9223372036854775807 := by unfold maxLen at hGm; omega
  have hW1 : ((w.alloc (.cells R.toArray 28)).drew).heap[w.heap.size]? = some (.cells R.toArray 28 (0, 0)) := heap_alloc_new w _
  have hlv : Loc (w.alloc (.cells R.toArray 28)).drew vb C.toArray 28 := hl.alloc _
  have hgo : Loc (w.alloc (.cells R.toArray 28)).drew g R0.toArray 28 := hg.alloc _
  have hfa : Frm w (w.alloc (.cells R.toArray 28)).drew [] := ⟨rfl, rfl, rfl, by simp [World.drew], fun k hk _ => heap_alloc_old w _ hk⟩
  have hglt := hg.lt
  have hvlt := hl.lt
  clear hold hkk hik hR hG h hcells
  go_enter Tryz.func92, Tryz.ntmps92
  go_wp2_with (first
    | (at_builtin; refine Lib.wpList_append_run _ rfl _ _ _ _ rfl _ _ rfl rfl _ _ (hrz _) ?_)
    | (refine wpList_copyw rfl _ _ 23 23 rfl 28 12 Tryz.underlying23 hsz w.heap.size (i * 12) (n + 1 - i) (G - i) ⟨vb, 0, none⟩ 1 1 ?_ ?_ R 28 ?_ C 1 (by simp only [Nat.min_def]; split <;> omega) (by omega) ?_ (by omega) h1 ?_; rfl; rfl; exact hW1; exact loc_cells hlv; intro w2 hg2 hf2))
  have hg2' := unhide hg2
  have hgo2 := hgo.frm hf2 (by simp; omega)
  have hcells2 : ∀ j u, (xs.drop (i * 12))[j]? = some u → w2.cell? ((⟨g, i * 12, none⟩ : Addr).add j) = some u := fun j u hj => by
    rw [add_plain, hgo2.cell]
    rw [List.getElem?_drop, ← htk, List.getElem?_take] at hj
    split at hj
    · simpa using hj
    · cases hj
  have hsl : (splice R (i * 12) C).length = G * 12 := by rw [length_splice _ _ _ (by omega)]; exact hRl
  have hd1 : ∀ u ∈ xs.drop (i * 12), u.oneCell' = true := fun u hu => hx1 u (List.mem_of_mem_drop hu)
  have HM := hide (show n - i = Nat.min (n - i) (n - i) by simp only [Nat.min_def]; split <;> omega)
  have hb1 : (0 : Int) ≤ (i : Int) + 1 := by omega
  have hin' : i ≤ n := by omega
  have hb3 : (i : Int) ≤ (n : Int) := by omega
  have hgd : w2.drew.heap[w.heap.size]? = some (.cells (splice R (i * 12) C).toArray 28 (0, 0)) := hg2'
  have hcd : ∀ j u, (xs.drop (i * 12))[j]? = some u → w2.drew.cell? ((⟨g, i * 12, none⟩ : Addr).add j) = some u := hcells2
  have hw1 : IntKind.i64.wrap ((i : Int) + 1) = (i : Int) + 1 := by rw [IntKind.wrap_i64]; omega
  have htn : ((i : Int) + 1).toNat = i + 1 := by omega
  clear hrz hW1 hlv
  go_region_law (refine step_copyw rfl _ _ 23 23 rfl 28 12 Tryz.underlying23 hsz w.heap.size ((i + 1) * 12) (n - i) (G - (i + 1)) ⟨g, i * 12, none⟩ (n - i) (cap - i) (by simp [Act.eval, Act.put]) (by simp [Act.eval, Act.put]) (splice R (i * 12) C) 28 hgd (xs.drop (i * 12)) (n - i) (unhide HM) hdl hcd (by omega) hd1 ?_; intro w3 hg3 hf3)
  go_wp2
  go_ret
  have hfin := ins_new R C (xs.drop (i * 12)) (i * 12) 12 ((n - i) * 12) hC hdl (by omega)
  rw [hRt] at hfin
  have hg3' : Loc w3 w.heap.size (splice (splice R (i * 12) C) (i * 12 + 12) (xs.drop (i * 12))).toArray 28 := by
    have := unhide hg3
    rw [show (i + 1) * 12 = i * 12 + 12 by omega] at this
    exact this
  refine ⟨w.heap.size, G, rfl, own_make hg3' hGn hGm (by rw [length_splice _ _ _ (by omega)]; exact hsl) ?_, ?_, .inr (Nat.le_refl _), hg3'.lt⟩
  · rw [← hfin]; congr 1; omega
  · have f2 : Frm w w2 [] := hfa.new hf2 (fun q hq => by simp at hq; omega)
    have f3 : Frm w w3 [] := f2.new (⟨hf3.os, hf3.tape, hf3.output, hf3.size, hf3.block⟩ : Frm w2 w3 [w.heap.size]) (fun q hq => by simp at hq; omega)
    exact f3.mono (fun q hq => by simp at hq)

theorem loc_shape {w : World} {g : Nat} {C : List Value} {T : TypeId} (h : Loc w g C.toArray T) : w.shape? g = some (T, C.length) := by
  unfold Loc at h
  simp [World.shape?, h]

set_option maxHeartbeats 8000000 in
theorem ins_shift (w : World) (g n cap i vb : Nat) (xs C : List Value) (h : w.ownsRow 0 28 12 (.slice (some ⟨g, 0, none⟩) n cap) n xs) (hC : C.length = 12) (hl : Loc w vb C.toArray 28) (h1 : ∀ u ∈ C, u.oneCell' = true) (hx1 : ∀ u ∈ xs, u.oneCell' = true) (hn : n ≤ 100000) (hi : i < n) (hroom : n + 1 ≤ cap) (hvb : vb ≠ g) :
    Calls Tryz.prog 92 #[.slice (some ⟨g, 0, none⟩) n cap, .int .i64 i, .slice (some ⟨vb, 0, none⟩) 1 1] w (InsAns w (.slice (some ⟨g, 0, none⟩) n cap) n (xs.take (i * 12) ++ (C ++ xs.drop (i * 12)))) := by
  obtain ⟨i0, hi0, hz0, hzs, hzb⟩ := info_parts Tryz.info28
  have hsz : (Tryz.prog.info? 28).map (·.size) = some 12 := by rw [hi0]; simp [hzs]
  have hsz' : ∀ w, (sizeOf 28).run Tryz.prog w = .ok 12 w := fun w => by simp [sizeOf, typeInfo, hi0, hzs]
  have hxl := h.1
  obtain ⟨R0, hg, hnc, hcm, hcs, htk⟩ := own_whole h
  have hov : ∀ lb cb, (callFunc 126 #[.slice (some ⟨vb, 0, none⟩) 1 1, .slice (some ⟨g, (i + 1) * 12, none⟩) lb cb]).run Tryz.prog w = .ok (.value (.bool false)) w := fun lb cb => by
    rw [run_callFunc_extern Tryz.func126 (by kernel_rfl) (by kernel_rfl) (by kernel_rfl) (e := Extern.SlicesOverlaps.overlaps #[23, 23] #[4]) (by kernel_rfl),
      Lib.run_overlaps_apart w 23 4 28 Tryz.underlying23 12 hsz' ⟨vb, 0, none⟩ ⟨g, (i + 1) * 12, none⟩ 1 1 lb cb hvb _ _ _ _ (loc_shape hl) (loc_shape hg) (by rw [hcs]; omega) (hl.frozen 0) (hl.frozen _)]
    rfl
  have hin : i * 12 ≤ n * 12 := Nat.mul_le_mul_right _ (by omega)
  have hRt : R0.take (i * 12) = xs.take (i * 12) := by rw [← htk, List.take_take, Nat.min_eq_left (by omega)]
  have hdl : (xs.drop (i * 12)).length = (n - i) * 12 := by rw [List.length_drop]; omega
  have hd1 : ∀ u ∈ xs.drop (i * 12), u.oneCell' = true := fun u hu => hx1 u (List.mem_of_mem_drop hu)
  have hcells : ∀ j u, (xs.drop (i * 12))[j]? = some u → w.drew.cell? ((⟨g, i * 12, none⟩ : Addr).add j) = some u := fun j u hj => by
    have : w.cell? ((⟨g, i * 12, none⟩ : Addr).add j) = some u := by
      rw [add_plain, hg.cell]
      rw [List.getElem?_drop, ← htk, List.getElem?_take] at hj
      split at hj
      · simpa using hj
      · cases hj
    exact this
  have hgd : w.drew.heap[g]? = some (.cells R0.toArray 28 (0, 0)) := hg
  have hfd : Frm w w.drew [] := ⟨rfl, rfl, rfl, Nat.le_refl _, fun _ _ _ => rfl⟩
  have hld : Loc w.drew vb C.toArray 28 := hl
  have HM := hide (show n - i = Nat.min (n + 1 - i) (n - i) by simp only [Nat.min_def]; split <;> omega)
  have HM2 := hide (show 1 = Nat.min 1 (n + 1 - i) by simp only [Nat.min_def]; split <;> omega)
  have hw1 : IntKind.i64.wrap ((i : Int) + 1) = (i : Int) + 1 := by rw [IntKind.wrap_i64]; omega
  have htn : ((i : Int) + 1).toNat = i + 1 := by omega
  have hb1 : (0 : Int) ≤ (i : Int) + 1 := by omega
  have hin' : i ≤ n := by omega
  have hb3 : (i : Int) ≤ (n : Int) := by omega
  have hb2 : ¬ (cap = i + 1) := by omega
  have hb4 : ¬ (cap = i) := by omega
  have hb5 : (i : Int) ≤ (n : Int) + 1 := by omega
  have hc63 : cap ≤ 9223372036854775807 := by unfold maxLen at hcm; omega
  have hlen := length_splice R0 ((i + 1) * 12) (xs.drop (i * 12)) (by omega)
  clear h
  go_enter Tryz.func92, Tryz.ntmps92
  go_wp2_with (simp only [hov])
  go_region_law (refine step_copyw rfl _ _ 23 23 rfl 28 12 Tryz.underlying23 hsz g ((i + 1) * 12) (n - i) (cap - (i + 1)) ⟨g, i * 12, none⟩ (n + 1 - i) (cap - i) (by simp [Act.eval, Act.put]) (by simp [Act.eval, Act.put]) R0 28 hgd (xs.drop (i * 12)) (n - i) (unhide HM) hdl hcells (by omega) hd1 ?_; intro w3 hg3 hf3)
  have hg3' := unhide hg3
  have hl3 : Loc w3 vb C.toArray 28 := hld.frm hf3 (by simpa using hvb)
  go_wp2_with (refine wpList_copyw rfl _ _ 23 23 rfl 28 12 Tryz.underlying23 hsz g (i * 12) (n + 1 - i) (cap - i) ⟨vb, 0, none⟩ 1 1 ?_ ?_ (splice R0 ((i + 1) * 12) (xs.drop (i * 12))) 28 ?_ C 1 (unhide HM2) (by omega) ?_ (by omega) h1 ?_; rfl; rfl; exact hg3'; exact loc_cells hl3; intro w4 hg4 hf4)
  go_ret
  have hfin := ins_up R0 C (xs.drop (i * 12)) (i * 12) 12 ((n - i) * 12) hC hdl (by omega)
  rw [hRt] at hfin
  have hg4' : Loc w4 g (splice (splice R0 (i * 12 + 12) (xs.drop (i * 12))) (i * 12) C).toArray 28 := by
    have := unhide hg4
    rw [show (i + 1) * 12 = i * 12 + 12 by omega] at this
    exact this
  refine ⟨g, cap, rfl, own_make hg4' hroom hcm ?_ ?_, ?_, .inl rfl, hg4'.lt⟩
  · rw [show (i + 1) * 12 = i * 12 + 12 by omega] at hlen
    rw [length_splice _ _ _ (by omega), hlen]; exact hcs
  · rw [← hfin]; congr 1; omega
  · exact ((hfd.mono (fun q hq => by simp at hq)).trans hf3).trans hf4
end Go.Proofs.YtkmmhlimihkgfaaGreat

/- Rows of elements of a call's own: a cell of one, its blocks apart. No program. -/
namespace Go.Proofs.YtkmmhlimihkgfaaGreat
open Go.RowKit
set_option linter.unusedVariables false

/-- A cell of a row of elements. -/
theorem own_cellAt {w : World} {base g n cap size : Nat} {e : TypeId} {Cs : List (List Value)} (h : w.ownsRow base e size (.slice (some ⟨g, 0, none⟩) n cap) n Cs.flatten) (hC : ∀ i, i < Cs.length → (Cs.getD i []).length = size) (hl : Cs.length = n) (i j : Nat) (hi : i < n) (hj : j < size) :
    w.cell? ⟨g, i * size + j, none⟩ = (Cs.getD i [])[j]? := by
  have hlt : i * size + j < n * size := by
    have : (i + 1) * size ≤ n * size := Nat.mul_le_mul_right _ hi
    rw [Nat.succ_mul] at this; omega
  rw [h.cellAt (i * size + j) hlt]
  exact flat_at Cs size hC i j (by omega) hj
theorem nodup_part {a b : List Nat} (h : (a ++ b).Nodup) : ∀ g ∈ a, g ∉ b := fun g ha hb => by
  rw [List.nodup_append] at h
  exact h.2.2 g ha g hb rfl
theorem nodup_flat : ∀ {Fs : List (List Nat)} {i j : Nat}, Fs.flatten.Nodup → i ≠ j → ∀ g ∈ Fs.getD i [], g ∉ Fs.getD j []
  | [], i, j, _, _, g, hg, _ => by simp at hg
  | F :: Fs, i, j, h, hij, g, hg, hg' => by
    rw [List.flatten_cons] at h
    have h2 := List.nodup_append.1 h
    cases i with
    | zero =>
      cases j with
      | zero => exact hij rfl
      | succ j =>
        simp only [List.getD_cons_zero] at hg
        simp only [List.getD_cons_succ] at hg'
        exact h2.2.2 g hg g (mem_flat hg') rfl
    | succ i =>
      cases j with
      | zero =>
        simp only [List.getD_cons_zero] at hg'
        simp only [List.getD_cons_succ] at hg
        exact h2.2.2 g hg' g (mem_flat hg) rfl
      | succ j =>
        simp only [List.getD_cons_succ] at hg hg'
        exact nodup_flat (i := i) (j := j) h2.2.1 (by omega) g hg hg'
theorem nodup_at : ∀ {Fs : List (List Nat)} {i : Nat}, Fs.flatten.Nodup → (Fs.getD i []).Nodup
  | [], i, _ => by simp
  | F :: Fs, i, h => by
    rw [List.flatten_cons] at h
    have h2 := List.nodup_append.1 h
    cases i with
    | zero => simpa using h2.1
    | succ i => simpa using nodup_at (i := i) h2.2.1
theorem own_grown_frm {w w' : World} {v : Value} (h : w.grownBy w' v.ownBlock) : Frm w w' (FB v) := Frm.ofGrown h

theorem own_nil_shape {w : World} {base : Nat} {e : TypeId} {size n : Nat} {v : Value} {xs : List Value} (h : w.ownsRow base e size v n xs) : ∃ a cap, v = .slice a n cap := by
  rcases h.2 with ⟨rfl, rfl⟩ | ⟨g, cap, cur, rfl, _⟩
  · exact ⟨_, _, rfl⟩
  · exact ⟨_, _, rfl⟩

theorem flat_put (size : Nat) (D : List Value) (hD : D.length = size) (i : Nat) (hi : i < size) (v : Value) : ∀ (Ds : List (List Value)) (j : Nat), (∀ i, i < Ds.length → (Ds.getD i []).length = size) → j < Ds.length → (Ds.set j (D.set i v)).flatten = (Ds.set j D).flatten.set (j * size + i) v
  | [], j, _, hj => by simp at hj
  | C :: Ds, 0, _, _ => by
    simp only [List.set_cons_zero, List.flatten_cons, Nat.zero_mul, Nat.zero_add]
    rw [List.set_append_left _ _ (by omega)]
  | C :: Ds, j + 1, h, hj => by
    have h0 : C.length = size := by simpa using h 0 (by simp)
    have e : (j + 1) * size + i = C.length + (j * size + i) := by rw [h0, Nat.succ_mul]; omega
    rw [List.set_cons_succ, List.set_cons_succ, List.flatten_cons, List.flatten_cons, e, List.set_append_right _ _ (by omega), Nat.add_sub_cancel_left]
    rw [flat_put size D hD i hi v Ds j (fun k hk => by simpa using h (k + 1) (by simpa using hk)) (by simpa using hj)]

/-- A row of elements of the call's own whose j-th is D. -/
structure RowJ (w : World) (T : TypeId) (size g n cap : Nat) (Ds : List (List Value)) (j : Nat) (D : List Value) : Prop where
  lenD : D.length = size
  lenDs : Ds.length = n
  lens : ∀ i, i < Ds.length → (Ds.getD i []).length = size
  lt : j < n
  row : w.ownsRow 0 T size (.slice (some ⟨g, 0, none⟩) n cap) n (Ds.set j D).flatten
theorem getD_set_at {α : Type} (Ds : List (List α)) (j : Nat) (D : List α) (h : j < Ds.length) : (Ds.set j D).getD j [] = D := by
  simp [List.getD_eq_getElem?_getD, h]
theorem getD_set_ne {α : Type} (Ds : List (List α)) (i j : Nat) (D : List α) (h : i ≠ j) : (Ds.set j D).getD i [] = Ds.getD i [] := by
  simp [List.getD_eq_getElem?_getD, Ne.symm h]
theorem RowJ.lens' {w : World} {T : TypeId} {size g n cap : Nat} {Ds : List (List Value)} {j : Nat} {D : List Value} (h : RowJ w T size g n cap Ds j D) : ∀ i, i < (Ds.set j D).length → ((Ds.set j D).getD i []).length = size := fun i hi => by
  by_cases e : i = j
  · subst e; rw [getD_set_at _ _ _ (by rw [h.lenDs]; exact h.lt)]; exact h.lenD
  · rw [getD_set_ne _ _ _ _ e]; exact h.lens i (by simpa using hi)
theorem RowJ.cell {w : World} {T : TypeId} {size g n cap : Nat} {Ds : List (List Value)} {j : Nat} {D : List Value} (h : RowJ w T size g n cap Ds j D) (i : Nat) (hi : i < size) : w.cell? ⟨g, j * size + i, none⟩ = D[i]? := by
  have := own_cellAt h.row h.lens' (by simp [h.lenDs]) j i h.lt hi
  rw [getD_set_at _ _ _ (by rw [h.lenDs]; exact h.lt)] at this
  exact this
theorem RowJ.put {w : World} {T : TypeId} {size g n cap : Nat} {Ds : List (List Value)} {j : Nat} {D : List Value} (h : RowJ w T size g n cap Ds j D) (i : Nat) (hi : i < size) (v : Value) : RowJ (w.setCell ⟨g, j * size + i, none⟩ v) T size g n cap Ds j (D.set i v) :=
  ⟨by rw [List.length_set]; exact h.lenD, h.lenDs, h.lens, h.lt, by
    rw [flat_put size D h.lenD i hi v Ds j h.lens (by rw [h.lenDs]; exact h.lt)]
    exact (h.row.stored (j * size + i) v).1⟩
theorem RowJ.frozen {w : World} {T : TypeId} {size g n cap : Nat} {Ds : List (List Value)} {j : Nat} {D : List Value} (h : RowJ w T size g n cap Ds j D) (i : Nat) : w.frozen? ⟨g, i, none⟩ = false := h.row.frozenAt i
theorem RowJ.frm {w w' : World} {T : TypeId} {size g n cap : Nat} {Ds : List (List Value)} {j : Nat} {D : List Value} {S : List Nat} (h : RowJ w T size g n cap Ds j D) (f : Frm w w' S) (hg : g ∉ S) : RowJ w' T size g n cap Ds j D :=
  ⟨h.lenD, h.lenDs, h.lens, h.lt, ownsRow_frm h.row f (fun p hp => by
    have : p = g := by simpa [FB, Value.ownBlock] using hp
    rw [this]; exact hg)⟩
theorem RowJ.start {w : World} {T : TypeId} {size g n cap : Nat} {Ds : List (List Value)} (hl : Ds.length = n) (h : ∀ i, i < Ds.length → (Ds.getD i []).length = size) (j : Nat) (hj : j < n) (hr : w.ownsRow 0 T size (.slice (some ⟨g, 0, none⟩) n cap) n Ds.flatten) : RowJ w T size g n cap Ds j (Ds.getD j []) :=
  ⟨h j (by omega), hl, h, hj, by
    have e : Ds.set j (Ds.getD j []) = Ds := by
      apply List.ext_getElem?
      intro i
      rw [List.getElem?_set]
      split
      · rename_i e; subst e
        rw [if_pos (by omega), List.getD_eq_getElem?_getD, List.getElem?_eq_getElem (by omega)]; rfl
      · rfl
    rw [e]; exact hr⟩
end Go.Proofs.YtkmmhlimihkgfaaGreat

/- Rows of operations of a call's own: one more put in between, one put in another's place. -/
namespace Go.Proofs.YtkmmhlimihkgfaaGreat
open Go.RowKit
set_option linter.unusedVariables false
set_option maxRecDepth 100000

theorem flat_takeI (size : Nat) : ∀ (Cs : List (List Value)) (i : Nat), (∀ k, k < Cs.length → (Cs.getD k []).length = size) → i ≤ Cs.length → (Cs.take i).flatten = Cs.flatten.take (i * size) ∧ (Cs.drop i).flatten = Cs.flatten.drop (i * size)
  | Cs, 0, _, _ => by simp
  | [], i + 1, _, h => by simp at h
  | C :: Cs, i + 1, hl, h => by
    have h0 : C.length = size := by simpa using hl 0 (by simp)
    obtain ⟨a, b⟩ := flat_takeI size Cs i (fun k hk => by simpa using hl (k + 1) (by simpa using hk)) (by simpa using h)
    have e : (i + 1) * size = C.length + i * size := by rw [h0, Nat.succ_mul]; omega
    constructor
    · rw [List.take_succ_cons, List.flatten_cons, List.flatten_cons, e, List.take_length_add_append, a]
    · rw [List.drop_succ_cons, List.flatten_cons, e, List.drop_length_add_append, b]
theorem getD_ins {α : Type} (l : List (List α)) (x : List α) (i k : Nat) (hi : i ≤ l.length) : (l.take i ++ (x :: l.drop i)).getD k [] = if k < i then l.getD k [] else if k = i then x else l.getD (k - 1) [] := by
  have hl : (l.take i).length = i := by simp; omega
  rw [List.getD_eq_getElem?_getD, List.getElem?_append, hl]
  by_cases h1 : k < i
  · rw [if_pos h1, if_pos h1, List.getElem?_take, if_pos h1, List.getD_eq_getElem?_getD]
  · rw [if_neg h1, if_neg h1]
    by_cases h2 : k = i
    · subst h2; simp
    · rw [if_neg h2, show k - i = (k - i - 1) + 1 by omega, List.getElem?_cons_succ, List.getElem?_drop, List.getD_eq_getElem?_getD]
      congr 2
      omega
theorem get_ins {α : Type} (l : List α) (x : α) (i k : Nat) (hi : i ≤ l.length) (hk : k < (l.take i ++ (x :: l.drop i)).length) : (∃ h : k < l.length, k < i ∧ (l.take i ++ (x :: l.drop i))[k] = l[k]) ∨ (k = i ∧ (l.take i ++ (x :: l.drop i))[k] = x) ∨ (∃ h : k - 1 < l.length, i < k ∧ (l.take i ++ (x :: l.drop i))[k] = l[k - 1]) := by
  have hl : (l.take i).length = i := by simp; omega
  have hk' : k < l.length + 1 := by simp at hk; omega
  by_cases h1 : k < i
  · refine .inl ⟨by omega, h1, ?_⟩
    rw [List.getElem_append_left (by omega), List.getElem_take]
  · by_cases h2 : k = i
    · subst h2
      refine .inr (.inl ⟨rfl, ?_⟩)
      rw [List.getElem_append_right (by omega)]
      simp [hl]
    · refine .inr (.inr ⟨by omega, by omega, ?_⟩)
      have : (l.take i ++ (x :: l.drop i))[k]? = l[k - 1]? := by
        rw [List.getElem?_append_right (by omega), hl, show k - i = (k - i - 1) + 1 by omega, List.getElem?_cons_succ, List.getElem?_drop]
        congr 1
        omega
      rw [List.getElem?_eq_getElem hk, List.getElem?_eq_getElem (by omega)] at this
      exact Option.some.inj this
theorem flat_ins_mem {Fs : List (List Nat)} {G : List Nat} {i q : Nat} : q ∈ (Fs.take i ++ (G :: Fs.drop i)).flatten ↔ q ∈ Fs.flatten ∨ q ∈ G := by
  have e : Fs.flatten = (Fs.take i).flatten ++ (Fs.drop i).flatten := by rw [← List.flatten_append, List.take_append_drop]
  rw [List.flatten_append, List.flatten_cons, e]
  simp only [List.mem_append]
  constructor
  · rintro (h | h | h)
    · exact .inl (.inl h)
    · exact .inr h
    · exact .inl (.inr h)
  · rintro ((h | h) | h)
    · exact .inl h
    · exact .inr (.inr h)
    · exact .inr (.inl h)
theorem flat_ins_nodup {Fs : List (List Nat)} {G : List Nat} {i : Nat} (h : Fs.flatten.Nodup) (hG : G.Nodup) (hd : ∀ q ∈ Fs.flatten, q ∉ G) : (Fs.take i ++ (G :: Fs.drop i)).flatten.Nodup := by
  have e : Fs.flatten = (Fs.take i).flatten ++ (Fs.drop i).flatten := by rw [← List.flatten_append, List.take_append_drop]
  rw [e] at h hd
  have h' := List.nodup_append.1 h
  rw [List.flatten_append, List.flatten_cons]
  refine List.nodup_append.2 ⟨h'.1, List.nodup_append.2 ⟨hG, h'.2.1, fun a ha b hb e => hd b (List.mem_append_right _ hb) (e ▸ ha)⟩, fun a ha b hb e => ?_⟩
  rcases List.mem_append.1 hb with hb | hb
  · exact hd a (List.mem_append_left _ ha) (e ▸ hb)
  · exact h'.2.2 a ha b hb e
theorem OwOps.ltI {w : World} {v : Value} {l : List OpV} {F : List Nat} (h : OwOps w v l F) : ∀ q ∈ F, q < w.heap.size := by
  obtain ⟨Cs, Fs, e1, e2, e3, e4, rfl⟩ := h
  intro q hq
  rcases List.mem_append.1 hq with hq | hq
  · exact (e4.lt q (by simpa [FB] using hq)).2
  · obtain ⟨F, hF, hq⟩ := List.mem_flatten.1 hq
    obtain ⟨i, hi, rfl⟩ := List.getElem_of_mem hF
    obtain ⟨k, n, t, _, a, b, c, e⟩ := (e3 i (by omega)).2
    have e' : Fs.getD i [] = Fs[i] := by simp [List.getD_eq_getElem?_getD, hi]
    rw [e'] at e
    rw [e] at hq
    simp only [List.mem_append] at hq
    rcases hq with (hq | hq) | hq
    · exact (a.rng q hq).2
    · exact (b.rng q hq).2
    · exact (c.rng q hq).2
theorem owc_one {w : World} {C : List Value} {o : OpV} {F : List Nat} (h : OwOpC w C o F) : ∀ u ∈ C, u.oneCell' = true := by
  obtain ⟨k, n, t, e, h1, h2, h3, _⟩ := h
  exact opc_one ⟨k, n, t, e, h1.ints, h2.byt, h3.byt⟩
theorem owc_len {w : World} {C : List Value} {o : OpV} {F : List Nat} (h : OwOpC w C o F) : C.length = 12 := by
  obtain ⟨k, n, t, rfl, _⟩ := h; rfl

/-- slices.Insert of an operation that owns its rows into a row of the call's own. -/
theorem insO_any (w : World) (v : Value) (l : List OpV) (F : List Nat) (i vb : Nat) (C : List Value) (o : OpV) (G : List Nat) (h : OwOps w v l F) (hN : F.Nodup) (hi : i ≤ l.length) (hn : l.length ≤ 100000)
    (hl : Loc w vb C.toArray 28) (ho : OwOpC w C o G) (hG : G.Nodup) (hFG : ∀ q ∈ F, q ∉ G) (hvF : vb ∉ F) :
    Calls Tryz.prog 92 #[v, .int .i64 i, .slice (some ⟨vb, 0, none⟩) 1 1] w fun e w' => ∃ u F', e = .returned u ∧ OwOps w' u (l.take i ++ (o :: l.drop i)) F' ∧ F'.Nodup ∧ (∀ q ∈ F', q ∈ F ∨ q ∈ G ∨ (w.heap.size ≤ q ∧ q < w'.heap.size)) ∧ Frm w w' (FB v) := by
  have hlt := h.ltI
  have hR := h.rd
  obtain ⟨Cs, Fs, e1, e2, e3, e4, rfl⟩ := h
  have hC : ∀ k, k < Cs.length → (Cs.getD k []).length = 12 := fun k hk => (e3 k (by omega)).1
  have hx1 : ∀ u ∈ Cs.flatten, u.oneCell' = true := by
    intro u hu
    obtain ⟨D, hD, hu⟩ := List.mem_flatten.1 hu
    obtain ⟨k, hk, rfl⟩ := List.getElem_of_mem hD
    have e' : Cs.getD k [] = Cs[k] := by simp [List.getD_eq_getElem?_getD, hk]
    have := (e3 k (by omega)).2
    rw [e'] at this
    exact owc_one this u hu
  have hmain : Calls Tryz.prog 92 #[v, .int .i64 i, .slice (some ⟨vb, 0, none⟩) 1 1] w (InsAns w v l.length (Cs.flatten.take (i * 12) ++ (C ++ Cs.flatten.drop (i * 12)))) := by
    by_cases hin : i = l.length
    · have e : i * 12 = Cs.flatten.length := by rw [e4.1, hin]
      rw [e, List.take_length, List.drop_length, List.append_nil, hin]
      exact ins_end w v l.length vb _ C e4 (owc_len ho) hl (owc_one ho) hn
    · rcases e4.2 with ⟨rfl, h0⟩ | ⟨g, cap, cur, rfl, _, hg, hnc, _⟩
      · omega
      · by_cases hroom : cap < l.length + 1
        · exact ins_grow w g l.length cap i vb _ C e4 (owc_len ho) hl (owc_one ho) hx1 hn (by omega) hroom
        · exact ins_shift w g l.length cap i vb _ C e4 (owc_len ho) hl (owc_one ho) hx1 hn (by omega) (by omega) (fun e => hvF (List.mem_append_left _ (by simp [FB, Value.ownBlock, e])))
  refine hmain.mono ?_
  rintro e w' ⟨g, cap, rfl, k1, k2, k3, k4⟩
  have hFd : ∀ q ∈ Fs.flatten, q ∉ FB v := fun q hq hv => (List.nodup_append.1 hN).2.2 q hv q hq rfl
  have hGd : ∀ q ∈ G, q ∉ FB v := fun q hq hv => hFG q (List.mem_append_left _ hv) hq
  obtain ⟨t1, t2⟩ := flat_takeI 12 Cs i hC (by omega)
  refine ⟨_, FB (.slice (some ⟨g, 0, none⟩) (l.length + 1) cap) ++ (Fs.take i ++ (G :: Fs.drop i)).flatten, rfl, ⟨Cs.take i ++ (C :: Cs.drop i), Fs.take i ++ (G :: Fs.drop i), by simp; omega, by simp; omega, fun k hk => ?_, ?_, ?_⟩, ?_, ?_, k2⟩
  · rw [getD_ins Cs C i k (by omega), getD_ins Fs G i k (by omega)]
    rcases get_ins l o i k hi hk with ⟨h, hlt', e⟩ | ⟨rfl, e⟩ | ⟨h, hlt', e⟩
    · rw [e, if_pos hlt', if_pos hlt']
      exact ⟨(e3 k h).1, (e3 k h).2.frm k2 (fun q hq => hFd q (mem_flat hq))⟩
    · rw [e, if_neg (Nat.lt_irrefl _), if_pos rfl, if_neg (Nat.lt_irrefl _), if_pos rfl]
      exact ⟨owc_len ho, ho.frm k2 hGd⟩
    · rw [e, if_neg (by omega), if_neg (by omega), if_neg (by omega), if_neg (by omega)]
      exact ⟨(e3 _ h).1, (e3 _ h).2.frm k2 (fun q hq => hFd q (mem_flat hq))⟩
  · have e : (l.take i ++ (o :: l.drop i)).length = l.length + 1 := by simp; omega
    rw [e, List.flatten_append, List.flatten_cons, t1, t2]
    exact k1
  · have e : (l.take i ++ (o :: l.drop i)).length = l.length + 1 := by simp; omega
    rfl
  · refine List.nodup_append.2 ⟨FB_nodup _, flat_ins_nodup (List.nodup_append.1 hN).2.1 hG (fun q hq => hFG q (List.mem_append_right _ hq)), fun a ha b hb e => ?_⟩
    have ea : a = g := by simpa [FB, Value.ownBlock] using ha
    subst e
    subst ea
    rcases flat_ins_mem.1 hb with hb | hb
    · rcases k3 with k3 | k3
      · exact hFd a hb (by simp [FB, k3])
      · have := hlt a (List.mem_append_right _ hb); omega
    · rcases k3 with k3 | k3
      · exact hGd a hb (by simp [FB, k3])
      · obtain ⟨kk, nn, tt, _, a1, a2, a3, rfl⟩ := ho
        simp only [List.mem_append] at hb
        have : a < w.heap.size := by
          rcases hb with (hb | hb) | hb
          · exact (a1.rng a hb).2
          · exact (a2.rng a hb).2
          · exact (a3.rng a hb).2
        omega
  · intro q hq
    rcases List.mem_append.1 hq with hq | hq
    · have eq : q = g := by simpa [FB, Value.ownBlock] using hq
      subst eq
      rcases k3 with k3 | k3
      · exact .inl (List.mem_append_left _ (by simp [FB, k3]))
      · exact .inr (.inr ⟨k3, k4⟩)
    · rcases flat_ins_mem.1 hq with hq | hq
      · exact .inl (List.mem_append_right _ hq)
      · exact .inr (.inl hq)
end Go.Proofs.YtkmmhlimihkgfaaGreat

/- An operation that owns its rows in another's place, in a row of the call's own. -/
namespace Go.Proofs.YtkmmhlimihkgfaaGreat
open Go.RowKit
set_option linter.unusedVariables false
set_option maxRecDepth 100000

theorem flat_set_mem {Fs : List (List Nat)} {G : List Nat} {i q : Nat} (h : q ∈ (Fs.set i G).flatten) : q ∈ Fs.flatten ∨ q ∈ G := by
  obtain ⟨F, hF, hq⟩ := List.mem_flatten.1 h
  rcases List.mem_or_eq_of_mem_set hF with hF | rfl
  · exact .inl (List.mem_flatten.2 ⟨F, hF, hq⟩)
  · exact .inr hq
theorem flat_set_nodup : ∀ {Fs : List (List Nat)} {G : List Nat} {i : Nat}, Fs.flatten.Nodup → G.Nodup → (∀ q ∈ Fs.flatten, q ∉ G) → (Fs.set i G).flatten.Nodup
  | [], _, _, _, _, _ => by simp
  | F :: Fs, G, 0, h, hG, hd => by
    rw [List.flatten_cons] at h hd
    have h' := List.nodup_append.1 h
    rw [List.set_cons_zero, List.flatten_cons]
    exact List.nodup_append.2 ⟨hG, h'.2.1, fun a ha b hb e => hd b (List.mem_append_right _ hb) (e ▸ ha)⟩
  | F :: Fs, G, i + 1, h, hG, hd => by
    rw [List.flatten_cons] at h hd
    have h' := List.nodup_append.1 h
    rw [List.set_cons_succ, List.flatten_cons]
    refine List.nodup_append.2 ⟨h'.1, flat_set_nodup h'.2.1 hG (fun q hq => hd q (List.mem_append_right _ hq)), fun a ha b hb e => ?_⟩
    rcases flat_set_mem hb with hb | hb
    · exact h'.2.2 a ha b hb e
    · exact hd a (List.mem_append_left _ ha) (e ▸ hb)

set_option maxHeartbeats 3200000 in
theorem OwOps.setAt {w : World} {g cap : Nat} {l : List OpV} {F : List Nat} (h : OwOps w (.slice (some ⟨g, 0, none⟩) l.length cap) l F) (hN : F.Nodup) (i : Nat) (hi : i < l.length) (v0 v1 v2 v3 v4 v5 v6 v7 v8 v9 v10 v11 : Value) (o : OpV) (G : List Nat) (ho : OwOpC w [v0, v1, v2, v3, v4, v5, v6, v7, v8, v9, v10, v11] o G) (hG : G.Nodup) (hFG : ∀ q ∈ F, q ∉ G) :
    ∃ F', OwOps ((((((((((((w.setCell ⟨g, i * 12, none⟩ v0).setCell ⟨g, i * 12 + 1, none⟩ v1).setCell ⟨g, i * 12 + 2, none⟩ v2).setCell ⟨g, i * 12 + 3, none⟩ v3).setCell ⟨g, i * 12 + 4, none⟩ v4).setCell ⟨g, i * 12 + 5, none⟩ v5).setCell ⟨g, i * 12 + 6, none⟩ v6).setCell ⟨g, i * 12 + 7, none⟩ v7).setCell ⟨g, i * 12 + 8, none⟩ v8).setCell ⟨g, i * 12 + 9, none⟩ v9).setCell ⟨g, i * 12 + 10, none⟩ v10).setCell ⟨g, i * 12 + 11, none⟩ v11) (.slice (some ⟨g, 0, none⟩) l.length cap) (l.set i o) F' ∧ F'.Nodup ∧ (∀ q ∈ F', q ∈ F ∨ q ∈ G) ∧ Frm w ((((((((((((w.setCell ⟨g, i * 12, none⟩ v0).setCell ⟨g, i * 12 + 1, none⟩ v1).setCell ⟨g, i * 12 + 2, none⟩ v2).setCell ⟨g, i * 12 + 3, none⟩ v3).setCell ⟨g, i * 12 + 4, none⟩ v4).setCell ⟨g, i * 12 + 5, none⟩ v5).setCell ⟨g, i * 12 + 6, none⟩ v6).setCell ⟨g, i * 12 + 7, none⟩ v7).setCell ⟨g, i * 12 + 8, none⟩ v8).setCell ⟨g, i * 12 + 9, none⟩ v9).setCell ⟨g, i * 12 + 10, none⟩ v10).setCell ⟨g, i * 12 + 11, none⟩ v11) [g] := by
  have hlt := h.ltI
  obtain ⟨Cs, Fs, e1, e2, e3, e4, rfl⟩ := h
  have hC : ∀ k, k < Cs.length → (Cs.getD k []).length = 12 := fun k hk => (e3 k (by omega)).1
  have R0 := RowJ.start e1 hC i hi e4
  obtain ⟨kv, nv, tv, eD, _⟩ := (e3 i hi).2
  rw [eD] at R0
  have R1 := ((((((((((((R0.put 0 (by omega) v0).put 1 (by omega) v1).put 2 (by omega) v2).put 3 (by omega) v3).put 4 (by omega) v4).put 5 (by omega) v5).put 6 (by omega) v6).put 7 (by omega) v7).put 8 (by omega) v8).put 9 (by omega) v9).put 10 (by omega) v10).put 11 (by omega) v11)
  simp only [Nat.add_zero, List.set_cons_zero, List.set_cons_succ] at R1
  have f : Frm w ((((((((((((w.setCell ⟨g, i * 12, none⟩ v0).setCell ⟨g, i * 12 + 1, none⟩ v1).setCell ⟨g, i * 12 + 2, none⟩ v2).setCell ⟨g, i * 12 + 3, none⟩ v3).setCell ⟨g, i * 12 + 4, none⟩ v4).setCell ⟨g, i * 12 + 5, none⟩ v5).setCell ⟨g, i * 12 + 6, none⟩ v6).setCell ⟨g, i * 12 + 7, none⟩ v7).setCell ⟨g, i * 12 + 8, none⟩ v8).setCell ⟨g, i * 12 + 9, none⟩ v9).setCell ⟨g, i * 12 + 10, none⟩ v10).setCell ⟨g, i * 12 + 11, none⟩ v11) [g] := ((((((((((((set_frm w g (i * 12) v0).trans (set_frm _ g (i * 12 + 1) v1)).trans (set_frm _ g (i * 12 + 2) v2)).trans (set_frm _ g (i * 12 + 3) v3)).trans (set_frm _ g (i * 12 + 4) v4)).trans (set_frm _ g (i * 12 + 5) v5)).trans (set_frm _ g (i * 12 + 6) v6)).trans (set_frm _ g (i * 12 + 7) v7)).trans (set_frm _ g (i * 12 + 8) v8)).trans (set_frm _ g (i * 12 + 9) v9)).trans (set_frm _ g (i * 12 + 10) v10)).trans (set_frm _ g (i * 12 + 11) v11))
  have hgF : g ∉ Fs.flatten := fun hq => (List.nodup_append.1 hN).2.2 g (by simp [FB, Value.ownBlock]) g hq rfl
  have hgG : g ∉ G := hFG g (List.mem_append_left _ (by simp [FB, Value.ownBlock]))
  refine ⟨FB (.slice (some ⟨g, 0, none⟩) l.length cap) ++ (Fs.set i G).flatten, ⟨Cs.set i [v0, v1, v2, v3, v4, v5, v6, v7, v8, v9, v10, v11], Fs.set i G, by simp [e1], by simp [e2], fun k hk => ?_, ?_, rfl⟩, ?_, ?_, f⟩
  · have hk' : k < l.length := by simpa using hk
    by_cases e : k = i
    · subst e
      rw [getD_set_at _ _ _ (by omega), getD_set_at _ _ _ (by omega), List.getElem_set_self]
      exact ⟨rfl, ho.frm f (fun q hq hq' => by simp at hq'; subst hq'; exact hgG hq)⟩
    · rw [getD_set_ne _ _ _ _ e, getD_set_ne _ _ _ _ e, List.getElem_set_ne (Ne.symm e)]
      exact ⟨(e3 k hk').1, (e3 k hk').2.frm f (fun q hq hq' => by simp at hq'; subst hq'; exact hgF (mem_flat hq))⟩
  · rw [List.length_set]
    exact R1.row
  · refine List.nodup_append.2 ⟨FB_nodup _, flat_set_nodup (List.nodup_append.1 hN).2.1 hG (fun q hq => hFG q (List.mem_append_right _ hq)), fun a ha b hb e => ?_⟩
    have ea : a = g := by simpa [FB, Value.ownBlock] using ha
    subst e
    subst ea
    rcases flat_set_mem hb with hb | hb
    · exact hgF hb
    · exact hgG hb
  · intro q hq
    rcases List.mem_append.1 hq with hq | hq
    · exact .inl (List.mem_append_left _ hq)
    · rcases flat_set_mem hq with hq | hq
      · exact .inl (List.mem_append_right _ hq)
      · exact .inr hq
end Go.Proofs.YtkmmhlimihkgfaaGreat

/- The laws' own count of how great a tree is, by contracts. -/
namespace Go.Proofs.YtkmmhlimihkgfaaGreat
open Go.RowKit
set_option linter.unusedVariables false

theorem ret_i64 {a b : Int} (h : a = b) : Ending.returned (.int .i64 a) = .returned (.int .i64 b) := by rw [h]

theorem szB_any (w : World) (a : Option Addr) (n cap : Nat) (left : Int) (hn : n ≤ maxLen) (h0 : 0 ≤ left) (h1 : left ≤ 1000000000) :
    Calls Tryz.prog 45 #[.slice a n cap, .int .i64 left] w fun e w' => e = .returned (.int .i64 (rest n left)) ∧ w' = w := by
  unfold maxLen at hn
  by_cases h : (n : Int) ≤ left
  · have HR := hide (rest_in h)
    have hd : ¬ left - (n : Int) < 0 := by omega
    go_enter Tryz.func45, Tryz.ntmps45
    go_wp2
    go_ret
    exact ⟨by rw [unhide HR]; rfl, rfl⟩
  · have HR := hide (rest_out h)
    have hd : left - (n : Int) < 0 := by omega
    go_enter Tryz.func45, Tryz.ntmps45
    go_wp2
    go_ret
    exact ⟨by rw [unhide HR]; rfl, rfl⟩

set_option maxHeartbeats 1600000 in
theorem szAttr_any (w : World) (a b : Value) (x : List Int × List Int) (left : Int) (ha : Byt w a x.1) (hb : Byt w b x.2) (h0 : 0 ≤ left) (h1 : left ≤ 1000000000) :
    Calls Tryz.prog 132 #[.agg #[a, b], .int .i64 left] w fun e w' => e = .returned (.int .i64 (rest (x.1.length + x.2.length) left)) ∧ Below w.heap.size w w' := by
  obtain ⟨a1, c1, rfl, _, _⟩ := ha.shape
  obtain ⟨a2, c2, rfl, _, _⟩ := hb.shape
  have m1 := ha.2.1
  have m2 := hb.2.1
  by_cases h2 : ((x.1.length : Nat) : Int) ≤ left
  · have HR := hide (rest_rest (b := x.2.length) h2)
    go_enter Tryz.func132, Tryz.ntmps132
    go_wp2_with fail
    refine (szB_any _ _ _ _ left m1 h0 h1).mono ?_
    rintro e w1 ⟨rfl, rfl⟩
    rw [rest_in h2]
    have hd : ¬ left - (x.1.length : Int) < 0 := by omega
    go_wp2_with fail
    refine (szB_any _ _ _ _ (left - (x.1.length : Int)) m2 (by omega) (by omega)).mono ?_
    rintro e w2 ⟨rfl, rfl⟩
    by_cases h3 : ((x.2.length : Nat) : Int) ≤ left - (x.1.length : Int)
    · rw [rest_in h3] at HR ⊢
      have hd2 : ¬ left - (x.1.length : Int) - (x.2.length : Int) < 0 := by omega
      go_wp2
      go_ret
      exact ⟨by rw [unhide HR]; rfl, (Below.refl _ _).alloc (Nat.le_refl _) _⟩
    · rw [rest_out h3] at HR ⊢
      go_wp2
      go_ret
      exact ⟨by rw [unhide HR]; rfl, (Below.refl _ _).alloc (Nat.le_refl _) _⟩
  · have HR := hide (rest_bad (b := x.2.length) h2)
    go_enter Tryz.func132, Tryz.ntmps132
    go_wp2_with fail
    refine (szB_any _ _ _ _ left m1 h0 h1).mono ?_
    rintro e w1 ⟨rfl, rfl⟩
    rw [rest_out (by omega)]
    go_wp2
    go_ret
    exact ⟨by rw [unhide HR]; rfl, (Below.refl _ _).alloc (Nat.le_refl _) _⟩

/-- The count of the first k members. -/
def sumTo {α : Type} (f : α → Nat) (l : List α) (k : Nat) : Nat := ((l.take k).map f).sum
theorem sumTo_step {α : Type} (f : α → Nat) (l : List α) (k : Nat) (h : k < l.length) : sumTo f l (k + 1) = sumTo f l k + f l[k] := by
  unfold sumTo
  rw [List.take_succ_eq_append_getElem h]
  simp only [List.map_append, List.sum_append, List.map_cons, List.map_nil, List.sum_cons, List.sum_nil, Nat.add_zero]
theorem sumTo_all {α : Type} (f : α → Nat) (l : List α) : sumTo f l l.length = (l.map f).sum := by simp [sumTo]
theorem sumTo_le {α : Type} (f : α → Nat) (l : List α) (k : Nat) : sumTo f l k ≤ (l.map f).sum := by
  have h : (l.map f).sum = sumTo f l k + ((l.drop k).map f).sum := by
    unfold sumTo
    rw [← List.sum_append, ← List.map_append, List.take_append_drop]
  omega

set_option maxHeartbeats 1600000 in
theorem szAttrS_any (w : World) (v : Value) (l : List (List Int × List Int)) (left : Int) (h : RdAttrs w v l) (h0 : 0 ≤ left) (h1 : left ≤ 1000000000) :
    Calls Tryz.prog 95 #[v, .int .i64 left] w fun e w' => e = .returned (.int .i64 (rest (szA l) left)) ∧ Below w.heap.size w w' := by
  have hm := h.1
  unfold maxLen at hm
  by_cases h2 : (l.length : Int) ≤ left
  · have hd : ¬ left - (l.length : Int) < 0 := by omega
    obtain ⟨_, ⟨rfl, rfl⟩ | ⟨x, cap, rfl, hc, rfl⟩ | ⟨b, off, cap, rfl, g1, g2, g3, g4, g5⟩⟩ := h
    · go_enter Tryz.func95, Tryz.ntmps95
      go_wp2
      refine wp_loop_rounds 1 ?_
      rw [rounds_succ]
      go_wp2
      go_ret
      exact ⟨ret_i64 (by rw [rest_in (by simpa [szA] using h0)]; simp [szA]), Below.refl _ _⟩
    · go_enter Tryz.func95, Tryz.ntmps95
      go_wp2
      refine wp_loop_rounds 1 ?_
      rw [rounds_succ]
      go_wp2
      go_ret
      exact ⟨ret_i64 (by rw [rest_in (by simpa [szA] using h0)]; simp [szA]), Below.refl _ _⟩
    · have HE := hide (rest_rest (b := (l.map fun x => x.1.length + x.2.length).sum) h2)
      go_enter Tryz.func95, Tryz.ntmps95
      go_wp2
      go_loopw [1, 5] (fun q i wr => ∃ k : Nat, k ≤ l.length ∧ i = .int .i64 k ∧ ((sumTo (fun x : List Int × List Int => x.1.length + x.2.length) l k : Nat) : Int) ≤ left - (l.length : Int) ∧ q = .int .i64 (left - (l.length : Int) - (sumTo (fun x : List Int × List Int => x.1.length + x.2.length) l k : Nat)) ∧ Below w.heap.size w wr) (fun _ i _ => l.length - (intOf i).toNat)
      case atStart => exact ⟨0, Nat.zero_le _, rfl, by simp [sumTo]; omega, by simp [sumTo], Below.refl _ _⟩
      case round =>
        obtain ⟨k, hk, rfl, hs, rfl, hB⟩ := hrel
        by_cases hlt : k < l.length
        · obtain ⟨C, hC, hcell, c0, c1, rfl, hc0, hc1⟩ := g5 k hlt
          have e0 := (hB.cell (p := ⟨b, off + k * 2, none⟩) g4).trans (hcell 0 (by omega))
          have e1 := (hB.cell (p := ⟨b, off + k * 2 + 1, none⟩) g4).trans (hcell 1 (by omega))
          simp only [List.getElem?_cons_zero, List.getElem?_cons_succ] at e0 e1
          have hlt' : (k : Int) < (l.length : Int) := by omega
          obtain ⟨a1, k1, hsh1, _, _⟩ := hc0.shape
          obtain ⟨a2, k2, hsh2, _, _⟩ := hc1.shape
          subst hsh1 hsh2
          generalize hq : sumTo (fun x : List Int × List Int => x.1.length + x.2.length) l k = q at *
          have HQ := hide hq
          clear hcell g5 hq
          have hst := sumTo_step (fun x : List Int × List Int => x.1.length + x.2.length) l k hlt
          have hle := sumTo_le (fun x : List Int × List Int => x.1.length + x.2.length) l (k + 1)
          rw [hst] at hle
          rw [HQ.out] at hst hle
          have HST := hide hst
          clear hst
          go_wp2_with fail
          refine (szAttr_any wr _ _ l[k] (left - (l.length : Int) - (q : Int)) (hc0.keep hB) (hc1.keep hB) (by omega) (by omega)).mono ?_
          rintro e w2 ⟨rfl, hB2⟩
          have hB3 := hB.trans (hB2.mono hB.size)
          clear hc0 hc1 hC e0 e1
          generalize l[k].fst.length + l[k].snd.length = m at *
          by_cases h3 : (m : Int) ≤ left - (l.length : Int) - (q : Int)
          · rw [rest_in h3]
            have hd3 : ¬ left - (l.length : Int) - (q : Int) - (m : Int) < 0 := by omega
            go_wp2
            go_roundw
            case rel => exact ⟨k + 1, by omega, by go_num, by rw [unhide HST]; omega, by rw [unhide HST]; exact congrArg (Value.int .i64) (by omega), hB3⟩
            case measure => simp [intOf]; omega
          · rw [rest_out h3]
            have HF := hide (show rest (szA l) left = -1 by unfold szA; rw [unhide HE, rest_out (by omega)])
            go_wp2
            go_ret
            exact ⟨by rw [unhide HF]; rfl, hB3⟩
        · have e : k = l.length := by omega
          subst e
          rw [sumTo_all] at hs ⊢
          have HF := hide (show rest (szA l) left = left - (l.length : Int) - ((l.map fun x => x.1.length + x.2.length).sum : Nat) by unfold szA; rw [unhide HE, rest_in hs])
          go_wp2
          go_ret
          exact ⟨by rw [unhide HF]; rfl, hB⟩
  · have HF := hide (show rest (szA l) left = -1 from rest_bad h2)
    obtain ⟨a, cap, rfl, _, _⟩ := h.shape
    have hd : left - (l.length : Int) < 0 := by omega
    go_enter Tryz.func95, Tryz.ntmps95
    go_wp2
    go_ret
    exact ⟨by rw [unhide HF]; rfl, Below.refl _ _⟩

/-- What szNode does to a node of depth below n. -/
def SzNodeSaid (n : Nat) : Prop := ∀ (w : World) (a b c d e : Value) (t : Tr n) (left : Int), RdNode n w [a, b, c, d, e] t → 0 ≤ left → left ≤ 1000000000 →
    Calls Tryz.prog 58 #[.agg #[a, b, c, d, e], .int .i64 left] w fun e w' => e = .returned (.int .i64 (rest (szT n t) left)) ∧ Below w.heap.size w w'

set_option maxHeartbeats 1600000 in
theorem szNodeS_any (n : Nat) (H : SzNodeSaid n) (w : World) (v : Value) (l : List (Tr n)) (left : Int) (h : RdKids n w v l) (h0 : 0 ≤ left) (h1 : left ≤ 1000000000) :
    Calls Tryz.prog 96 #[v, .int .i64 left] w fun e w' => e = .returned (.int .i64 (rest (szK n l) left)) ∧ Below w.heap.size w w' := by
  have hm := h.1
  unfold maxLen at hm
  by_cases h2 : (l.length : Int) ≤ left
  · have hd : ¬ left - (l.length : Int) < 0 := by omega
    obtain ⟨_, ⟨rfl, rfl⟩ | ⟨x, cap, rfl, hc, rfl⟩ | ⟨b, off, cap, rfl, g1, g2, g3, g4, g5⟩⟩ := h
    · go_enter Tryz.func96, Tryz.ntmps96
      go_wp2_with fail
      refine wp_loop_rounds 1 ?_
      rw [rounds_succ]
      go_wp2_with fail
      go_ret
      exact ⟨ret_i64 (by rw [rest_in (by simpa [szK] using h0)]; simp [szK]), Below.refl _ _⟩
    · go_enter Tryz.func96, Tryz.ntmps96
      go_wp2_with fail
      refine wp_loop_rounds 1 ?_
      rw [rounds_succ]
      go_wp2_with fail
      go_ret
      exact ⟨ret_i64 (by rw [rest_in (by simpa [szK] using h0)]; simp [szK]), Below.refl _ _⟩
    · have HE := hide (rest_rest (b := (l.map (szT n)).sum) h2)
      go_enter Tryz.func96, Tryz.ntmps96
      go_wp2_with fail
      go_loopw [1, 5] (fun q i wr => ∃ k : Nat, k ≤ l.length ∧ i = .int .i64 k ∧ ((sumTo (szT n) l k : Nat) : Int) ≤ left - (l.length : Int) ∧ q = .int .i64 (left - (l.length : Int) - (sumTo (szT n) l k : Nat)) ∧ Below w.heap.size w wr) (fun _ i _ => l.length - (intOf i).toNat)
      case atStart => exact ⟨0, Nat.zero_le _, rfl, by simp [sumTo]; omega, by simp [sumTo], Below.refl _ _⟩
      case round =>
        obtain ⟨k, hk, rfl, hs, rfl, hB⟩ := hrel
        by_cases hlt : k < l.length
        · obtain ⟨C, hC, hcell, hr⟩ := g5 k hlt
          obtain ⟨c0, c1, c2, c3, c4, rfl⟩ : ∃ c0 c1 c2 c3 c4, C = [c0, c1, c2, c3, c4] := by
            match C, hC with
            | [c0, c1, c2, c3, c4], _ => exact ⟨c0, c1, c2, c3, c4, rfl⟩
          have e0 := (hB.cell (p := ⟨b, off + k * 5, none⟩) g4).trans (hcell 0 (by omega))
          have e1 := (hB.cell (p := ⟨b, off + k * 5 + 1, none⟩) g4).trans (hcell 1 (by omega))
          have e2 := (hB.cell (p := ⟨b, off + k * 5 + 2, none⟩) g4).trans (hcell 2 (by omega))
          have e3 := (hB.cell (p := ⟨b, off + k * 5 + 3, none⟩) g4).trans (hcell 3 (by omega))
          have e4 := (hB.cell (p := ⟨b, off + k * 5 + 4, none⟩) g4).trans (hcell 4 (by omega))
          simp only [List.getElem?_cons_zero, List.getElem?_cons_succ] at e0 e1 e2 e3 e4
          have hlt' : (k : Int) < (l.length : Int) := by omega
          have hst := sumTo_step (szT n) l k hlt
          have hle := sumTo_le (szT n) l (k + 1)
          rw [hst] at hle
          generalize hq : sumTo (szT n) l k = q at *
          have HQ := hide hq
          have HST := hide hst
          clear hcell g5 hq hst
          go_wp2_with fail
          refine (H wr _ _ _ _ _ l[k] (left - (l.length : Int) - (q : Int)) (hr.keep hB) (by omega) (by omega)).mono ?_
          rintro e w2 ⟨rfl, hB2⟩
          have hB3 := hB.trans (hB2.mono hB.size)
          clear hC e0 e1 e2 e3 e4 hr
          generalize szT n l[k] = m at *
          by_cases h3 : (m : Int) ≤ left - (l.length : Int) - (q : Int)
          · rw [rest_in h3]
            have hd3 : ¬ left - (l.length : Int) - (q : Int) - (m : Int) < 0 := by omega
            go_wp2_with fail
            go_roundw
            case rel => exact ⟨k + 1, by omega, by go_num, by rw [unhide HST]; omega, by rw [unhide HST]; exact congrArg (Value.int .i64) (by omega), hB3⟩
            case measure => simp [intOf]; omega
          · rw [rest_out h3]
            have HF := hide (show rest (szK n l) left = -1 by unfold szK; rw [unhide HE, rest_out (by omega)])
            go_wp2_with fail
            go_ret
            exact ⟨by rw [unhide HF]; rfl, hB3⟩
        · have e : k = l.length := by omega
          subst e
          rw [sumTo_all] at hs ⊢
          have HF := hide (show rest (szK n l) left = left - (l.length : Int) - ((l.map (szT n)).sum : Nat) by unfold szK; rw [unhide HE, rest_in hs])
          go_wp2_with fail
          go_ret
          exact ⟨by rw [unhide HF]; rfl, hB⟩
  · have HF := hide (show rest (szK n l) left = -1 from rest_bad h2)
    obtain ⟨a, cap, rfl, _, _⟩ := Elems.shape h
    have hd : left - (l.length : Int) < 0 := by omega
    go_enter Tryz.func96, Tryz.ntmps96
    go_wp2_with fail
    go_ret
    exact ⟨by rw [unhide HF]; rfl, Below.refl _ _⟩

theorem szNode_zero : SzNodeSaid 0 := fun _ _ _ _ _ _ t => t.elim

set_option maxHeartbeats 3200000 in
theorem szNode_succ (n : Nat) (H : SzNodeSaid n) : SzNodeSaid (n + 1) := by
  intro w a b c d e t left hr h0 h1
  obtain ⟨a', b', c', d', e0, k1, k2, hb, hc, hd, he⟩ := hr
  simp only [List.cons.injEq, and_true] at e0
  obtain ⟨rfl, rfl, rfl, rfl, rfl⟩ := e0
  obtain ⟨ab, cb, rfl, _, _⟩ := hb.shape
  obtain ⟨ac, cc, rfl, _, _⟩ := hc.shape
  obtain ⟨ad, cd, rfl, _, _⟩ := Elems.shape hd
  obtain ⟨ae, ce, rfl, _, _⟩ := Elems.shape he
  have mb := hb.2.1
  have mc := hc.2.1
  have hz : szT (n + 1) t = t.name.length + (t.text.length + (szA t.attrs + szK n t.kids)) := by show t.name.length + t.text.length + szA t.attrs + (t.kids.length + (t.kids.map (szT n)).sum) = _; unfold szK; omega
  rw [hz]
  have hA : Below w.heap.size w (w.alloc (.cells #[.int .i64 t.kind, .slice ab t.name.length cb, .slice ac t.text.length cc, .slice ad t.attrs.length cd, .slice ae t.kids.length ce] 53)) := (Below.refl _ _).alloc (Nat.le_refl _) _
  go_enter Tryz.func58, Tryz.ntmps58
  go_wp2_with fail
  refine (szB_any _ _ _ _ left mb h0 h1).mono ?_
  rintro e w1 ⟨rfl, rfl⟩
  by_cases h2 : (t.name.length : Int) ≤ left
  · have H2 := hide (rest_rest (b := t.text.length + (szA t.attrs + szK n t.kids)) h2)
    rw [rest_in h2]
    have hd2 : ¬ left - (t.name.length : Int) < 0 := by omega
    go_wp2_with fail
    refine (szB_any _ _ _ _ (left - (t.name.length : Int)) mc (by omega) (by omega)).mono ?_
    rintro e w1 ⟨rfl, rfl⟩
    by_cases h3 : (t.text.length : Int) ≤ left - (t.name.length : Int)
    · have H3 := hide (rest_rest (b := szA t.attrs + szK n t.kids) h3)
      rw [rest_in h3]
      have hd3 : ¬ left - (t.name.length : Int) - (t.text.length : Int) < 0 := by omega
      go_wp2_with fail
      refine (szAttrS_any _ _ t.attrs (left - (t.name.length : Int) - (t.text.length : Int)) (hd.keep hA) (by omega) (by omega)).mono ?_
      rintro e w2 ⟨rfl, hB2⟩
      have hA2 := bstep hA hB2
      by_cases h4 : (szA t.attrs : Int) ≤ left - (t.name.length : Int) - (t.text.length : Int)
      · have H4 := hide (rest_rest (b := szK n t.kids) h4)
        rw [rest_in h4]
        have hd4 : ¬ left - (t.name.length : Int) - (t.text.length : Int) - (szA t.attrs : Int) < 0 := by omega
        have hc4 := cell_later hB2 (show (w.alloc (.cells #[.int .i64 t.kind, .slice ab t.name.length cb, .slice ac t.text.length cc, .slice ad t.attrs.length cd, .slice ae t.kids.length ce] 53)).cell? ⟨w.heap.size, 4, none⟩ = some (.slice ae t.kids.length ce) by simp)
        go_wp2_with fail
        refine (szNodeS_any n H w2 _ t.kids (left - (t.name.length : Int) - (t.text.length : Int) - (szA t.attrs : Int)) (RdKids.keep he hA2) (by omega) (by omega)).mono ?_
        rintro e w3 ⟨rfl, hB3⟩
        have hA3 := bstep hA2 hB3
        clear hB2 hB3 hA hA2 hc4
        by_cases h5 : (szK n t.kids : Int) ≤ left - (t.name.length : Int) - (t.text.length : Int) - (szA t.attrs : Int)
        · have H5 := hide (rest_in h5)
          rw [rest_in h5]
          have hd5 : ¬ left - (t.name.length : Int) - (t.text.length : Int) - (szA t.attrs : Int) - (szK n t.kids : Int) < 0 := by omega
          go_wp2_with fail
          go_ret
          exact ⟨by rw [unhide H2, unhide H3, unhide H4, unhide H5]; rfl, hA3⟩
        · have H5 := hide (rest_out h5)
          rw [rest_out h5]
          go_wp2_with fail
          go_ret
          exact ⟨by rw [unhide H2, unhide H3, unhide H4, unhide H5]; rfl, hA3⟩
      · have H4 := hide (rest_bad (b := szK n t.kids) h4)
        rw [rest_out h4]
        clear hB2 hA
        go_wp2_with fail
        go_ret
        exact ⟨by rw [unhide H2, unhide H3, unhide H4]; rfl, hA2⟩
    · have H3 := hide (rest_bad (b := szA t.attrs + szK n t.kids) h3)
      rw [rest_out h3]
      have HA := hide hA
      clear hA
      go_wp2_with fail
      go_ret
      exact ⟨by rw [unhide H2, unhide H3]; rfl, unhide HA⟩
  · have H2 := hide (rest_bad (b := t.text.length + (szA t.attrs + szK n t.kids)) h2)
    rw [rest_out h2]
    have HA := hide hA
    clear hA
    go_wp2_with fail
    go_ret
    exact ⟨by rw [unhide H2]; rfl, unhide HA⟩

theorem szNode_any (n : Nat) : SzNodeSaid n := by
  induction n with
  | zero => exact szNode_zero
  | succ n ih => exact szNode_succ n ih

end Go.Proofs.YtkmmhlimihkgfaaGreat

/- The laws' own copy of a tree, by contracts: the copy is the same tree, in blocks of its own. -/
namespace Go.Proofs.YtkmmhlimihkgfaaGreat
open Go.RowKit
set_option linter.unusedVariables false

set_option maxHeartbeats 1600000 in
theorem toAttr_any (w : World) (a b : Value) (x : List Int × List Int) (ha : Byt w a x.1) (hb : Byt w b x.2) (hs : x.1.length + x.2.length ≤ 2097152) :
    Calls Tryz.prog 134 #[.agg #[a, b]] w fun e w' => ∃ a1 c1 a2 c2, e = .returned (.agg #[.slice a1 x.1.length c1, .slice a2 x.2.length c2]) ∧ ∃ F, OwAttr w' [.slice a1 x.1.length c1, .slice a2 x.2.length c2] x F ∧ F.Nodup ∧ Rng F w.heap.size w'.heap.size ∧ Below w.heap.size w w' := by
  obtain ⟨p1, k1, rfl, _, _⟩ := ha.shape
  obtain ⟨p2, k2, rfl, _, _⟩ := hb.shape
  go_enter Tryz.func134, Tryz.ntmps134
  go_wp2_with fail
  have l0 := (((Loc.made w #[.slice p1 x.1.length k1, .slice p2 x.2.length k2] 154).alloc (.cells #[.slice none 0 0, .slice none 0 0] 157)).alloc (.cells #[.slice none 0 0, .slice none 0 0] 157))
  have l1 := (Loc.made (w.alloc (.cells #[.slice p1 x.1.length k1, .slice p2 x.2.length k2] 154)) #[.slice none 0 0, .slice none 0 0] 157).alloc (.cells #[.slice none 0 0, .slice none 0 0] 157)
  have l2 := Loc.made ((w.alloc (.cells #[.slice p1 x.1.length k1, .slice p2 x.2.length k2] 154)).alloc (.cells #[.slice none 0 0, .slice none 0 0] 157)) #[.slice none 0 0, .slice none 0 0] 157
  have hA : Below w.heap.size w (((w.alloc (.cells #[.slice p1 x.1.length k1, .slice p2 x.2.length k2] 154)).alloc (.cells #[.slice none 0 0, .slice none 0 0] 157)).alloc (.cells #[.slice none 0 0, .slice none 0 0] 157)) := (((Below.refl _ _).alloc (Nat.le_refl _) _).alloc (by simp) _).alloc (by simp; omega) _
  simp only [World.size_alloc] at l1 l2
  generalize hW : (((w.alloc (.cells #[.slice p1 x.1.length k1, .slice p2 x.2.length k2] 154)).alloc (.cells #[.slice none 0 0, .slice none 0 0] 157)).alloc (.cells #[.slice none 0 0, .slice none 0 0] 157)) = W at *
  have hWs : W.heap.size = w.heap.size + 3 := by rw [← hW]; simp
  clear hW
  have HWs := hide hWs
  clear hWs
  refine (toB_any W _ x.1 (ha.keep hA) (by omega)).mono ?_
  rintro e w1 ⟨v1, rfl, ho1, _, hB1⟩
  obtain ⟨a1, c1, hv1, _, _⟩ := ho1.byt.shape
  subst hv1
  have r1 := ho1.rng
  replace l0 := l0.all hB1
  replace l1 := l1.all hB1
  replace l2 := l2.all hB1
  have e0 := l0.cell 1
  have e2 := l2.cell 0
  have f2 := l2.frozen 0
  simp at e0 e2
  have hA1 := bstep hA hB1
  have m0 := l0.other (w.heap.size + 1 + 1) 0 (.slice a1 x.1.length c1) (by omega)
  have m1 := l1.other (w.heap.size + 1 + 1) 0 (.slice a1 x.1.length c1) (by omega)
  have m2 := l2.set 0 (.slice a1 x.1.length c1)
  have hf1 := set_frm w1 (w.heap.size + 1 + 1) 0 (.slice a1 x.1.length c1)
  have ho2 := ho1.frm hf1 (fun g hg => by have := r1 g hg; have := unhide HWs; simp; omega)
  have hA2 : Below w.heap.size w (w1.setCell ⟨w.heap.size + 1 + 1, 0, none⟩ (.slice a1 x.1.length c1)) := hA1.setCell (by simp; omega) _
  have hs1 := hB1.size
  have M := hide (And.intro m0 (And.intro m1 m2))
  have HO := hide ho2
  have HA2 := hide hA2
  clear hB1 l0 l1 l2 m0 m1 m2 hf1 ho1 ho2 hA2 hA hA1
  go_wp2_with fail
  refine (toB_any _ _ x.2 (hb.keep (unhide HA2)) (by omega)).mono ?_
  rintro e w2 ⟨v2, rfl, ho3, _, hB2⟩
  obtain ⟨a2, c2, hv2, _, _⟩ := ho3.byt.shape
  subst hv2
  have r2 := ho3.rng
  have n1 := (unhide M).2.1.all hB2
  have n2 := (unhide M).2.2.all hB2
  have hA3 := bstep (unhide HA2) hB2
  have ho4 := (unhide HO).keep hB2
  have hs2 := hB2.size
  have g0 := n1.cell 0
  have g1 := n1.cell 1
  have g2 := n2.cell 0
  have g3 := n2.cell 1
  have g4 := n1.frozen 0
  have g5 := n1.frozen 1
  have g6 := n2.frozen 1
  simp at g0 g1 g2 g3 hs2
  clear M HO HA2 hB2
  simp only [World.size_setCell] at r2 ho3
  have hsz := unhide HWs
  have hf : Frm w2 (((w2.setCell ⟨w.heap.size + 1 + 1, 1, none⟩ (.slice a2 x.2.length c2)).setCell ⟨w.heap.size + 1, 0, none⟩ (.slice a1 x.1.length c1)).setCell ⟨w.heap.size + 1, 1, none⟩ (.slice a2 x.2.length c2)) [w.heap.size + 1 + 1, w.heap.size + 1] :=
    (((set_frm w2 _ _ _).mono (by simp)).trans ((set_frm _ _ _ _).mono (by simp))).trans ((set_frm _ _ _ _).mono (by simp))
  have ho5 := (ho4.frm hf (fun g hg => by have := r1 g hg; simp; omega)).mono (Nat.zero_le _)
  have ho6 := (ho3.frm hf (fun g hg => by have := r2 g hg; simp; omega)).mono (Nat.zero_le _)
  have hA4 := hA3.trans (hf.below hA3.size (fun g hg => by simp at hg; omega))
  have hrng : Rng (FB (.slice a1 x.1.length c1) ++ FB (.slice a2 x.2.length c2)) w.heap.size w2.heap.size := (r1.mono (by omega) (by omega)).app (r2.mono (by omega) (by omega))
  have hnd := nodup_app (FB_nodup (.slice a1 x.1.length c1)) (FB_nodup (.slice a2 x.2.length c2)) r1 r2
  have HP := hide (And.intro ho5 (And.intro ho6 (And.intro hA4 (And.intro hrng hnd))))
  clear ho5 ho6 hA4 hrng hnd hf ho3 ho4 hA3 n1 n2 r1 r2 hsz
  go_wp2_with fail
  obtain ⟨ho5, ho6, hA4, hrng, hnd⟩ := unhide HP
  exact bodyPost_ret (v := .agg #[.slice a1 x.1.length c1, .slice a2 x.2.length c2]) (by simp [results, Tryz.results134, go_sem, g0, g1]) rfl ⟨a1, c1, a2, c2, rfl, _, ⟨_, _, rfl, ho5, ho6, rfl⟩, hnd, hrng.mono (Nat.le_refl _) (by simp), hA4⟩
end Go.Proofs.YtkmmhlimihkgfaaGreat

/- Small tools: locals made one behind the other, an element at a place, the five cells of a node's local. -/
namespace Go.Proofs.YtkmmhlimihkgfaaGreat
open Go.RowKit
set_option linter.unusedVariables false
set_option maxRecDepth 100000

/-- Two locals of their own, made one behind the other. -/
theorem two (w : World) (A Z : Array Value) (TA T : TypeId) : Loc ((w.alloc (.cells A TA)).alloc (.cells Z T)) w.heap.size A TA ∧ Loc ((w.alloc (.cells A TA)).alloc (.cells Z T)) (w.heap.size + 1) Z T ∧ Below w.heap.size w ((w.alloc (.cells A TA)).alloc (.cells Z T)) := by
  refine ⟨(Loc.made w A TA).alloc _, ?_, ((Below.refl _ _).alloc (Nat.le_refl _) _).alloc (by simp) _⟩
  have := Loc.made (w.alloc (.cells A TA)) Z T
  simp only [World.size_alloc] at this
  exact this

/-- The element at a place, where there is one. -/
theorem Elems.at {α : Type} {w : World} {size m : Nat} {a : Option Addr} {cap k : Nat} {l : List α} {R : List Value → α → Prop} (h : Elems w size (.slice a m cap) l R) (hk : k < l.length) :
    ∃ b off, a = some ⟨b, off, none⟩ ∧ b < w.heap.size ∧ m = l.length ∧ m ≤ cap ∧ ∃ C : List Value, C.length = size ∧ (∀ j, j < size → w.cell? ⟨b, off + k * size + j, none⟩ = C[j]?) ∧ R C l[k] := by
  obtain ⟨_, ⟨_, e⟩ | ⟨_, _, _, _, e⟩ | ⟨b, off, c, e, g1, g2, g3, g4, g5⟩⟩ := h
  · subst e; simp at hk
  · subst e; simp at hk
  · injection e with e1 e2 e3
    subst e1 e2 e3
    exact ⟨b, off, rfl, g4, rfl, g1, g5 k hk⟩

/-- The five cells of a local of its own. -/
theorem Loc.five {w : World} {g : Nat} {a b c d e : Value} {T : TypeId} (h : Loc w g #[a, b, c, d, e] T) :
    w.cell? ⟨g, 0, none⟩ = some a ∧ w.cell? ⟨g, 1, none⟩ = some b ∧ w.cell? ⟨g, 2, none⟩ = some c ∧ w.cell? ⟨g, 3, none⟩ = some d ∧ w.cell? ⟨g, 4, none⟩ = some e :=
  ⟨h.cell 0, h.cell 1, h.cell 2, h.cell 3, h.cell 4⟩

end Go.Proofs.YtkmmhlimihkgfaaGreat

/- impl.opLess, impl.putInto. -/
namespace Go.Proofs.YtkmmhlimihkgfaaGreat
open Go.RowKit
set_option linter.unusedVariables false
set_option maxRecDepth 100000

theorem there_lt {l : List OpV} {n r : Int} (h : there l n r = true) : posO l n r < l.length := by
  unfold there at h
  split at h
  · assumption
  · cases h
theorem obV_of {o : OpV} (h : opB o = true) : obV o = opBytes o := by unfold obV; rw [if_pos h]
theorem OwOp.cells {w : World} {base : Nat} {o : OpV} {k n t : Value} (h : OwOp w base o k n t) : OwOpC w [.int .i64 o.kind, .int .i64 o.atN, .int .i64 o.atR, .int .i64 o.nodeN, .int .i64 o.nodeR, .int .i64 o.parN, .int .i64 o.parR, k, .int .i64 o.elem, n, t, .bool o.gone] o (FB k ++ FB n ++ FB t) :=
  ⟨k, n, t, rfl, h.1.mono (Nat.zero_le _), h.2.1.mono (Nat.zero_le _), h.2.2.1.mono (Nat.zero_le _), rfl⟩
theorem OwOp.rng {w : World} {base : Nat} {o : OpV} {k n t : Value} (h : OwOp w base o k n t) : Rng (FB k ++ FB n ++ FB t) base w.heap.size := (h.1.rng.app h.2.1.rng).app h.2.2.1.rng

set_option maxHeartbeats 12800000 in
theorem opLess_any (w : World) (va vb : Value) (a b : OpV) (ha : RdOp w va a) (hb : RdOp w vb b) (ka : opB a = true) (kb : opB b = true) (sa : szO a ≤ 2097152) (sb : szO b ≤ 2097152) :
    Calls Tryz.prog 90 #[va, vb] w fun e w' => e = .returned (.bool (klB (opBytes a) (opBytes b))) ∧ Below w.heap.size w w' := by
  have HA := hide (fun (W : World) (hW : Below w.heap.size w W) => bytesI_any W va a (ha.keep hW) (by unfold szO at sa; omega))
  have HB := hide (fun (W : World) (hW : Below w.heap.size w W) => bytesI_any W vb b (hb.keep hW) (by unfold szO at sb; omega))
  have KA := hide (And.intro ka (obV_of ka))
  have KB := hide (And.intro kb (obV_of kb))
  obtain ⟨k, n, t, rfl, hk, hn, ht⟩ := ha
  obtain ⟨ka', ca, rfl, _, _⟩ := hk.shape
  obtain ⟨na, da, rfl, _, _⟩ := hn.shape
  obtain ⟨ta, fa, rfl, _, _⟩ := ht.shape
  clear hk hn ht
  obtain ⟨k, n, t, rfl, hk, hn, ht⟩ := hb
  obtain ⟨kb', cb, rfl, _, _⟩ := hk.shape
  obtain ⟨nb, db, rfl, _, _⟩ := hn.shape
  obtain ⟨tb, fb, rfl, _, _⟩ := ht.shape
  clear hk hn ht ka kb sa sb
  obtain ⟨l0, l1, hA0⟩ := two w #[.int .i64 a.kind, .int .i64 a.atN, .int .i64 a.atR, .int .i64 a.nodeN, .int .i64 a.nodeR, .int .i64 a.parN, .int .i64 a.parR, .slice ka' a.key.length ca, .int .i64 a.elem, .slice na a.name.length da, .slice ta a.text.length fa, .bool a.gone] #[.int .i64 b.kind, .int .i64 b.atN, .int .i64 b.atR, .int .i64 b.nodeN, .int .i64 b.nodeR, .int .i64 b.parN, .int .i64 b.parR, .slice kb' b.key.length cb, .int .i64 b.elem, .slice nb b.name.length db, .slice tb b.text.length fb, .bool b.gone] 28 28
  unfold opVal at HA HB ⊢
  go_enter Tryz.func90, Tryz.ntmps90
  go_wp2_with fail
  generalize ((w.alloc (.cells #[.int .i64 a.kind, .int .i64 a.atN, .int .i64 a.atR, .int .i64 a.nodeN, .int .i64 a.nodeR, .int .i64 a.parN, .int .i64 a.parR, .slice ka' a.key.length ca, .int .i64 a.elem, .slice na a.name.length da, .slice ta a.text.length fa, .bool a.gone] 28)).alloc (.cells #[.int .i64 b.kind, .int .i64 b.atN, .int .i64 b.atR, .int .i64 b.nodeN, .int .i64 b.nodeR, .int .i64 b.parN, .int .i64 b.parR, .slice kb' b.key.length cb, .int .i64 b.elem, .slice nb b.name.length db, .slice tb b.text.length fb, .bool b.gone] 28)) = wa at *
  refine (unhide HA _ hA0).mono ?_
  rintro e w1 ⟨pg, cg, rfl, og, hB⟩
  replace hA0 := bstep hA0 hB
  replace l1 := l1.all hB
  clear hB l0 HA
  obtain ⟨x0, x1, x2, x3, x4, x5, x6, x7, x8, x9, x10, x11⟩ := l1.twelve
  go_wp2_with fail
  clear x0 x1 x2 x3 x4 x5 x6 x7 x8 x9 x10 x11
  refine (unhide HB _ hA0).mono ?_
  rintro e w2 ⟨ph, ch, rfl, oh, hB⟩
  replace hA0 := bstep hA0 hB
  replace og := og.keep hB
  clear hB l1 HB
  rw [(unhide KA).2] at og ⊢
  rw [(unhide KB).2] at oh ⊢
  go_wp2_with fail
  refine (rowLessB_any w2 _ _ _ _ og.byt oh.byt).mono ?_
  rintro e w3 ⟨rfl, hB⟩
  replace hA0 := bstep hA0 hB
  go_wp2_with fail
  go_ret
  exact ⟨rfl, hA0⟩

set_option maxHeartbeats 40000000 in
theorem putInto_any (w : World) (v vo : Value) (l : List OpV) (o : OpV) (F : List Nat) (hF : OwOps w v l F) (hN : F.Nodup) (hc : opsB l = true) (ho : RdOp w vo o) (hb : opB o = true) (hs : szO o ≤ 2097152) (hls : ∀ x ∈ l, szO x ≤ 2097152) :
    Calls Tryz.prog 40 #[v, vo] w fun e w' => ∃ u, e = .returned (.tuple #[u, .bool (putOk l o)]) ∧ ∃ F', OwOps w' u (putL l o) F' ∧ F'.Nodup ∧ (∀ q ∈ F', q ∈ F ∨ (w.heap.size ≤ q ∧ q < w'.heap.size)) ∧ Frm w w' (FB v) := by
  have HC := hide (fun (W : World) (hW : Below w.heap.size w W) => copyOp_any W vo o (ho.keep hW) (by omega))
  have HL := hide (fun (W : World) (hW : Below w.heap.size w W) (vx : Value) (x : OpV) (hx : RdOp W vx x) (kx : opB x = true) (sx : szO x ≤ 2097152) => opLess_any W vo vx o x (ho.keep hW) hx hb kx hs sx)
  have HLS := hide hls
  have hlt : ∀ q ∈ F, q < w.heap.size := hF.ltI
  have hl := opsB_len hc
  obtain ⟨k, n, t, rfl, hk, hn, ht⟩ := ho
  obtain ⟨ak, ck, rfl, _, _⟩ := hk.shape
  obtain ⟨an, cn, rfl, _, _⟩ := hn.shape
  obtain ⟨tt, ct, rfl, _, _⟩ := ht.shape
  obtain ⟨au, cu, rfl, _, _⟩ := Elems.shape hF.rd
  clear hk hn ht hs hls hb
  have hA0 := (Below.refl w.heap.size w).alloc (Nat.le_refl _) (.cells #[.int .i64 o.kind, .int .i64 o.atN, .int .i64 o.atR, .int .i64 o.nodeN, .int .i64 o.nodeR, .int .i64 o.parN, .int .i64 o.parR, .slice ak o.key.length ck, .int .i64 o.elem, .slice an o.name.length cn, .slice tt o.text.length ct, .bool o.gone] 28)
  have l0 := Loc.made w #[.int .i64 o.kind, .int .i64 o.atN, .int .i64 o.atR, .int .i64 o.nodeN, .int .i64 o.nodeR, .int .i64 o.parN, .int .i64 o.parR, .slice ak o.key.length ck, .int .i64 o.elem, .slice an o.name.length cn, .slice tt o.text.length ct, .bool o.gone] 28
  unfold opVal at HC HL
  refine calls_via ?_
  intro Q HQ
  have HQ2 := hide (fun u kk w9 (hkk : kk = putOk l o) (z : ∃ F', OwOps w9 u (putL l o) F' ∧ F'.Nodup ∧ (∀ q ∈ F', q ∈ F ∨ (w.heap.size ≤ q ∧ q < w9.heap.size)) ∧ Frm w w9 (FB (.slice au l.length cu))) => unhide HQ (.returned (.tuple #[u, .bool kk])) w9 ⟨u, by rw [hkk], z⟩)
  clear HQ
  unfold opVal
  go_enter Tryz.func40, Tryz.ntmps40
  go_wp2_with fail
  generalize (w.alloc (.cells #[.int .i64 o.kind, .int .i64 o.atN, .int .i64 o.atR, .int .i64 o.nodeN, .int .i64 o.nodeR, .int .i64 o.parN, .int .i64 o.parR, .slice ak o.key.length ck, .int .i64 o.elem, .slice an o.name.length cn, .slice tt o.text.length ct, .bool o.gone] 28)) = wa at *
  generalize hSS : w.heap.size = S at *
  have BS := hide (show ∀ (b c : World), Below S w b → Below b.heap.size b c → Below S w c from fun b c h k => h.trans (k.mono (by have := h.size; omega)))
  have hFa : OwOps wa (.slice au l.length cu) l F := OwOps.frm hF (Frm.ofBelow (by rw [hSS]; exact hA0) []) (fun _ _ => by simp)
  refine (search_any wa _ l o.atN o.atR hFa.rd hc).mono ?_
  rintro e w4 ⟨rfl, hB⟩
  have hB4 := unhide BS _ _ hA0 hB
  have l4 := l0.all hB
  have hF4 : OwOps w4 (.slice au l.length cu) l F := OwOps.frm hFa (Frm.ofBelow hB []) (fun _ _ => by simp)
  clear hA0 hB l0 hFa hF
  have hS4 : S ≤ w4.heap.size := Nat.le_of_lt l4.lt
  have F0 : ∀ W, Below S w W → Frm w W (FB (.slice au l.length cu)) := fun W h => Frm.ofBelow (by rw [hSS]; exact h) _
  cases hth : there l o.atN o.atR with
  | true =>
    have hpos := there_lt hth
    have hput : putL l o = if klB (opBytes o) (opBytes (l.getD (posO l o.atN o.atR) o)) then l.set (posO l o.atN o.atR) o else l := by unfold putL; rw [if_pos hth]
    have hok : putOk l o = true := by unfold putOk; rw [hth]; rfl
    generalize posO l o.atN o.atR = p at *
    obtain ⟨b, off, cap, eu, _, hbl, hel⟩ : ∃ b off cap, (Value.slice au l.length cu) = .slice (some ⟨b, off, none⟩) l.length cap ∧ l ≠ [] ∧ b < w4.heap.size ∧ ∀ i (hi : i < l.length), ∃ C : List Value, C.length = 12 ∧ (∀ j, j < 12 → w4.cell? ⟨b, off + i * 12 + j, none⟩ = C[j]?) ∧ RdOpC w4 C l[i] := by
      rcases hF4.rd.cases with ⟨e, _⟩ | h
      · subst e; simp at hpos
      · exact h
    have hoff : off = 0 := by
      obtain ⟨Cs, Fs, _, _, _, hrow, _⟩ := hF4
      rcases hrow.2 with ⟨e, _⟩ | ⟨g, cap', cur, e, _⟩
      · rw [eu] at e; cases e
      · rw [eu] at e; cases e; rfl
    subst hoff
    cases eu
    obtain ⟨b1, d1, b2, d2, b3, d3, e0, e1, e2, e3, e4, e5, e6, e7, e8, e9, e10, e11, hro⟩ := opc_at (w := w4) (W := w4) (Below.refl _ _) hbl (hel p hpos)
    have hx : l.getD p o = l[p] := by simp [List.getD_eq_getElem?_getD, hpos]
    rw [hx] at hput
    have hbx := opsB_each hc hpos
    have hsx := unhide HLS l[p] (List.getElem_mem hpos)
    simp only [Nat.zero_add] at e0 e1 e2 e3 e4 e5 e6 e7 e8 e9 e10 e11
    have HL5 := hide (fun (g : Gr w4) => unhide HL g.W (unhide BS _ _ hB4 g.h) _ l[p] (hro.keep g.h) hbx hsx)
    unfold opVal at HL5
    have hSl : S < w4.heap.size := l4.lt
    have hpl : (p : Int) < (l.length : Int) := by omega
    have hp0 : (0 : Int) ≤ (p : Int) := by omega
    clear hro hel HL
    obtain ⟨x0, x1, x2, x3, x4, x5, x6, x7, x8, x9, x10, x11⟩ := l4.twelve
    go_wp2_with fail
    replace x0 := Gr.cell hSl x0
    replace e0 := Gr.cell hbl e0
    replace x1 := Gr.cell hSl x1
    replace e1 := Gr.cell hbl e1
    replace x2 := Gr.cell hSl x2
    replace e2 := Gr.cell hbl e2
    replace x3 := Gr.cell hSl x3
    replace e3 := Gr.cell hbl e3
    replace x4 := Gr.cell hSl x4
    replace e4 := Gr.cell hbl e4
    replace x5 := Gr.cell hSl x5
    replace e5 := Gr.cell hbl e5
    replace x6 := Gr.cell hSl x6
    replace e6 := Gr.cell hbl e6
    replace x7 := Gr.cell hSl x7
    replace e7 := Gr.cell hbl e7
    replace x8 := Gr.cell hSl x8
    replace e8 := Gr.cell hbl e8
    replace x9 := Gr.cell hSl x9
    replace e9 := Gr.cell hbl e9
    replace x10 := Gr.cell hSl x10
    replace e10 := Gr.cell hbl e10
    replace x11 := Gr.cell hSl x11
    replace e11 := Gr.cell hbl e11
    have hne : Nonempty (Gr w4) := ⟨⟨w4, Below.refl _ _⟩⟩
    refine wp_region_gr (by kernel_rfl) (by kernel_rfl) ?_
    repeat (go_big_quiet_step ((rename_i g; exact calls_gr (unhide HL5 g))))
    refine wpQuiet_nil ?_
    rintro _ ⟨g, rfl⟩
    clear x0 x1 x2 x3 x4 x5 x6 x7 x8 x9 x10 x11
    obtain ⟨w6, hB⟩ := g
    dsimp only
    have hB6 := unhide BS _ _ hB4 hB
    have l6 := l4.all hB
    have hF6 : OwOps w6 (.slice (some ⟨b, 0, none⟩) l.length cu) l F := OwOps.frm hF4 (Frm.ofBelow hB []) (fun _ _ => by simp)
    clear hB4 hB l4 hF4 HL5 e0 e1 e2 e3 e4 e5 e6 e7 e8 e9 e10 e11
    cases hkl : klB (opBytes o) (opBytes l[p]) with
    | false =>
      rw [hkl] at hput
      have KK := hide (unhide HQ2 (.slice (some ⟨b, 0, none⟩) l.length cu) true w6 hok.symm ⟨F, by rw [hput]; exact hF6, hN, fun q hq => .inl hq, F0 _ hB6⟩)
      clear HQ2 hput
      go_wp2_with fail
      exact unhide KK
    | true =>
      rw [hkl, if_pos rfl] at hput
      obtain ⟨x0, x1, x2, x3, x4, x5, x6, x7, x8, x9, x10, x11⟩ := l6.twelve
      go_wp2_with fail
      clear x0 x1 x2 x3 x4 x5 x6 x7 x8 x9 x10 x11
      refine (unhide HC _ hB6).mono ?_
      rintro e w7 ⟨a1, c1, a2, c2, a3, c3, rfl, oc, hB⟩
      have hB7 := unhide BS _ _ hB6 hB
      have hF7 : OwOps w7 (.slice (some ⟨b, 0, none⟩) l.length cu) l F := OwOps.frm hF6 (Frm.ofBelow hB []) (fun _ _ => by simp)
      have hcr := oc.rng
      have hS6 : S ≤ w6.heap.size := Nat.le_of_lt l6.lt
      have hs67 := hB.size
      have hcF : ∀ q ∈ F, q ∉ FB (.slice a1 o.key.length c1) ++ FB (.slice a2 o.name.length c2) ++ FB (.slice a3 o.text.length c3) := fun q hq hq' => by have := hcr q hq'; have := hlt q hq; omega
      obtain ⟨F', hO, hN', hsub, hfs⟩ := OwOps.setAt hF7 hN p hpos (.int .i64 o.kind) (.int .i64 o.atN) (.int .i64 o.atR) (.int .i64 o.nodeN) (.int .i64 o.nodeR) (.int .i64 o.parN) (.int .i64 o.parR) (.slice a1 o.key.length c1) (.int .i64 o.elem) (.slice a2 o.name.length c2) (.slice a3 o.text.length c3) (.bool o.gone) o _ oc.cells oc.2.2.2 hcF
      obtain ⟨xs, hx⟩ : ∃ xs : List Value, w7.ownsRow 0 28 12 (.slice (some ⟨b, 0, none⟩) l.length cu) l.length xs := by
        obtain ⟨Cs, Fs, _, _, _, hrow, _⟩ := hF7
        exact ⟨_, hrow⟩
      have hxl := hx.1
      have hcell : ∀ j, j < 12 → ∃ y, w7.cell? ⟨b, p * 12 + j, none⟩ = some y := fun j hj => ⟨xs[p * 12 + j]'(by omega), by rw [hx.cellAt (p * 12 + j) (by omega), List.getElem?_eq_getElem (by omega)]⟩
      obtain ⟨y0, q0⟩ := hcell 0 (by omega)
      obtain ⟨y1, q1⟩ := hcell 1 (by omega)
      obtain ⟨y2, q2⟩ := hcell 2 (by omega)
      obtain ⟨y3, q3⟩ := hcell 3 (by omega)
      obtain ⟨y4, q4⟩ := hcell 4 (by omega)
      obtain ⟨y5, q5⟩ := hcell 5 (by omega)
      obtain ⟨y6, q6⟩ := hcell 6 (by omega)
      obtain ⟨y7, q7⟩ := hcell 7 (by omega)
      obtain ⟨y8, q8⟩ := hcell 8 (by omega)
      obtain ⟨y9, q9⟩ := hcell 9 (by omega)
      obtain ⟨y10, q10⟩ := hcell 10 (by omega)
      obtain ⟨y11, q11⟩ := hcell 11 (by omega)
      rw [Nat.add_zero] at q0
      have f0 := hx.frozenAt (p * 12)
      have f1 := hx.frozenAt (p * 12 + 1)
      have f2 := hx.frozenAt (p * 12 + 2)
      have f3 := hx.frozenAt (p * 12 + 3)
      have f4 := hx.frozenAt (p * 12 + 4)
      have f5 := hx.frozenAt (p * 12 + 5)
      have f6 := hx.frozenAt (p * 12 + 6)
      have f7 := hx.frozenAt (p * 12 + 7)
      have f8 := hx.frozenAt (p * 12 + 8)
      have f9 := hx.frozenAt (p * 12 + 9)
      have f10 := hx.frozenAt (p * 12 + 10)
      have f11 := hx.frozenAt (p * 12 + 11)
      have hf8 := (F0 _ hB7).trans (hfs.mono (S' := FB (.slice (some ⟨b, 0, none⟩) l.length cu)) (fun q hq => by simp at hq; simp [FB, Value.ownBlock, hq]))
      have KK := hide (unhide HQ2 (.slice (some ⟨b, 0, none⟩) l.length cu) true _ hok.symm ⟨F', by rw [hput]; exact hO, hN', fun q hq => by
        have s8 := hfs.size
        rcases hsub q hq with h | h
        · exact .inl h
        · have := hcr q h; exact .inr (by omega), hf8⟩)
      clear HQ2 hput hO hF6 hF7 hx hcell hfs hf8 hB7 hB6 oc HC F0
      go_wp2_with fail
      exact unhide KK
  | false =>
    have hput : putL l o = if 150 ≤ l.length then l else l.take (posO l o.atN o.atR) ++ [o] ++ l.drop (posO l o.atN o.atR) := by unfold putL; rw [hth]; rfl
    have hok : putOk l o = decide (l.length < 150) := by unfold putOk; rw [hth]; rfl
    have hple := posO_le l o.atN o.atR
    generalize posO l o.atN o.atR = p at *
    clear HL
    by_cases hfull : l.length = 150
    · rw [if_pos (by omega)] at hput
      have hok' : putOk l o = false := by rw [hok]; simp; omega
      have KK := hide (unhide HQ2 (.slice au l.length cu) false w4 hok'.symm ⟨F, by rw [hput]; exact hF4, hN, fun q hq => .inl hq, F0 _ hB4⟩)
      have hfi : (l.length : Int) = 150 := by omega
      rw [hfull] at KK
      clear HQ2 hput
      go_wp2_with fail
      exact unhide KK
    · rw [if_neg (by omega)] at hput
      have hok' : putOk l o = true := by rw [hok]; simp; omega
      have hfi : ¬ ((l.length : Int) = 150) := by omega
      obtain ⟨x0, x1, x2, x3, x4, x5, x6, x7, x8, x9, x10, x11⟩ := l4.twelve
      go_wp2_with fail
      clear x0 x1 x2 x3 x4 x5 x6 x7 x8 x9 x10 x11
      refine (unhide HC _ hB4).mono ?_
      rintro e w5 ⟨a1, c1, a2, c2, a3, c3, rfl, oc, hB⟩
      have hB5 := unhide BS _ _ hB4 hB
      have hF5 : OwOps w5 (.slice au l.length cu) l F := OwOps.frm hF4 (Frm.ofBelow hB []) (fun _ _ => by simp)
      have hcr := oc.rng
      have hcF : ∀ q ∈ F, q ∉ FB (.slice a1 o.key.length c1) ++ FB (.slice a2 o.name.length c2) ++ FB (.slice a3 o.text.length c3) := fun q hq hq' => by have := hcr q hq'; have := hlt q hq; omega
      have hsz5 := hB.size
      have hA6 := hB5.alloc (by omega) (.cells #[.int .i64 o.kind, .int .i64 o.atN, .int .i64 o.atR, .int .i64 o.nodeN, .int .i64 o.nodeR, .int .i64 o.parN, .int .i64 o.parR, .slice a1 o.key.length c1, .int .i64 o.elem, .slice a2 o.name.length c2, .slice a3 o.text.length c3, .bool o.gone] 28)
      have lv := Loc.made w5 #[.int .i64 o.kind, .int .i64 o.atN, .int .i64 o.atR, .int .i64 o.nodeN, .int .i64 o.nodeR, .int .i64 o.parN, .int .i64 o.parR, .slice a1 o.key.length c1, .int .i64 o.elem, .slice a2 o.name.length c2, .slice a3 o.text.length c3, .bool o.gone] 28
      have oc6 := oc.keep ((Below.refl w5.heap.size w5).alloc (Nat.le_refl _) (.cells #[.int .i64 o.kind, .int .i64 o.atN, .int .i64 o.atR, .int .i64 o.nodeN, .int .i64 o.nodeR, .int .i64 o.parN, .int .i64 o.parR, .slice a1 o.key.length c1, .int .i64 o.elem, .slice a2 o.name.length c2, .slice a3 o.text.length c3, .bool o.gone] 28))
      have hF6 : OwOps (w5.alloc (.cells #[.int .i64 o.kind, .int .i64 o.atN, .int .i64 o.atR, .int .i64 o.nodeN, .int .i64 o.nodeR, .int .i64 o.parN, .int .i64 o.parR, .slice a1 o.key.length c1, .int .i64 o.elem, .slice a2 o.name.length c2, .slice a3 o.text.length c3, .bool o.gone] 28)) (.slice au l.length cu) l F := OwOps.frm hF5 (Frm.ofBelow ((Below.refl w5.heap.size w5).alloc (Nat.le_refl _) _) []) (fun _ _ => by simp)
      have hvF : w5.heap.size ∉ F := fun hq => by have := hlt _ hq; omega
      clear hB4 hF4 hF5 oc HC
      go_wp2_with fail
      generalize (w5.alloc (.cells #[.int .i64 o.kind, .int .i64 o.atN, .int .i64 o.atR, .int .i64 o.nodeN, .int .i64 o.nodeR, .int .i64 o.parN, .int .i64 o.parR, .slice a1 o.key.length c1, .int .i64 o.elem, .slice a2 o.name.length c2, .slice a3 o.text.length c3, .bool o.gone] 28)) = w6 at *
      refine (insO_any w6 _ l F p w5.heap.size [.int .i64 o.kind, .int .i64 o.atN, .int .i64 o.atR, .int .i64 o.nodeN, .int .i64 o.nodeR, .int .i64 o.parN, .int .i64 o.parR, .slice a1 o.key.length c1, .int .i64 o.elem, .slice a2 o.name.length c2, .slice a3 o.text.length c3, .bool o.gone] o _ hF6 hN hple (by omega) lv oc6.cells oc6.2.2.2 hcF hvF).mono ?_
      rintro e w7 ⟨u, F', rfl, hO, hN', hsub, hf⟩
      have hf7 := (F0 _ hA6).trans hf
      have KK := hide (unhide HQ2 u true w7 hok'.symm ⟨F', by rw [hput, List.append_assoc]; exact hO, hN', fun q hq => by
        have s7 := hf.size
        have lvlt := lv.lt
        rcases hsub q hq with h | h | h
        · exact .inl h
        · have := hcr q h; exact .inr (by omega)
        · exact .inr (by omega), hf7⟩)
      clear HQ2 hput hO hF6 F0
      go_wp2_with fail
      exact unhide KK
end Go.Proofs.YtkmmhlimihkgfaaGreat

/- impl.OpsOk answers what the plain test of a row says. -/
namespace Go.Proofs.YtkmmhlimihkgfaaGreat
open Go.RowKit
set_option linter.unusedVariables false
set_option maxRecDepth 100000

set_option maxHeartbeats 6400000 in
theorem opsI_any (w : World) (v : Value) (l : List OpV) (h : RdOps w v l) :
    Calls Tryz.prog 39 #[v] w fun e w' => e = .returned (.bool (opsB l)) ∧ Below w.heap.size w w' := by
  have hm := h.1
  unfold maxLen at hm
  by_cases hlong : 150 < l.length
  · obtain ⟨a, cap, rfl, _, _⟩ := Elems.shape h
    have hd : (150 : Int) < (l.length : Int) := by omega
    rw [opsB_long hlong]
    go_enter Tryz.func39, Tryz.ntmps39
    go_wp2_with fail
    go_ret
    exact ⟨rfl, Below.refl _ _⟩
  have hd : ¬ (150 : Int) < (l.length : Int) := by omega
  obtain ⟨rfl, a, cap, rfl⟩ | ⟨b, off, cap, rfl, hnil, g4, g5⟩ := h.cases
  · go_enter Tryz.func39, Tryz.ntmps39
    go_wp2_with fail
    refine wp_loop_rounds 1 ?_
    rw [rounds_succ]
    go_wp2_with fail
    go_ret
    exact ⟨rfl, Below.refl _ _⟩
  have HG := hide (fun hh => opsB_good (l := l) (by omega) hh)
  have HN := hide (fun k hk hh => opsB_bad (l := l) (k := k) hk hh)
  generalize opsB l = res at *
  go_enter Tryz.func39, Tryz.ntmps39
  go_wp2_with fail
  go_loopw [3, 4, 10] (fun _ _ i wr => ∃ k : Nat, k ≤ l.length ∧ i = .int .i64 k ∧ (∀ j, j < k → okAt l j = true) ∧ Below w.heap.size w wr) (fun _ _ i _ => l.length - (intOf i).toNat)
  case atStart => exact ⟨0, Nat.zero_le _, rfl, fun j hj => by omega, Below.refl _ _⟩
  case round =>
    obtain ⟨k, hk, rfl, hok, hB⟩ := hrel
    by_cases hlt : k < l.length
    · have HX := hide (fun W u (hu : RdOp W u l[k]) => opI_any W u l[k] hu)
      have HL := hide (fun W n r n' r' => lessI_any W n r n' r')
      have H0 := hide (fun (h : opB l[k] = false) => okAt_no hlt h)
      have HZ := hide (fun (h : opB l[k] = true) (e : k = 0) => (show okAt l k = true by subst e; exact okAt_0 hlt h))
      have HS := hide (fun j (e : k = j + 1) (h : opB l[k] = true) => (show okAt l k = lessB (l[j]'(by omega)).atN (l[j]'(by omega)).atR l[k].atN l[k].atR by subst e; exact okAt_s hlt h))
      have HP := hide (fun j (e : k = j + 1) => opc_at hB g4 (g5 j (by omega)))
      have HJ := hide (fun j (hj : j < k + 1) (h : okAt l k = true) => (show okAt l j = true by rcases Nat.lt_succ_iff_lt_or_eq.1 hj with h1 | rfl; exact hok j h1; exact h))
      have HNK := hide (fun (h : okAt l k = false) => unhide HN k hlt h)
      obtain ⟨a1, c1, a2, c2, a3, c3, e0, e1, e2, e3, e4, e5, e6, e7, e8, e9, e10, e11, hr⟩ := opc_at hB g4 (g5 k hlt)
      have hlt' : (k : Int) < (l.length : Int) := by omega
      have hk0 : (0 : Int) ≤ (k : Int) := by omega
      have HR := hide hr
      unfold opVal at HR
      generalize hoo : l[k] = o at *
      generalize o.key.length = nK at *
      generalize o.name.length = nN at *
      generalize o.text.length = nT at *
      clear g5 hr hnil hoo HG HN hok
      generalize okAt l k = okk at *
      have lo := Loc.made wr #[.int .i64 o.kind, .int .i64 o.atN, .int .i64 o.atR, .int .i64 o.nodeN, .int .i64 o.nodeR, .int .i64 o.parN, .int .i64 o.parR, .slice a1 nK c1, .int .i64 o.elem, .slice a2 nN c2, .slice a3 nT c3, .bool o.gone] 28
      have hAb := (Below.refl wr.heap.size wr).alloc (Nat.le_refl _) (.cells #[.int .i64 o.kind, .int .i64 o.atN, .int .i64 o.atR, .int .i64 o.nodeN, .int .i64 o.nodeR, .int .i64 o.parN, .int .i64 o.parR, .slice a1 nK c1, .int .i64 o.elem, .slice a2 nN c2, .slice a3 nT c3, .bool o.gone] 28)
      have LL := hide (And.intro lo hAb)
      clear lo hAb
      go_wp2_with fail
      obtain ⟨lo, hAb⟩ := unhide LL
      clear LL
      have hB' := bstep hB hAb
      have HRb := hide ((unhide HR).keep hAb)
      have g4' : b < wr.heap.size := Nat.lt_of_lt_of_le g4 hB.size
      have hcb := fun a v (hb : a.block < wr.heap.size) (h : wr.cell? a = some v) => (hAb.cell hb).trans h
      have hzz := hAb.size
      have HCB := hide hcb
      clear hcb hAb HR
      generalize (wr.alloc (.cells #[.int .i64 o.kind, .int .i64 o.atN, .int .i64 o.atR, .int .i64 o.nodeN, .int .i64 o.nodeR, .int .i64 o.parN, .int .i64 o.parR, .slice a1 nK c1, .int .i64 o.elem, .slice a2 nN c2, .slice a3 nT c3, .bool o.gone] 28)) = wb at *
      have hSl : wr.heap.size < wb.heap.size := lo.lt
      generalize wr.heap.size = S at *
      have hNE : Nonempty (Gr wb) := ⟨⟨wb, Below.refl _ _⟩⟩
      obtain ⟨y0, y1, y2, y3, y4, y5, y6, y7, y8, y9, y10, y11⟩ := lo.twelve
      replace y0 := Gr.cell hSl y0
      replace y1 := Gr.cell hSl y1
      replace y2 := Gr.cell hSl y2
      replace y3 := Gr.cell hSl y3
      replace y4 := Gr.cell hSl y4
      replace y5 := Gr.cell hSl y5
      replace y6 := Gr.cell hSl y6
      replace y7 := Gr.cell hSl y7
      replace y8 := Gr.cell hSl y8
      replace y9 := Gr.cell hSl y9
      replace y10 := Gr.cell hSl y10
      replace y11 := Gr.cell hSl y11
      clear lo e0 e1 e2 e3 e4 e5 e6 e7 e8 e9 e10 e11
      by_cases hq : opB o = true
      · rw [hq] at HX
        rcases Nat.eq_zero_or_pos k with hz | hpos
        · have HY := hide (unhide HZ hq hz)
          have dz3 : ¬ 0 < k := by omega
          have dz4 : decide (0 < k) = false := by simp; omega
          clear H0 HZ HS HP hq HL hz
          refine wp_region_gr (by kernel_rfl) (by kernel_rfl) ?_
          repeat (go_big_quiet_step ((rename_i p; exact calls_gr (unhide HX _ _ ((unhide HRb).keep p.h)))))
          refine wpQuiet_nil ?_
          rintro _ ⟨p, rfl⟩
          have hB3 := bstep hB' p.h
          clear y0 y1 y2 y3 y4 y5 y6 y7 y8 y9 y10 y11 HRb
          go_wp2_with fail
          go_roundw
          case rel => exact ⟨k + 1, by omega, by go_num, fun j hj => unhide HJ j hj (unhide HY), hB3⟩
          case measure => simp [intOf]; omega
        · obtain ⟨j, ej⟩ : ∃ j, k = j + 1 := ⟨k - 1, by omega⟩
          have dz3 : 0 < k := hpos
          have dz4 : decide (0 < k) = true := by simp; omega
          have hj1 : (k : Int) - 1 = (j : Int) := by omega
          have hj0 : (0 : Int) ≤ (j : Int) := by omega
          have hjl : (j : Int) < (l.length : Int) := by omega
          obtain ⟨pn, pr, i1, i2, HE⟩ : ∃ pn pr, wb.cell? ⟨b, off + j * 12 + 1, none⟩ = some (.int .i64 pn) ∧ wb.cell? ⟨b, off + j * 12 + 2, none⟩ = some (.int .i64 pr) ∧ okk = lessB pn pr o.atN o.atR := by
            obtain ⟨_, _, _, _, _, _, _, i1, i2, _⟩ := unhide HP j ej
            exact ⟨_, _, unhide HCB _ _ g4' i1, unhide HCB _ _ g4' i2, unhide HS j ej hq⟩
          replace i1 := Gr.cell (Nat.lt_trans g4' hSl) i1
          replace i2 := Gr.cell (Nat.lt_trans g4' hSl) i2
          clear H0 HZ HS HP hq hpos
          have HLL := hide (fun W => unhide HL W pn pr o.atN o.atR)
          generalize lessB pn pr o.atN o.atR = lb at *
          subst HE
          clear HL ej
          refine wp_region_gr (by kernel_rfl) (by kernel_rfl) ?_
          repeat (go_big_quiet_step ((rename_i p; first | exact calls_gr (unhide HX _ _ ((unhide HRb).keep p.h)) | exact calls_gr (unhide HLL _))))
          refine wpQuiet_nil ?_
          rintro _ ⟨p, rfl⟩
          have hB3 := bstep hB' p.h
          clear y0 y1 y2 y3 y4 y5 y6 y7 y8 y9 y10 y11 HRb i1 i2
          cases okk with
          | true =>
            go_wp2_with fail
            go_roundw
            case rel => exact ⟨k + 1, by omega, by go_num, fun j hj => unhide HJ j hj rfl, hB3⟩
            case measure => simp [intOf]; omega
          | false =>
            have HF := hide (unhide HNK rfl)
            clear HNK
            go_wp2_with fail
            go_ret
            exact ⟨by rw [unhide HF]; rfl, hB3⟩
      · have hq' : opB o = false := by simpa using hq
        rw [hq'] at HX
        have HY := hide (unhide HNK (unhide H0 hq'))
        clear H0 HZ HS HP hq hq' HL HNK
        refine wp_region_gr (by kernel_rfl) (by kernel_rfl) ?_
        repeat (go_big_quiet_step ((rename_i p; exact calls_gr (unhide HX _ _ ((unhide HRb).keep p.h)))))
        refine wpQuiet_nil ?_
        rintro _ ⟨p, rfl⟩
        have hB3 := bstep hB' p.h
        clear y0 y1 y2 y3 y4 y5 y6 y7 y8 y9 y10 y11 HRb
        go_wp2_with fail
        go_ret
        exact ⟨by rw [unhide HY]; rfl, hB3⟩
    · have HY := hide (unhide HG (fun j hj => hok j (by omega)))
      clear g5
      go_wp2_with fail
      go_ret
      exact ⟨by rw [unhide HY]; rfl, hB⟩
end Go.Proofs.YtkmmhlimihkgfaaGreat

/- impl.Put. -/
namespace Go.Proofs.YtkmmhlimihkgfaaGreat
open Go.RowKit
set_option linter.unusedVariables false
set_option maxRecDepth 100000

set_option maxHeartbeats 40000000 in
theorem iput_any (w : World) (v vo : Value) (l : List OpV) (o : OpV) (h : RdOps w v l) (ho : RdOp w vo o) (hs : szO o ≤ 2097152) (hls : ∀ x ∈ l, szO x ≤ 2097152) :
    Calls Tryz.prog 9 #[v, vo] w fun e w' => ∃ u, e = .returned (.tuple #[u, .bool (putAns l o)]) ∧ ∃ F, OwOps w' u (putV l o) F ∧ F.Nodup ∧ Rng F w.heap.size w'.heap.size ∧ Below w.heap.size w w' := by
  have HO := hide (fun (W : World) (hW : Below w.heap.size w W) => opI_any W vo o (ho.keep hW))
  have HS := hide (fun (W : World) (hW : Below w.heap.size w W) => opsI_any W v l (h.keep hW))
  have HP := hide (fun (hl : l.length ≤ 150) (W : World) (hW : Below w.heap.size w W) => copyOps_any W v l (h.keep hW) (by omega) (fun x hx => by have := hls x hx; omega))
  have HN := hide (fun (hc : opsB l = true) (hb : opB o = true) (W : World) (hW : Below w.heap.size w W) u F (hF : OwOps W u l F) (hN : F.Nodup) => putInto_any W u vo l o F hF hN hc (ho.keep hW) hb hs hls)
  obtain ⟨k, n, t, rfl, hk, hn, ht⟩ := ho
  obtain ⟨ak, ck, rfl, _, _⟩ := hk.shape
  obtain ⟨an, cn, rfl, _, _⟩ := hn.shape
  obtain ⟨tt, ct, rfl, _, _⟩ := ht.shape
  obtain ⟨av, cv, rfl, _, _⟩ := Elems.shape h
  clear hk hn ht h hs hls
  have hA0 := (Below.refl w.heap.size w).alloc (Nat.le_refl _) (.cells #[.int .i64 o.kind, .int .i64 o.atN, .int .i64 o.atR, .int .i64 o.nodeN, .int .i64 o.nodeR, .int .i64 o.parN, .int .i64 o.parR, .slice ak o.key.length ck, .int .i64 o.elem, .slice an o.name.length cn, .slice tt o.text.length ct, .bool o.gone] 28)
  have l0 := Loc.made w #[.int .i64 o.kind, .int .i64 o.atN, .int .i64 o.atR, .int .i64 o.nodeN, .int .i64 o.nodeR, .int .i64 o.parN, .int .i64 o.parR, .slice ak o.key.length ck, .int .i64 o.elem, .slice an o.name.length cn, .slice tt o.text.length ct, .bool o.gone] 28
  unfold opVal at HO HN
  unfold putV putAns
  refine calls_via ?_
  intro Q HQ
  unfold opVal
  go_enter Tryz.func9, Tryz.ntmps9
  go_wp2_with fail
  generalize (w.alloc (.cells #[.int .i64 o.kind, .int .i64 o.atN, .int .i64 o.atR, .int .i64 o.nodeN, .int .i64 o.nodeR, .int .i64 o.parN, .int .i64 o.parR, .slice ak o.key.length ck, .int .i64 o.elem, .slice an o.name.length cn, .slice tt o.text.length ct, .bool o.gone] 28)) = wa at *
  refine (unhide HO _ hA0).mono ?_
  rintro e w1 ⟨rfl, hB⟩
  replace hA0 := bstep hA0 hB
  replace l0 := l0.all hB
  clear hB HO
  cases hb : opB o with
  | false =>
    rw [hb] at HQ
    rw [Bool.and_false] at HQ
    have KK := hide (unhide HQ (.returned (.tuple #[.slice none 0 0, .bool false])) w1 ⟨.slice none 0 0, rfl, [], owOps_none _, List.nodup_nil, Rng.nil _ _, hA0⟩)
    clear HQ
    go_wp2_with fail
    exact unhide KK
  | true =>
    go_wp2_with fail
    refine (unhide HS _ hA0).mono ?_
    rintro e w2 ⟨rfl, hB⟩
    replace hA0 := bstep hA0 hB
    replace l0 := l0.all hB
    clear hB HS
    cases hc : opsB l with
    | false =>
      rw [hb, hc] at HQ
      rw [Bool.false_and] at HQ
      have KK := hide (unhide HQ (.returned (.tuple #[.slice none 0 0, .bool false])) w2 ⟨.slice none 0 0, rfl, [], owOps_none _, List.nodup_nil, Rng.nil _ _, hA0⟩)
      clear HQ
      go_wp2_with fail
      exact unhide KK
    | true =>
      rw [hb, hc] at HQ
      have hl := opsB_len hc
      have HQ2 := hide (fun u kk w9 (hkk : kk = putOk l o) (z : ∃ F, OwOps w9 u (putL l o) F ∧ F.Nodup ∧ Rng F w.heap.size w9.heap.size ∧ Below w.heap.size w w9) => unhide HQ (.returned (.tuple #[u, .bool kk])) w9 ⟨u, by rw [hkk]; rfl, z⟩)
      replace HN := hide (unhide HN hc hb)
      clear HQ
      have HLO := hide l0
      have hlow := hA0.size
      obtain ⟨x0, x1, x2, x3, x4, x5, x6, x7, x8, x9, x10, x11⟩ := l0.twelve
      go_wp2_with fail
      go_region_with (first
        | (go_at_call 41; refine (unhide HP hl _ (hA0.drew)).mono ?_; clear HP; rintro e w3 ⟨u, rfl, F, hF, hN, hRng, hB⟩; have hK3 := bstep ((Below.refl w2.heap.size w2).drew) hB; obtain ⟨x0, x1, x2, x3, x4, x5, x6, x7, x8, x9, x10, x11⟩ := ((unhide HLO).all hK3).twelve; have hRng' := hRng.mono (lo' := w.heap.size) (by simpa using hlow) (Nat.le_refl _); obtain ⟨au, cu, rfl, _, _⟩ := Elems.shape hF.rd)
        | (go_at_call 40; refine (unhide HN _ (bstep hA0 hK3) _ F hF hN).mono ?_; clear HN; rintro e w4 ⟨u, rfl, F', hO, hN', hsub, hf⟩; obtain ⟨bu, du, rfl, _, _⟩ := Elems.shape hO.rd))
      all_goals
        have hA3 := bstep hA0 hK3
        have hFv : ∀ q ∈ FB (.slice au l.length cu), w.heap.size ≤ q := fun q hq => (hRng' q (by obtain ⟨Cs, Fs, _, _, _, _, rfl⟩ := hF; exact List.mem_append_left _ hq)).1
        have hs4 := hf.size
        have KK := hide (unhide HQ2 _ _ w4 rfl ⟨F', hO, hN', fun q hq => by
          rcases hsub q hq with h | h
          · have := hRng' q h; omega
          · have := hA3.size; omega, hA3.trans (hf.below hA3.size hFv)⟩)
        clear HQ2 hO hF hf x0 x1 x2 x3 x4 x5 x6 x7 x8 x9 x10 x11
        go_wp2_with fail
        first | exact unhide KK | (go_ret; exact unhide KK) | exact bodyPost_ret (v := .tuple #[.slice bu (putL l o).length du, .bool (putOk l o)]) (by simp [results, Tryz.results9, go_sem]) rfl (unhide KK)
end Go.Proofs.YtkmmhlimihkgfaaGreat

/- The law's own helpers that write a count into a row of bytes and look for it again, by their contracts. -/
namespace Go.Proofs.YtkmmhlimihkgfaaGreat
open Go.RowKit
set_option linter.unusedVariables false

/-- n bytes that count on from k. -/
def marks (k : Int) (n : Nat) : List Int := (List.range n).map fun i : Nat => (k + (i : Int)) % 256
theorem marks_len (k : Int) (n : Nat) : (marks k n).length = n := by simp [marks]
theorem marks_ok (k : Int) (n : Nat) : okB (marks k n) := fun x hx => by
  obtain ⟨i, _, rfl⟩ := List.mem_map.1 hx
  omega
theorem marks_at (k : Int) (n i : Nat) (h : i < n) : (marks k n).getD i 0 = (k + (i : Int)) % 256 := by simp [marks, h]
theorem marks_step (k : Int) (l : List Int) (j : Nat) (h : j < l.length) : (vals (marks k j ++ l.drop j)).set j (.int .u8 ((k + (j : Int)) % 256)) = vals (marks k (j + 1) ++ l.drop (j + 1)) := by
  have e : marks k (j + 1) = marks k j ++ [(k + (j : Int)) % 256] := by simp [marks, List.range_succ]
  have hl : (vals (marks k j)).length = j := by simp [vals, marks_len]
  rw [vals_app, List.set_append_right _ _ (by omega), hl, Nat.sub_self, e, List.drop_eq_getElem_cons h, vals_app, vals_app, List.append_assoc]
  rfl

theorem markB_nil (w : World) (a : Option Addr) (cap : Nat) (k : Int) :
    Calls Tryz.prog 55 #[.slice a 0 cap, .int .i64 k] w fun e w' => e = .returned (.int .i64 k) ∧ w' = w := by
  go_enter Tryz.func55, Tryz.ntmps55
  go_wp2
  refine wp_loop_rounds 1 ?_
  rw [rounds_succ]
  go_wp2
  go_ret
  exact ⟨rfl, rfl⟩

set_option maxHeartbeats 1600000 in
set_option maxRecDepth 1000000 in
theorem markB_row (w : World) (base g cap : Nat) (l : List Int) (k : Int) (hw : w.ownsRow base 5 1 (.slice (some ⟨g, 0, none⟩) l.length cap) l.length (vals l)) (hs : l.length ≤ 16777216) (h0 : 0 ≤ k) (h1 : k ≤ 1000000000) :
    Calls Tryz.prog 55 #[.slice (some ⟨g, 0, none⟩) l.length cap, .int .i64 k] w fun e w' => e = .returned (.int .i64 (k + l.length)) ∧
      w'.ownsRow base 5 1 (.slice (some ⟨g, 0, none⟩) l.length cap) l.length (vals (marks k l.length)) ∧ w.grownBy w' (some g) := by
  generalize hn : l.length = n at *
  have HN := hide hn
  clear hn
  go_enter Tryz.func55, Tryz.ntmps55
  go_wp2
  go_loopw [1, 5] (fun c i wr => ∃ j : Nat, j ≤ n ∧ i = .int .i64 j ∧ c = .int .i64 (k + (j : Int)) ∧ wr.ownsRow base 5 1 (.slice (some ⟨g, 0, none⟩) n cap) n (vals (marks k j ++ l.drop j)) ∧ w.grownBy wr (some g)) (fun _ i _ => n - (intOf i).toNat)
  case atStart => exact ⟨0, Nat.zero_le _, rfl, by simp, by simpa [marks] using hw, World.grownBy.refl _ _⟩
  case round =>
    obtain ⟨j, hj, rfl, rfl, hr, hg⟩ := hrel
    by_cases hlt : j < n
    · have hlen := unhide HN
      have hjl : j < l.length := by omega
      obtain ⟨y, hy⟩ : ∃ y, wr.cell? ⟨g, j, none⟩ = some (.int .u8 y) := ⟨(marks k j ++ l.drop j).getD j 0, by rw [hr.cellAt j (by omega), vals_at (by simp [marks_len]; omega)]⟩
      have hfr := hr.frozenAt j
      have hst := hr.stored j (.int .u8 ((k + (j : Int)) % 256))
      rw [marks_step k l j hjl] at hst
      have HS := hide hst
      clear hst hr hlen
      have hlt' : (j : Int) < (n : Int) := by omega
      go_wp2
      have R := unhide HS
      go_roundw
      case rel => exact ⟨j + 1, by omega, by go_num, by go_num, R.1, grown_trans hg R.2⟩
      case measure => simp [intOf]; omega
    · have e : j = n := by omega
      subst e
      have hr' : wr.ownsRow base 5 1 (.slice (some ⟨g, 0, none⟩) j cap) j (vals (marks k j)) := by
        have := unhide HN
        rw [List.drop_of_length_le (by omega), List.append_nil] at hr
        exact hr
      clear hr
      go_wp2
      go_ret
      exact ⟨rfl, hr', hg⟩

theorem markB_any (w : World) (base : Nat) (v : Value) (l : List Int) (k : Int) (h : Own w base v l) (hs : l.length ≤ 16777216) (h0 : 0 ≤ k) (h1 : k ≤ 1000000000) :
    Calls Tryz.prog 55 #[v, .int .i64 k] w fun e w' => e = .returned (.int .i64 (k + l.length)) ∧ Own w' base v (marks k l.length) ∧ w.grownBy w' v.ownBlock := by
  obtain ⟨hok, hlen, ⟨rfl, hz⟩ | ⟨g, cap, cur, rfl, hr⟩⟩ := h
  · have e : l = [] := List.eq_nil_of_length_eq_zero hz
    subst e
    refine (markB_nil w none 0 k).mono ?_
    rintro e w' ⟨rfl, rfl⟩
    exact ⟨by simp, ⟨marks_ok _ _, World.ownsRow_nil _ _ _ _⟩, World.grownBy.refl _ _⟩
  · refine (markB_row w base g cap l k ⟨hlen, .inr ⟨g, cap, cur, rfl, hr⟩⟩ hs h0 h1).mono ?_
    rintro e w' ⟨rfl, ho, hg⟩
    refine ⟨rfl, ⟨marks_ok _ _, ?_⟩, hg⟩
    rw [marks_len]
    exact ho

theorem heldB_nil (w : World) (a : Option Addr) (cap : Nat) (k : Int) :
    Calls Tryz.prog 57 #[.slice a 0 cap, .int .i64 k] w fun e w' => e = .returned (.int .i64 k) ∧ w' = w := by
  go_enter Tryz.func57, Tryz.ntmps57
  go_wp2
  refine wp_loop_rounds 1 ?_
  rw [rounds_succ]
  go_wp2
  go_ret
  exact ⟨rfl, rfl⟩

set_option maxHeartbeats 1600000 in
set_option maxRecDepth 1000000 in
theorem heldB_row (w : World) (b off cap n : Nat) (k : Int) (hc : ∀ i, i < n → w.cell? ⟨b, off + i, none⟩ = some (.int .u8 ((marks k n).getD i 0))) (hs : n ≤ 16777216) (h0 : 0 ≤ k) (h1 : k ≤ 1000000000) :
    Calls Tryz.prog 57 #[.slice (some ⟨b, off, none⟩) n cap, .int .i64 k] w fun e w' => e = .returned (.int .i64 (k + n)) ∧ w' = w := by
  go_enter Tryz.func57, Tryz.ntmps57
  go_wp2
  go_loop [1, 5] (fun c i => ∃ j : Nat, j ≤ n ∧ i = .int .i64 j ∧ c = .int .i64 (k + (j : Int))) (fun _ i => n - (intOf i).toNat)
  case atStart => exact ⟨0, Nat.zero_le _, rfl, by simp⟩
  case round =>
    obtain ⟨j, hj, rfl, rfl⟩ := hrel
    by_cases hlt : j < n
    · have c1 := hc j hlt
      rw [marks_at k n j hlt] at c1
      clear hc
      have hlt' : (j : Int) < (n : Int) := by omega
      go_wp2
      go_round
      case rel => exact ⟨j + 1, by omega, by go_num, by go_num⟩
      case measure => simp [intOf]; omega
    · have e : j = n := by omega
      subst e
      clear hc
      go_wp2
      go_ret
      exact ⟨rfl, rfl⟩

theorem heldB_any (w : World) (v : Value) (n : Nat) (k : Int) (h : Byt w v (marks k n)) (hs : n ≤ 16777216) (h0 : 0 ≤ k) (h1 : k ≤ 1000000000) :
    Calls Tryz.prog 57 #[v, .int .i64 k] w fun e w' => e = .returned (.int .i64 (k + n)) ∧ w' = w := by
  obtain ⟨_, _, ⟨rfl, hn⟩ | ⟨x, cap, rfl, hc, hn⟩ | ⟨b, off, cap, rfl, _, _, _, _, h5⟩⟩ := h
  · have e : n = 0 := by have := congrArg List.length hn; rw [marks_len] at this; exact this
    subst e
    refine (heldB_nil w none 0 k).mono ?_
    rintro e w' ⟨rfl, rfl⟩
    exact ⟨by simp, rfl⟩
  · have e : n = 0 := by have := congrArg List.length hn; rw [marks_len] at this; exact this
    subst e
    refine (heldB_nil w (some x) cap k).mono ?_
    rintro e w' ⟨rfl, rfl⟩
    exact ⟨by simp, rfl⟩
  · rw [marks_len] at h5 ⊢
    exact heldB_row w b off cap n k h5 hs h0 h1

end Go.Proofs.YtkmmhlimihkgfaaGreat
