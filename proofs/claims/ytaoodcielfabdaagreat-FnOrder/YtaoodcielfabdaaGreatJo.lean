/- Own texts joined: Ins, InsO, SetO, PutIn, OpsI, IPut, LOrder, DrawF, OpenO. -/
import Derived.Test.YtaoodcielfabdaaGreatJa
import Derived.Test.YtaoodcielfabdaaGreatJb
import Derived.Test.YtaoodcielfabdaaGreatJc
import Derived.Test.YtaoodcielfabdaaGreatJd
import Derived.Test.YtaoodcielfabdaaGreatJe
import Derived.Test.YtaoodcielfabdaaGreatJf
import Derived.Test.YtaoodcielfabdaaGreatJg
import Derived.Test.YtaoodcielfabdaaGreatJh
import Derived.Test.YtaoodcielfabdaaGreatJi
import Derived.Test.YtaoodcielfabdaaGreatJj
import Derived.Test.YtaoodcielfabdaaGreatJk
import Derived.Test.YtaoodcielfabdaaGreatJl
import Derived.Test.YtaoodcielfabdaaGreatJm
import Derived.Test.YtaoodcielfabdaaGreatJn
import Derived.Lib.AppendZerosOnto
import Derived.Lib.Overlaps
import Derived.Lib.Walk
import Derived.Laws.Externs
import Derived.Laws.NewBlocks
import Derived.Deep.RegionLaw
import Derived.Deep.AppendLies
import Derived.Deep.Cut
import Derived.Deep.CutRange
import Derived.Test.YtaoodcielfabdaaGreatProg
import Derived.ChangeArms
import Derived.ChangeSlices
import Derived.WideShapes

/- slices.Insert of one operation into a row of the call's own. -/
namespace Go.Proofs.YtaoodcielfabdaaGreat
open Go.RowKit
set_option linter.unusedVariables false
set_option maxRecDepth 100000

def InsAns (w : World) (v : Value) (n : Nat) (ys : List Value) (e : Ending) (w' : World) : Prop :=
  ∃ g cap, e = .returned (.slice (some ⟨g, 0, none⟩) (n + 1) cap) ∧ w'.ownsRow 0 38 12 (.slice (some ⟨g, 0, none⟩) (n + 1) cap) (n + 1) ys ∧ Frm w w' (FB v) ∧ (v.ownBlock = some g ∨ w.heap.size ≤ g) ∧ g < w'.heap.size

theorem loc_cells {w : World} {g : Nat} {C : List Value} {T : TypeId} (h : Loc w g C.toArray T) (j : Nat) (u : Value) (hj : C[j]? = some u) : w.cell? ((⟨g, 0, none⟩ : Addr).add j) = some u := by
  rw [add_plain, Nat.zero_add, h.cell j]
  simpa using hj

set_option maxHeartbeats 6400000 in
theorem ins_end (w : World) (v : Value) (n vb : Nat) (xs C : List Value) (h : w.ownsRow 0 38 12 v n xs) (hC : C.length = 12) (hl : Loc w vb C.toArray 38) (h1 : ∀ u ∈ C, u.oneCell' = true) (hn : n ≤ 100000) :
    Calls Tryz.prog 97 #[v, .int .i64 n, .slice (some ⟨vb, 0, none⟩) 1 1] w (InsAns w v n (xs ++ C)) := by
  obtain ⟨i0, hi, hz0, hz1, hz2⟩ := info_parts Tryz.info38
  have hcell := loc_cells hl
  have H := hide h
  have hsh : v = .slice none 0 0 ∧ n = 0 ∨ ∃ g cap, v = .slice (some ⟨g, 0, none⟩) n cap ∧ n ≤ cap := by
    rcases h.2 with ⟨rfl, rfl⟩ | ⟨g, cap, cur, rfl, _, _, hc, _⟩
    · exact .inl ⟨rfl, rfl⟩
    · exact .inr ⟨g, cap, rfl, hc⟩
  clear h
  rcases hsh with ⟨rfl, rfl⟩ | ⟨g, cap, rfl, hnc⟩
  · go_enter Tryz.func97, Tryz.ntmps97
    go_wp2_with (at_builtin; refine wpList_append_lies w rfl _ _ 27 rfl 0 38 i0 _ 12 144 Tryz.underlying27 hi hz0 hz1 hz2 rfl (by decide) _ 0 xs rfl (unhide H) ⟨vb, 0, none⟩ 1 1 C rfl (by omega) hcell h1 (by omega) (by unfold maxLen; omega) (by omega) (Nat.zero_le _) w.heap.size rfl ?_; intro g cap w' k1 k2 k3 k4)
    go_ret
    exact ⟨g, cap, rfl, k1, Frm.ofGrown k2, k3.imp id (fun e => by omega), k4⟩
  · go_enter Tryz.func97, Tryz.ntmps97
    go_wp2_with (at_builtin; refine wpList_append_lies w rfl _ _ 27 rfl 0 38 i0 _ 12 144 Tryz.underlying27 hi hz0 hz1 hz2 rfl (by decide) _ n xs rfl (unhide H) ⟨vb, 0, none⟩ 1 1 C rfl (by omega) hcell h1 (by omega) (by unfold maxLen; omega) (by omega) (Nat.zero_le _) w.heap.size rfl ?_; intro g' cap' w' k1 k2 k3 k4)
    all_goals (go_ret; exact ⟨g', cap', rfl, k1, Frm.ofGrown k2, k3.imp id (fun e => by omega), k4⟩)

theorem own_whole {w : World} {g n cap : Nat} {xs : List Value} (h : w.ownsRow 0 38 12 (.slice (some ⟨g, 0, none⟩) n cap) n xs) :
    ∃ R : List Value, Loc w g R.toArray 38 ∧ n ≤ cap ∧ cap ≤ maxLen ∧ R.length = cap * 12 ∧ R.take (n * 12) = xs := by
  rcases h.2 with ⟨h, _⟩ | ⟨g', cap', cur, h, _, hg, a, b, c, d⟩
  · cases h
  · cases h
    exact ⟨cur.toList, by simpa [Loc] using hg, a, b, by simpa using c, d⟩
theorem own_make {w : World} {g n cap : Nat} {R xs : List Value} (h : Loc w g R.toArray 38) (a : n ≤ cap) (b : cap ≤ maxLen) (c : R.length = cap * 12) (d : R.take (n * 12) = xs) : w.ownsRow 0 38 12 (.slice (some ⟨g, 0, none⟩) n cap) n xs := by
  refine ⟨?_, .inr ⟨g, cap, R.toArray, rfl, Nat.zero_le _, h, a, b, by simpa using c, by simpa using d⟩⟩
  have : n * 12 ≤ cap * 12 := Nat.mul_le_mul_right _ a
  rw [← d, List.length_take]; omega

set_option maxHeartbeats 8000000 in
theorem ins_grow (w : World) (g n cap i vb : Nat) (xs C : List Value) (h : w.ownsRow 0 38 12 (.slice (some ⟨g, 0, none⟩) n cap) n xs) (hC : C.length = 12) (hl : Loc w vb C.toArray 38) (h1 : ∀ u ∈ C, u.oneCell' = true) (hx1 : ∀ u ∈ xs, u.oneCell' = true) (hn : n ≤ 100000) (hi : i < n) (hroom : cap < n + 1) :
    Calls Tryz.prog 97 #[.slice (some ⟨g, 0, none⟩) n cap, .int .i64 i, .slice (some ⟨vb, 0, none⟩) 1 1] w (InsAns w (.slice (some ⟨g, 0, none⟩) n cap) n (xs.take (i * 12) ++ (C ++ xs.drop (i * 12)))) := by
  obtain ⟨i0, hi0, hz0, hzs, hzb⟩ := info_parts Tryz.info38
  have hsz : (Tryz.prog.info? 38).map (·.size) = some 12 := by rw [hi0]; simp [hzs]
  have hxl := h.1
  obtain ⟨R0, hg, hnc, hcm, hcs, htk⟩ := own_whole h
  have hcells : ∀ j u, xs[j]? = some u → w.cell? ⟨g, j, none⟩ = some u := fun j u hj => by
    rw [hg.cell j]
    rw [← htk, List.getElem?_take] at hj
    split at hj
    · simpa using hj
    · cases hj
  have hin : i * 12 ≤ n * 12 := Nat.mul_le_mul_right _ (by omega)
  have hold : (Builtin.firstCells i0.size i (.slice (some ⟨g, 0, none⟩) i cap)).run Tryz.prog w.drew = .ok (xs.take (i * 12)).toArray w.drew := by
    rw [hzs]
    exact run_firstCells_some w.drew 12 i ⟨g, 0, none⟩ i cap (xs.take (i * 12)) (by rw [List.length_take]; omega) (fun j v hj => by
      rw [add_plain, Nat.zero_add]
      rw [List.getElem?_take] at hj
      split at hj
      · exact hcells j v hj
      · cases hj)
  have hik : i + (n + 1 - i) = n + 1 := by omega
  have hkk : (n : Int) + 1 - (i : Int) = ((n + 1 - i : Nat) : Int) := by omega
  obtain ⟨z, hz⟩ : ∃ z : Value, z = .agg #[.int .i64 0, .int .i64 0, .int .i64 0, .int .i64 0, .int .i64 0, .int .i64 0, .int .i64 0, .slice none 0 0, .int .i64 0, .slice none 0 0, .slice none 0 0, .bool false] := ⟨_, rfl⟩
  have hzc : z.cells.size = 12 := by rw [hz]; rfl
  rw [← hz] at hz0
  obtain ⟨G, hG⟩ : ∃ G, G = grownCap w (n + 1) cap 38 := ⟨_, rfl⟩
  obtain ⟨R, hR⟩ : ∃ R : List Value, R = ((xs.take (i * 12)).toArray ++ Builtin.zeroCells z.cells (n + 1 - i) ++ Builtin.zeroCells z.cells (G - (n + 1))).toList := ⟨_, rfl⟩
  have hrz : ∀ ty, (Builtin.append_ #[27, 3] ty #[.slice (some ⟨g, 0, none⟩) i cap, .int .i64 ((n : Int) + 1 - (i : Int))]).run Tryz.prog w = .ok (.slice (some ⟨w.heap.size, 0, none⟩) (n + 1) G) (w.drew.alloc (.cells R.toArray 38)) := by
    intro ty
    have h := Lib.run_append_grow_zeros w 27 3 ty 38 i0 z .i64 .i64 Tryz.underlying27 Tryz.underlying3 hi0 hz0 (some ⟨g, 0, none⟩) i cap (xs.take (i * 12)) hold (n + 1 - i) (by omega) (by omega) (by omega) (by omega) (by rw [hzb]; omega) (by rw [hzb, hik]; exact growslice_fits hroom (by omega))
    rw [hik, ← hG] at h
    rw [hkk, hR, Array.toArray_toList]
    exact h
  have hGn : n + 1 ≤ G := by rw [hG]; exact grownCap_ge w _ _ _
  have hGm : G ≤ maxLen := by rw [hG]; exact grownCap_le_maxLen w (n + 1) cap 38 (by unfold maxLen; omega)
  have hRl : R.length = G * 12 := by
    rw [hR]
    simp [Builtin.zeroCells, hzc, List.length_take]
    omega
  have hRt : R.take (i * 12) = xs.take (i * 12) := by
    rw [hR]
    simp [List.take_append, List.length_take]
    have e : i * 12 - min (i * 12) xs.length = 0 := by omega
    rw [e]
    simp [List.take_take]
  have hdl : (xs.drop (i * 12)).length = (n - i) * 12 := by rw [List.length_drop]; omega
  have hGi : ¬ (G = i) := by omega
  have hGim : ¬ (G = i + 1) := by omega
  have hci : ¬ (cap = i) := by omega
  have hG63 : G ≤ 9223372036854775807 := by unfold maxLen at hGm; omega
  have hW1 : ((w.alloc (.cells R.toArray 38)).drew).heap[w.heap.size]? = some (.cells R.toArray 38 (0, 0)) := heap_alloc_new w _
  have hlv : Loc (w.alloc (.cells R.toArray 38)).drew vb C.toArray 38 := hl.alloc _
  have hgo : Loc (w.alloc (.cells R.toArray 38)).drew g R0.toArray 38 := hg.alloc _
  have hfa : Frm w (w.alloc (.cells R.toArray 38)).drew [] := ⟨rfl, rfl, rfl, by simp [World.drew], fun k hk _ => heap_alloc_old w _ hk⟩
  have hglt := hg.lt
  have hvlt := hl.lt
  clear hold hkk hik hR hG h hcells
  go_enter Tryz.func97, Tryz.ntmps97
  go_wp2_with (first
    | (at_builtin; refine Lib.wpList_append_run _ rfl _ _ _ _ rfl _ _ rfl rfl _ _ (hrz _) ?_)
    | (refine wpList_copyw rfl _ _ 27 27 rfl 38 12 Tryz.underlying27 hsz w.heap.size (i * 12) (n + 1 - i) (G - i) ⟨vb, 0, none⟩ 1 1 ?_ ?_ R 38 ?_ C 1 (by simp only [Nat.min_def]; split <;> omega) (by omega) ?_ (by omega) h1 ?_; rfl; rfl; exact hW1; exact loc_cells hlv; intro w2 hg2 hf2))
  have hg2' := unhide hg2
  have hgo2 := hgo.frm hf2 (by simp; omega)
  have hcells2 : ∀ j u, (xs.drop (i * 12))[j]? = some u → w2.cell? ((⟨g, i * 12, none⟩ : Addr).add j) = some u := fun j u hj => by
    rw [add_plain, hgo2.cell]
    rw [List.getElem?_drop, ← htk, List.getElem?_take] at hj
    split at hj
    · simpa using hj
    · cases hj
  have hsl : (splice R (i * 12) C).length = G * 12 := by rw [length_splice _ _ _ (by omega)]; exact hRl
  have hd1 : ∀ u ∈ xs.drop (i * 12), u.oneCell' = true := fun u hu => hx1 u (List.mem_of_mem_drop hu)
  have HM := hide (show n - i = Nat.min (n - i) (n - i) by simp only [Nat.min_def]; split <;> omega)
  have hb1 : (0 : Int) ≤ (i : Int) + 1 := by omega
  have hin' : i ≤ n := by omega
  have hb3 : (i : Int) ≤ (n : Int) := by omega
  have hgd : w2.drew.heap[w.heap.size]? = some (.cells (splice R (i * 12) C).toArray 38 (0, 0)) := hg2'
  have hcd : ∀ j u, (xs.drop (i * 12))[j]? = some u → w2.drew.cell? ((⟨g, i * 12, none⟩ : Addr).add j) = some u := hcells2
  have hw1 : IntKind.i64.wrap ((i : Int) + 1) = (i : Int) + 1 := by rw [IntKind.wrap_i64]; omega
  have htn : ((i : Int) + 1).toNat = i + 1 := by omega
  clear hrz hW1 hlv
  go_region_law (refine step_copyw rfl _ _ 27 27 rfl 38 12 Tryz.underlying27 hsz w.heap.size ((i + 1) * 12) (n - i) (G - (i + 1)) ⟨g, i * 12, none⟩ (n - i) (cap - i) (by simp [Act.eval, Act.put]) (by simp [Act.eval, Act.put]) (splice R (i * 12) C) 38 hgd (xs.drop (i * 12)) (n - i) (unhide HM) hdl hcd (by omega) hd1 ?_; intro w3 hg3 hf3)
  go_wp2
  go_ret
  have hfin := ins_new R C (xs.drop (i * 12)) (i * 12) 12 ((n - i) * 12) hC hdl (by omega)
  rw [hRt] at hfin
  have hg3' : Loc w3 w.heap.size (splice (splice R (i * 12) C) (i * 12 + 12) (xs.drop (i * 12))).toArray 38 := by
    have := unhide hg3
    rw [show (i + 1) * 12 = i * 12 + 12 by omega] at this
    exact this
  refine ⟨w.heap.size, G, rfl, own_make hg3' hGn hGm (by rw [length_splice _ _ _ (by omega)]; exact hsl) ?_, ?_, .inr (Nat.le_refl _), hg3'.lt⟩
  · rw [← hfin]; congr 1; omega
  · have f2 : Frm w w2 [] := hfa.new hf2 (fun q hq => by simp at hq; omega)
    have f3 : Frm w w3 [] := f2.new (⟨hf3.os, hf3.tape, hf3.output, hf3.size, hf3.block⟩ : Frm w2 w3 [w.heap.size]) (fun q hq => by simp at hq; omega)
    exact f3.mono (fun q hq => by simp at hq)

theorem loc_shape {w : World} {g : Nat} {C : List Value} {T : TypeId} (h : Loc w g C.toArray T) : w.shape? g = some (T, C.length) := by
  unfold Loc at h
  simp [World.shape?, h]

set_option maxHeartbeats 8000000 in
theorem ins_shift (w : World) (g n cap i vb : Nat) (xs C : List Value) (h : w.ownsRow 0 38 12 (.slice (some ⟨g, 0, none⟩) n cap) n xs) (hC : C.length = 12) (hl : Loc w vb C.toArray 38) (h1 : ∀ u ∈ C, u.oneCell' = true) (hx1 : ∀ u ∈ xs, u.oneCell' = true) (hn : n ≤ 100000) (hi : i < n) (hroom : n + 1 ≤ cap) (hvb : vb ≠ g) :
    Calls Tryz.prog 97 #[.slice (some ⟨g, 0, none⟩) n cap, .int .i64 i, .slice (some ⟨vb, 0, none⟩) 1 1] w (InsAns w (.slice (some ⟨g, 0, none⟩) n cap) n (xs.take (i * 12) ++ (C ++ xs.drop (i * 12)))) := by
  obtain ⟨i0, hi0, hz0, hzs, hzb⟩ := info_parts Tryz.info38
  have hsz : (Tryz.prog.info? 38).map (·.size) = some 12 := by rw [hi0]; simp [hzs]
  have hsz' : ∀ w, (sizeOf 38).run Tryz.prog w = .ok 12 w := fun w => by simp [sizeOf, typeInfo, hi0, hzs]
  have hxl := h.1
  obtain ⟨R0, hg, hnc, hcm, hcs, htk⟩ := own_whole h
  have hov : ∀ lb cb, (callFunc 138 #[.slice (some ⟨vb, 0, none⟩) 1 1, .slice (some ⟨g, (i + 1) * 12, none⟩) lb cb]).run Tryz.prog w = .ok (.value (.bool false)) w := fun lb cb => by
    rw [run_callFunc_extern Tryz.func138 (by kernel_rfl) (by kernel_rfl) (by kernel_rfl) (e := Extern.SlicesOverlaps.overlaps #[27, 27] #[4]) (by kernel_rfl),
      Lib.run_overlaps_apart w 27 4 38 Tryz.underlying27 12 hsz' ⟨vb, 0, none⟩ ⟨g, (i + 1) * 12, none⟩ 1 1 lb cb hvb _ _ _ _ (loc_shape hl) (loc_shape hg) (by rw [hcs]; omega) (hl.frozen 0) (hl.frozen _)]
    rfl
  have hin : i * 12 ≤ n * 12 := Nat.mul_le_mul_right _ (by omega)
  have hRt : R0.take (i * 12) = xs.take (i * 12) := by rw [← htk, List.take_take, Nat.min_eq_left (by omega)]
  have hdl : (xs.drop (i * 12)).length = (n - i) * 12 := by rw [List.length_drop]; omega
  have hd1 : ∀ u ∈ xs.drop (i * 12), u.oneCell' = true := fun u hu => hx1 u (List.mem_of_mem_drop hu)
  have hcells : ∀ j u, (xs.drop (i * 12))[j]? = some u → w.drew.cell? ((⟨g, i * 12, none⟩ : Addr).add j) = some u := fun j u hj => by
    have : w.cell? ((⟨g, i * 12, none⟩ : Addr).add j) = some u := by
      rw [add_plain, hg.cell]
      rw [List.getElem?_drop, ← htk, List.getElem?_take] at hj
      split at hj
      · simpa using hj
      · cases hj
    exact this
  have hgd : w.drew.heap[g]? = some (.cells R0.toArray 38 (0, 0)) := hg
  have hfd : Frm w w.drew [] := ⟨rfl, rfl, rfl, Nat.le_refl _, fun _ _ _ => rfl⟩
  have hld : Loc w.drew vb C.toArray 38 := hl
  have HM := hide (show n - i = Nat.min (n + 1 - i) (n - i) by simp only [Nat.min_def]; split <;> omega)
  have HM2 := hide (show 1 = Nat.min 1 (n + 1 - i) by simp only [Nat.min_def]; split <;> omega)
  have hw1 : IntKind.i64.wrap ((i : Int) + 1) = (i : Int) + 1 := by rw [IntKind.wrap_i64]; omega
  have htn : ((i : Int) + 1).toNat = i + 1 := by omega
  have hb1 : (0 : Int) ≤ (i : Int) + 1 := by omega
  have hin' : i ≤ n := by omega
  have hb3 : (i : Int) ≤ (n : Int) := by omega
  have hb2 : ¬ (cap = i + 1) := by omega
  have hb4 : ¬ (cap = i) := by omega
  have hb5 : (i : Int) ≤ (n : Int) + 1 := by omega
  have hc63 : cap ≤ 9223372036854775807 := by unfold maxLen at hcm; omega
  have hlen := length_splice R0 ((i + 1) * 12) (xs.drop (i * 12)) (by omega)
  clear h
  go_enter Tryz.func97, Tryz.ntmps97
  go_wp2_with (simp only [hov])
  go_region_law (refine step_copyw rfl _ _ 27 27 rfl 38 12 Tryz.underlying27 hsz g ((i + 1) * 12) (n - i) (cap - (i + 1)) ⟨g, i * 12, none⟩ (n + 1 - i) (cap - i) (by simp [Act.eval, Act.put]) (by simp [Act.eval, Act.put]) R0 38 hgd (xs.drop (i * 12)) (n - i) (unhide HM) hdl hcells (by omega) hd1 ?_; intro w3 hg3 hf3)
  have hg3' := unhide hg3
  have hl3 : Loc w3 vb C.toArray 38 := hld.frm hf3 (by simpa using hvb)
  go_wp2_with (refine wpList_copyw rfl _ _ 27 27 rfl 38 12 Tryz.underlying27 hsz g (i * 12) (n + 1 - i) (cap - i) ⟨vb, 0, none⟩ 1 1 ?_ ?_ (splice R0 ((i + 1) * 12) (xs.drop (i * 12))) 38 ?_ C 1 (unhide HM2) (by omega) ?_ (by omega) h1 ?_; rfl; rfl; exact hg3'; exact loc_cells hl3; intro w4 hg4 hf4)
  go_ret
  have hfin := ins_up R0 C (xs.drop (i * 12)) (i * 12) 12 ((n - i) * 12) hC hdl (by omega)
  rw [hRt] at hfin
  have hg4' : Loc w4 g (splice (splice R0 (i * 12 + 12) (xs.drop (i * 12))) (i * 12) C).toArray 38 := by
    have := unhide hg4
    rw [show (i + 1) * 12 = i * 12 + 12 by omega] at this
    exact this
  refine ⟨g, cap, rfl, own_make hg4' hroom hcm ?_ ?_, ?_, .inl rfl, hg4'.lt⟩
  · rw [show (i + 1) * 12 = i * 12 + 12 by omega] at hlen
    rw [length_splice _ _ _ (by omega), hlen]; exact hcs
  · rw [← hfin]; congr 1; omega
  · exact ((hfd.mono (fun q hq => by simp at hq)).trans hf3).trans hf4
end Go.Proofs.YtaoodcielfabdaaGreat

/- Rows of operations of a call's own: one more put in between, one put in another's place. -/
namespace Go.Proofs.YtaoodcielfabdaaGreat
open Go.RowKit
set_option linter.unusedVariables false
set_option maxRecDepth 100000

theorem flat_takeI (size : Nat) : ∀ (Cs : List (List Value)) (i : Nat), (∀ k, k < Cs.length → (Cs.getD k []).length = size) → i ≤ Cs.length → (Cs.take i).flatten = Cs.flatten.take (i * size) ∧ (Cs.drop i).flatten = Cs.flatten.drop (i * size)
  | Cs, 0, _, _ => by simp
  | [], i + 1, _, h => by simp at h
  | C :: Cs, i + 1, hl, h => by
    have h0 : C.length = size := by simpa using hl 0 (by simp)
    obtain ⟨a, b⟩ := flat_takeI size Cs i (fun k hk => by simpa using hl (k + 1) (by simpa using hk)) (by simpa using h)
    have e : (i + 1) * size = C.length + i * size := by rw [h0, Nat.succ_mul]; omega
    constructor
    · rw [List.take_succ_cons, List.flatten_cons, List.flatten_cons, e, List.take_length_add_append, a]
    · rw [List.drop_succ_cons, List.flatten_cons, e, List.drop_length_add_append, b]
theorem getD_ins {α : Type} (l : List (List α)) (x : List α) (i k : Nat) (hi : i ≤ l.length) : (l.take i ++ (x :: l.drop i)).getD k [] = if k < i then l.getD k [] else if k = i then x else l.getD (k - 1) [] := by
  have hl : (l.take i).length = i := by simp; omega
  rw [List.getD_eq_getElem?_getD, List.getElem?_append, hl]
  by_cases h1 : k < i
  · rw [if_pos h1, if_pos h1, List.getElem?_take, if_pos h1, List.getD_eq_getElem?_getD]
  · rw [if_neg h1, if_neg h1]
    by_cases h2 : k = i
    · subst h2; simp
    · rw [if_neg h2, show k - i = (k - i - 1) + 1 by omega, List.getElem?_cons_succ, List.getElem?_drop, List.getD_eq_getElem?_getD]
      congr 2
      omega
theorem get_ins {α : Type} (l : List α) (x : α) (i k : Nat) (hi : i ≤ l.length) (hk : k < (l.take i ++ (x :: l.drop i)).length) : (∃ h : k < l.length, k < i ∧ (l.take i ++ (x :: l.drop i))[k] = l[k]) ∨ (k = i ∧ (l.take i ++ (x :: l.drop i))[k] = x) ∨ (∃ h : k - 1 < l.length, i < k ∧ (l.take i ++ (x :: l.drop i))[k] = l[k - 1]) := by
  have hl : (l.take i).length = i := by simp; omega
  have hk' : k < l.length + 1 := by simp at hk; omega
  by_cases h1 : k < i
  · refine .inl ⟨by omega, h1, ?_⟩
    rw [List.getElem_append_left (by omega), List.getElem_take]
  · by_cases h2 : k = i
    · subst h2
      refine .inr (.inl ⟨rfl, ?_⟩)
      rw [List.getElem_append_right (by omega)]
      simp [hl]
    · refine .inr (.inr ⟨by omega, by omega, ?_⟩)
      have : (l.take i ++ (x :: l.drop i))[k]? = l[k - 1]? := by
        rw [List.getElem?_append_right (by omega), hl, show k - i = (k - i - 1) + 1 by omega, List.getElem?_cons_succ, List.getElem?_drop]
        congr 1
        omega
      rw [List.getElem?_eq_getElem hk, List.getElem?_eq_getElem (by omega)] at this
      exact Option.some.inj this
theorem flat_ins_mem {Fs : List (List Nat)} {G : List Nat} {i q : Nat} : q ∈ (Fs.take i ++ (G :: Fs.drop i)).flatten ↔ q ∈ Fs.flatten ∨ q ∈ G := by
  have e : Fs.flatten = (Fs.take i).flatten ++ (Fs.drop i).flatten := by rw [← List.flatten_append, List.take_append_drop]
  rw [List.flatten_append, List.flatten_cons, e]
  simp only [List.mem_append]
  constructor
  · rintro (h | h | h)
    · exact .inl (.inl h)
    · exact .inr h
    · exact .inl (.inr h)
  · rintro ((h | h) | h)
    · exact .inl h
    · exact .inr (.inr h)
    · exact .inr (.inl h)
theorem flat_ins_nodup {Fs : List (List Nat)} {G : List Nat} {i : Nat} (h : Fs.flatten.Nodup) (hG : G.Nodup) (hd : ∀ q ∈ Fs.flatten, q ∉ G) : (Fs.take i ++ (G :: Fs.drop i)).flatten.Nodup := by
  have e : Fs.flatten = (Fs.take i).flatten ++ (Fs.drop i).flatten := by rw [← List.flatten_append, List.take_append_drop]
  rw [e] at h hd
  have h' := List.nodup_append.1 h
  rw [List.flatten_append, List.flatten_cons]
  refine List.nodup_append.2 ⟨h'.1, List.nodup_append.2 ⟨hG, h'.2.1, fun a ha b hb e => hd b (List.mem_append_right _ hb) (e ▸ ha)⟩, fun a ha b hb e => ?_⟩
  rcases List.mem_append.1 hb with hb | hb
  · exact hd a (List.mem_append_left _ ha) (e ▸ hb)
  · exact h'.2.2 a ha b hb e
theorem OwOps.ltI {w : World} {v : Value} {l : List OpV} {F : List Nat} (h : OwOps w v l F) : ∀ q ∈ F, q < w.heap.size := by
  obtain ⟨Cs, Fs, e1, e2, e3, e4, rfl⟩ := h
  intro q hq
  rcases List.mem_append.1 hq with hq | hq
  · exact (e4.lt q (by simpa [FB] using hq)).2
  · obtain ⟨F, hF, hq⟩ := List.mem_flatten.1 hq
    obtain ⟨i, hi, rfl⟩ := List.getElem_of_mem hF
    obtain ⟨k, n, t, _, a, b, c, e⟩ := (e3 i (by omega)).2
    have e' : Fs.getD i [] = Fs[i] := by simp [List.getD_eq_getElem?_getD, hi]
    rw [e'] at e
    rw [e] at hq
    simp only [List.mem_append] at hq
    rcases hq with (hq | hq) | hq
    · exact (a.rng q hq).2
    · exact (b.rng q hq).2
    · exact (c.rng q hq).2
theorem owc_one {w : World} {C : List Value} {o : OpV} {F : List Nat} (h : OwOpC w C o F) : ∀ u ∈ C, u.oneCell' = true := by
  obtain ⟨k, n, t, e, h1, h2, h3, _⟩ := h
  exact opc_one ⟨k, n, t, e, h1.ints, h2.byt, h3.byt⟩
theorem owc_len {w : World} {C : List Value} {o : OpV} {F : List Nat} (h : OwOpC w C o F) : C.length = 12 := by
  obtain ⟨k, n, t, rfl, _⟩ := h; rfl

/-- slices.Insert of an operation that owns its rows into a row of the call's own. -/
theorem insO_any (w : World) (v : Value) (l : List OpV) (F : List Nat) (i vb : Nat) (C : List Value) (o : OpV) (G : List Nat) (h : OwOps w v l F) (hN : F.Nodup) (hi : i ≤ l.length) (hn : l.length ≤ 100000)
    (hl : Loc w vb C.toArray 38) (ho : OwOpC w C o G) (hG : G.Nodup) (hFG : ∀ q ∈ F, q ∉ G) (hvF : vb ∉ F) :
    Calls Tryz.prog 97 #[v, .int .i64 i, .slice (some ⟨vb, 0, none⟩) 1 1] w fun e w' => ∃ u F', e = .returned u ∧ OwOps w' u (l.take i ++ (o :: l.drop i)) F' ∧ F'.Nodup ∧ (∀ q ∈ F', q ∈ F ∨ q ∈ G ∨ (w.heap.size ≤ q ∧ q < w'.heap.size)) ∧ Frm w w' (FB v) := by
  have hlt := h.ltI
  have hR := h.rd
  obtain ⟨Cs, Fs, e1, e2, e3, e4, rfl⟩ := h
  have hC : ∀ k, k < Cs.length → (Cs.getD k []).length = 12 := fun k hk => (e3 k (by omega)).1
  have hx1 : ∀ u ∈ Cs.flatten, u.oneCell' = true := by
    intro u hu
    obtain ⟨D, hD, hu⟩ := List.mem_flatten.1 hu
    obtain ⟨k, hk, rfl⟩ := List.getElem_of_mem hD
    have e' : Cs.getD k [] = Cs[k] := by simp [List.getD_eq_getElem?_getD, hk]
    have := (e3 k (by omega)).2
    rw [e'] at this
    exact owc_one this u hu
  have hmain : Calls Tryz.prog 97 #[v, .int .i64 i, .slice (some ⟨vb, 0, none⟩) 1 1] w (InsAns w v l.length (Cs.flatten.take (i * 12) ++ (C ++ Cs.flatten.drop (i * 12)))) := by
    by_cases hin : i = l.length
    · have e : i * 12 = Cs.flatten.length := by rw [e4.1, hin]
      rw [e, List.take_length, List.drop_length, List.append_nil, hin]
      exact ins_end w v l.length vb _ C e4 (owc_len ho) hl (owc_one ho) hn
    · rcases e4.2 with ⟨rfl, h0⟩ | ⟨g, cap, cur, rfl, _, hg, hnc, _⟩
      · omega
      · by_cases hroom : cap < l.length + 1
        · exact ins_grow w g l.length cap i vb _ C e4 (owc_len ho) hl (owc_one ho) hx1 hn (by omega) hroom
        · exact ins_shift w g l.length cap i vb _ C e4 (owc_len ho) hl (owc_one ho) hx1 hn (by omega) (by omega) (fun e => hvF (List.mem_append_left _ (by simp [FB, Value.ownBlock, e])))
  refine hmain.mono ?_
  rintro e w' ⟨g, cap, rfl, k1, k2, k3, k4⟩
  have hFd : ∀ q ∈ Fs.flatten, q ∉ FB v := fun q hq hv => (List.nodup_append.1 hN).2.2 q hv q hq rfl
  have hGd : ∀ q ∈ G, q ∉ FB v := fun q hq hv => hFG q (List.mem_append_left _ hv) hq
  obtain ⟨t1, t2⟩ := flat_takeI 12 Cs i hC (by omega)
  refine ⟨_, FB (.slice (some ⟨g, 0, none⟩) (l.length + 1) cap) ++ (Fs.take i ++ (G :: Fs.drop i)).flatten, rfl, ⟨Cs.take i ++ (C :: Cs.drop i), Fs.take i ++ (G :: Fs.drop i), by simp; omega, by simp; omega, fun k hk => ?_, ?_, ?_⟩, ?_, ?_, k2⟩
  · rw [getD_ins Cs C i k (by omega), getD_ins Fs G i k (by omega)]
    rcases get_ins l o i k hi hk with ⟨h, hlt', e⟩ | ⟨rfl, e⟩ | ⟨h, hlt', e⟩
    · rw [e, if_pos hlt', if_pos hlt']
      exact ⟨(e3 k h).1, (e3 k h).2.frm k2 (fun q hq => hFd q (mem_flat hq))⟩
    · rw [e, if_neg (Nat.lt_irrefl _), if_pos rfl, if_neg (Nat.lt_irrefl _), if_pos rfl]
      exact ⟨owc_len ho, ho.frm k2 hGd⟩
    · rw [e, if_neg (by omega), if_neg (by omega), if_neg (by omega), if_neg (by omega)]
      exact ⟨(e3 _ h).1, (e3 _ h).2.frm k2 (fun q hq => hFd q (mem_flat hq))⟩
  · have e : (l.take i ++ (o :: l.drop i)).length = l.length + 1 := by simp; omega
    rw [e, List.flatten_append, List.flatten_cons, t1, t2]
    exact k1
  · have e : (l.take i ++ (o :: l.drop i)).length = l.length + 1 := by simp; omega
    rfl
  · refine List.nodup_append.2 ⟨FB_nodup _, flat_ins_nodup (List.nodup_append.1 hN).2.1 hG (fun q hq => hFG q (List.mem_append_right _ hq)), fun a ha b hb e => ?_⟩
    have ea : a = g := by simpa [FB, Value.ownBlock] using ha
    subst e
    subst ea
    rcases flat_ins_mem.1 hb with hb | hb
    · rcases k3 with k3 | k3
      · exact hFd a hb (by simp [FB, k3])
      · have := hlt a (List.mem_append_right _ hb); omega
    · rcases k3 with k3 | k3
      · exact hGd a hb (by simp [FB, k3])
      · obtain ⟨kk, nn, tt, _, a1, a2, a3, rfl⟩ := ho
        simp only [List.mem_append] at hb
        have : a < w.heap.size := by
          rcases hb with (hb | hb) | hb
          · exact (a1.rng a hb).2
          · exact (a2.rng a hb).2
          · exact (a3.rng a hb).2
        omega
  · intro q hq
    rcases List.mem_append.1 hq with hq | hq
    · have eq : q = g := by simpa [FB, Value.ownBlock] using hq
      subst eq
      rcases k3 with k3 | k3
      · exact .inl (List.mem_append_left _ (by simp [FB, k3]))
      · exact .inr (.inr ⟨k3, k4⟩)
    · rcases flat_ins_mem.1 hq with hq | hq
      · exact .inl (List.mem_append_right _ hq)
      · exact .inr (.inl hq)
end Go.Proofs.YtaoodcielfabdaaGreat

/- An operation that owns its rows in another's place, in a row of the call's own. -/
namespace Go.Proofs.YtaoodcielfabdaaGreat
open Go.RowKit
set_option linter.unusedVariables false
set_option maxRecDepth 100000

theorem flat_set_mem {Fs : List (List Nat)} {G : List Nat} {i q : Nat} (h : q ∈ (Fs.set i G).flatten) : q ∈ Fs.flatten ∨ q ∈ G := by
  obtain ⟨F, hF, hq⟩ := List.mem_flatten.1 h
  rcases List.mem_or_eq_of_mem_set hF with hF | rfl
  · exact .inl (List.mem_flatten.2 ⟨F, hF, hq⟩)
  · exact .inr hq
theorem flat_set_nodup : ∀ {Fs : List (List Nat)} {G : List Nat} {i : Nat}, Fs.flatten.Nodup → G.Nodup → (∀ q ∈ Fs.flatten, q ∉ G) → (Fs.set i G).flatten.Nodup
  | [], _, _, _, _, _ => by simp
  | F :: Fs, G, 0, h, hG, hd => by
    rw [List.flatten_cons] at h hd
    have h' := List.nodup_append.1 h
    rw [List.set_cons_zero, List.flatten_cons]
    exact List.nodup_append.2 ⟨hG, h'.2.1, fun a ha b hb e => hd b (List.mem_append_right _ hb) (e ▸ ha)⟩
  | F :: Fs, G, i + 1, h, hG, hd => by
    rw [List.flatten_cons] at h hd
    have h' := List.nodup_append.1 h
    rw [List.set_cons_succ, List.flatten_cons]
    refine List.nodup_append.2 ⟨h'.1, flat_set_nodup h'.2.1 hG (fun q hq => hd q (List.mem_append_right _ hq)), fun a ha b hb e => ?_⟩
    rcases flat_set_mem hb with hb | hb
    · exact h'.2.2 a ha b hb e
    · exact hd a (List.mem_append_left _ ha) (e ▸ hb)

set_option maxHeartbeats 3200000 in
theorem OwOps.setAt {w : World} {g cap : Nat} {l : List OpV} {F : List Nat} (h : OwOps w (.slice (some ⟨g, 0, none⟩) l.length cap) l F) (hN : F.Nodup) (i : Nat) (hi : i < l.length) (v0 v1 v2 v3 v4 v5 v6 v7 v8 v9 v10 v11 : Value) (o : OpV) (G : List Nat) (ho : OwOpC w [v0, v1, v2, v3, v4, v5, v6, v7, v8, v9, v10, v11] o G) (hG : G.Nodup) (hFG : ∀ q ∈ F, q ∉ G) :
    ∃ F', OwOps ((((((((((((w.setCell ⟨g, i * 12, none⟩ v0).setCell ⟨g, i * 12 + 1, none⟩ v1).setCell ⟨g, i * 12 + 2, none⟩ v2).setCell ⟨g, i * 12 + 3, none⟩ v3).setCell ⟨g, i * 12 + 4, none⟩ v4).setCell ⟨g, i * 12 + 5, none⟩ v5).setCell ⟨g, i * 12 + 6, none⟩ v6).setCell ⟨g, i * 12 + 7, none⟩ v7).setCell ⟨g, i * 12 + 8, none⟩ v8).setCell ⟨g, i * 12 + 9, none⟩ v9).setCell ⟨g, i * 12 + 10, none⟩ v10).setCell ⟨g, i * 12 + 11, none⟩ v11) (.slice (some ⟨g, 0, none⟩) l.length cap) (l.set i o) F' ∧ F'.Nodup ∧ (∀ q ∈ F', q ∈ F ∨ q ∈ G) ∧ Frm w ((((((((((((w.setCell ⟨g, i * 12, none⟩ v0).setCell ⟨g, i * 12 + 1, none⟩ v1).setCell ⟨g, i * 12 + 2, none⟩ v2).setCell ⟨g, i * 12 + 3, none⟩ v3).setCell ⟨g, i * 12 + 4, none⟩ v4).setCell ⟨g, i * 12 + 5, none⟩ v5).setCell ⟨g, i * 12 + 6, none⟩ v6).setCell ⟨g, i * 12 + 7, none⟩ v7).setCell ⟨g, i * 12 + 8, none⟩ v8).setCell ⟨g, i * 12 + 9, none⟩ v9).setCell ⟨g, i * 12 + 10, none⟩ v10).setCell ⟨g, i * 12 + 11, none⟩ v11) [g] := by
  have hlt := h.ltI
  obtain ⟨Cs, Fs, e1, e2, e3, e4, rfl⟩ := h
  have hC : ∀ k, k < Cs.length → (Cs.getD k []).length = 12 := fun k hk => (e3 k (by omega)).1
  have R0 := RowJ.start e1 hC i hi e4
  obtain ⟨kv, nv, tv, eD, _⟩ := (e3 i hi).2
  rw [eD] at R0
  have R1 := ((((((((((((R0.put 0 (by omega) v0).put 1 (by omega) v1).put 2 (by omega) v2).put 3 (by omega) v3).put 4 (by omega) v4).put 5 (by omega) v5).put 6 (by omega) v6).put 7 (by omega) v7).put 8 (by omega) v8).put 9 (by omega) v9).put 10 (by omega) v10).put 11 (by omega) v11)
  simp only [Nat.add_zero, List.set_cons_zero, List.set_cons_succ] at R1
  have f : Frm w ((((((((((((w.setCell ⟨g, i * 12, none⟩ v0).setCell ⟨g, i * 12 + 1, none⟩ v1).setCell ⟨g, i * 12 + 2, none⟩ v2).setCell ⟨g, i * 12 + 3, none⟩ v3).setCell ⟨g, i * 12 + 4, none⟩ v4).setCell ⟨g, i * 12 + 5, none⟩ v5).setCell ⟨g, i * 12 + 6, none⟩ v6).setCell ⟨g, i * 12 + 7, none⟩ v7).setCell ⟨g, i * 12 + 8, none⟩ v8).setCell ⟨g, i * 12 + 9, none⟩ v9).setCell ⟨g, i * 12 + 10, none⟩ v10).setCell ⟨g, i * 12 + 11, none⟩ v11) [g] := ((((((((((((set_frm w g (i * 12) v0).trans (set_frm _ g (i * 12 + 1) v1)).trans (set_frm _ g (i * 12 + 2) v2)).trans (set_frm _ g (i * 12 + 3) v3)).trans (set_frm _ g (i * 12 + 4) v4)).trans (set_frm _ g (i * 12 + 5) v5)).trans (set_frm _ g (i * 12 + 6) v6)).trans (set_frm _ g (i * 12 + 7) v7)).trans (set_frm _ g (i * 12 + 8) v8)).trans (set_frm _ g (i * 12 + 9) v9)).trans (set_frm _ g (i * 12 + 10) v10)).trans (set_frm _ g (i * 12 + 11) v11))
  have hgF : g ∉ Fs.flatten := fun hq => (List.nodup_append.1 hN).2.2 g (by simp [FB, Value.ownBlock]) g hq rfl
  have hgG : g ∉ G := hFG g (List.mem_append_left _ (by simp [FB, Value.ownBlock]))
  refine ⟨FB (.slice (some ⟨g, 0, none⟩) l.length cap) ++ (Fs.set i G).flatten, ⟨Cs.set i [v0, v1, v2, v3, v4, v5, v6, v7, v8, v9, v10, v11], Fs.set i G, by simp [e1], by simp [e2], fun k hk => ?_, ?_, rfl⟩, ?_, ?_, f⟩
  · have hk' : k < l.length := by simpa using hk
    by_cases e : k = i
    · subst e
      rw [getD_set_at _ _ _ (by omega), getD_set_at _ _ _ (by omega), List.getElem_set_self]
      exact ⟨rfl, ho.frm f (fun q hq hq' => by simp at hq'; subst hq'; exact hgG hq)⟩
    · rw [getD_set_ne _ _ _ _ e, getD_set_ne _ _ _ _ e, List.getElem_set_ne (Ne.symm e)]
      exact ⟨(e3 k hk').1, (e3 k hk').2.frm f (fun q hq hq' => by simp at hq'; subst hq'; exact hgF (mem_flat hq))⟩
  · rw [List.length_set]
    exact R1.row
  · refine List.nodup_append.2 ⟨FB_nodup _, flat_set_nodup (List.nodup_append.1 hN).2.1 hG (fun q hq => hFG q (List.mem_append_right _ hq)), fun a ha b hb e => ?_⟩
    have ea : a = g := by simpa [FB, Value.ownBlock] using ha
    subst e
    subst ea
    rcases flat_set_mem hb with hb | hb
    · exact hgF hb
    · exact hgG hb
  · intro q hq
    rcases List.mem_append.1 hq with hq | hq
    · exact .inl (List.mem_append_left _ hq)
    · rcases flat_set_mem hq with hq | hq
      · exact .inl (List.mem_append_right _ hq)
      · exact .inr hq
end Go.Proofs.YtaoodcielfabdaaGreat

/- impl.opLess, impl.putInto. -/
namespace Go.Proofs.YtaoodcielfabdaaGreat
open Go.RowKit
set_option linter.unusedVariables false
set_option maxRecDepth 100000

theorem there_lt {l : List OpV} {n r : Int} (h : there l n r = true) : posO l n r < l.length := by
  unfold there at h
  split at h
  · assumption
  · cases h
theorem obV_of {o : OpV} (h : opB o = true) : obV o = opBytes o := by unfold obV; rw [if_pos h]
theorem OwOp.cells {w : World} {base : Nat} {o : OpV} {k n t : Value} (h : OwOp w base o k n t) : OwOpC w [.int .i64 o.kind, .int .i64 o.atN, .int .i64 o.atR, .int .i64 o.nodeN, .int .i64 o.nodeR, .int .i64 o.parN, .int .i64 o.parR, k, .int .i64 o.elem, n, t, .bool o.gone] o (FB k ++ FB n ++ FB t) :=
  ⟨k, n, t, rfl, h.1.mono (Nat.zero_le _), h.2.1.mono (Nat.zero_le _), h.2.2.1.mono (Nat.zero_le _), rfl⟩
theorem OwOp.rng {w : World} {base : Nat} {o : OpV} {k n t : Value} (h : OwOp w base o k n t) : Rng (FB k ++ FB n ++ FB t) base w.heap.size := (h.1.rng.app h.2.1.rng).app h.2.2.1.rng

set_option maxHeartbeats 12800000 in
theorem opLess_any (w : World) (va vb : Value) (a b : OpV) (ha : RdOp w va a) (hb : RdOp w vb b) (ka : opB a = true) (kb : opB b = true) (sa : szO a ≤ 2097152) (sb : szO b ≤ 2097152) :
    Calls Tryz.prog 95 #[va, vb] w fun e w' => e = .returned (.bool (klB (opBytes a) (opBytes b))) ∧ Below w.heap.size w w' := by
  have HA := hide (fun (W : World) (hW : Below w.heap.size w W) => bytesI_any W va a (ha.keep hW) (by unfold szO at sa; omega))
  have HB := hide (fun (W : World) (hW : Below w.heap.size w W) => bytesI_any W vb b (hb.keep hW) (by unfold szO at sb; omega))
  have KA := hide (And.intro ka (obV_of ka))
  have KB := hide (And.intro kb (obV_of kb))
  obtain ⟨k, n, t, rfl, hk, hn, ht⟩ := ha
  obtain ⟨ka', ca, rfl, _, _⟩ := hk.shape
  obtain ⟨na, da, rfl, _, _⟩ := hn.shape
  obtain ⟨ta, fa, rfl, _, _⟩ := ht.shape
  clear hk hn ht
  obtain ⟨k, n, t, rfl, hk, hn, ht⟩ := hb
  obtain ⟨kb', cb, rfl, _, _⟩ := hk.shape
  obtain ⟨nb, db, rfl, _, _⟩ := hn.shape
  obtain ⟨tb, fb, rfl, _, _⟩ := ht.shape
  clear hk hn ht ka kb sa sb
  obtain ⟨l0, l1, hA0⟩ := two w #[.int .i64 a.kind, .int .i64 a.atN, .int .i64 a.atR, .int .i64 a.nodeN, .int .i64 a.nodeR, .int .i64 a.parN, .int .i64 a.parR, .slice ka' a.key.length ca, .int .i64 a.elem, .slice na a.name.length da, .slice ta a.text.length fa, .bool a.gone] #[.int .i64 b.kind, .int .i64 b.atN, .int .i64 b.atR, .int .i64 b.nodeN, .int .i64 b.nodeR, .int .i64 b.parN, .int .i64 b.parR, .slice kb' b.key.length cb, .int .i64 b.elem, .slice nb b.name.length db, .slice tb b.text.length fb, .bool b.gone] 38 38
  unfold opVal at HA HB ⊢
  go_enter Tryz.func95, Tryz.ntmps95
  go_wp2_with fail
  generalize ((w.alloc (.cells #[.int .i64 a.kind, .int .i64 a.atN, .int .i64 a.atR, .int .i64 a.nodeN, .int .i64 a.nodeR, .int .i64 a.parN, .int .i64 a.parR, .slice ka' a.key.length ca, .int .i64 a.elem, .slice na a.name.length da, .slice ta a.text.length fa, .bool a.gone] 38)).alloc (.cells #[.int .i64 b.kind, .int .i64 b.atN, .int .i64 b.atR, .int .i64 b.nodeN, .int .i64 b.nodeR, .int .i64 b.parN, .int .i64 b.parR, .slice kb' b.key.length cb, .int .i64 b.elem, .slice nb b.name.length db, .slice tb b.text.length fb, .bool b.gone] 38)) = wa at *
  refine (unhide HA _ hA0).mono ?_
  rintro e w1 ⟨pg, cg, rfl, og, hB⟩
  replace hA0 := bstep hA0 hB
  replace l1 := l1.all hB
  clear hB l0 HA
  obtain ⟨x0, x1, x2, x3, x4, x5, x6, x7, x8, x9, x10, x11⟩ := l1.twelve
  go_wp2_with fail
  clear x0 x1 x2 x3 x4 x5 x6 x7 x8 x9 x10 x11
  refine (unhide HB _ hA0).mono ?_
  rintro e w2 ⟨ph, ch, rfl, oh, hB⟩
  replace hA0 := bstep hA0 hB
  replace og := og.keep hB
  clear hB l1 HB
  rw [(unhide KA).2] at og ⊢
  rw [(unhide KB).2] at oh ⊢
  go_wp2_with fail
  refine (rowLessB_any w2 _ _ _ _ og.byt oh.byt).mono ?_
  rintro e w3 ⟨rfl, hB⟩
  replace hA0 := bstep hA0 hB
  go_wp2_with fail
  go_ret
  exact ⟨rfl, hA0⟩

set_option maxHeartbeats 40000000 in
theorem putInto_any (w : World) (v vo : Value) (l : List OpV) (o : OpV) (F : List Nat) (hF : OwOps w v l F) (hN : F.Nodup) (hc : opsB l = true) (ho : RdOp w vo o) (hb : opB o = true) (hs : szO o ≤ 2097152) (hls : ∀ x ∈ l, szO x ≤ 2097152) :
    Calls Tryz.prog 38 #[v, vo] w fun e w' => ∃ u, e = .returned (.tuple #[u, .bool (putOk l o)]) ∧ (putOk l o = false → u = v) ∧ ∃ F', OwOps w' u (putL l o) F' ∧ F'.Nodup ∧ (∀ q ∈ F', q ∈ F ∨ (w.heap.size ≤ q ∧ q < w'.heap.size)) ∧ Frm w w' (FB v) := by
  have HC := hide (fun (W : World) (hW : Below w.heap.size w W) => copyOp_any W vo o (ho.keep hW) (by omega))
  have HL := hide (fun (W : World) (hW : Below w.heap.size w W) (vx : Value) (x : OpV) (hx : RdOp W vx x) (kx : opB x = true) (sx : szO x ≤ 2097152) => opLess_any W vo vx o x (ho.keep hW) hx hb kx hs sx)
  have HLS := hide hls
  have hlt : ∀ q ∈ F, q < w.heap.size := hF.ltI
  have hl := opsB_len hc
  obtain ⟨k, n, t, rfl, hk, hn, ht⟩ := ho
  obtain ⟨ak, ck, rfl, _, _⟩ := hk.shape
  obtain ⟨an, cn, rfl, _, _⟩ := hn.shape
  obtain ⟨tt, ct, rfl, _, _⟩ := ht.shape
  obtain ⟨au, cu, rfl, _, _⟩ := Elems.shape hF.rd
  clear hk hn ht hs hls hb
  have hA0 := (Below.refl w.heap.size w).alloc (Nat.le_refl _) (.cells #[.int .i64 o.kind, .int .i64 o.atN, .int .i64 o.atR, .int .i64 o.nodeN, .int .i64 o.nodeR, .int .i64 o.parN, .int .i64 o.parR, .slice ak o.key.length ck, .int .i64 o.elem, .slice an o.name.length cn, .slice tt o.text.length ct, .bool o.gone] 38)
  have l0 := Loc.made w #[.int .i64 o.kind, .int .i64 o.atN, .int .i64 o.atR, .int .i64 o.nodeN, .int .i64 o.nodeR, .int .i64 o.parN, .int .i64 o.parR, .slice ak o.key.length ck, .int .i64 o.elem, .slice an o.name.length cn, .slice tt o.text.length ct, .bool o.gone] 38
  unfold opVal at HC HL
  refine calls_via ?_
  intro Q HQ
  have HQ2 := hide (fun u kk w9 (hkk : kk = putOk l o) (hno : kk = false → u = .slice au l.length cu) (z : ∃ F', OwOps w9 u (putL l o) F' ∧ F'.Nodup ∧ (∀ q ∈ F', q ∈ F ∨ (w.heap.size ≤ q ∧ q < w9.heap.size)) ∧ Frm w w9 (FB (.slice au l.length cu))) => unhide HQ (.returned (.tuple #[u, .bool kk])) w9 ⟨u, by rw [hkk], by rw [← hkk]; exact hno, z⟩)
  clear HQ
  unfold opVal
  go_enter Tryz.func38, Tryz.ntmps38
  go_wp2_with fail
  generalize (w.alloc (.cells #[.int .i64 o.kind, .int .i64 o.atN, .int .i64 o.atR, .int .i64 o.nodeN, .int .i64 o.nodeR, .int .i64 o.parN, .int .i64 o.parR, .slice ak o.key.length ck, .int .i64 o.elem, .slice an o.name.length cn, .slice tt o.text.length ct, .bool o.gone] 38)) = wa at *
  generalize hSS : w.heap.size = S at *
  have BS := hide (show ∀ (b c : World), Below S w b → Below b.heap.size b c → Below S w c from fun b c h k => h.trans (k.mono (by have := h.size; omega)))
  have hFa : OwOps wa (.slice au l.length cu) l F := OwOps.frm hF (Frm.ofBelow (by rw [hSS]; exact hA0) []) (fun _ _ => by simp)
  refine (search_any wa _ l o.atN o.atR hFa.rd hc).mono ?_
  rintro e w4 ⟨rfl, hB⟩
  have hB4 := unhide BS _ _ hA0 hB
  have l4 := l0.all hB
  have hF4 : OwOps w4 (.slice au l.length cu) l F := OwOps.frm hFa (Frm.ofBelow hB []) (fun _ _ => by simp)
  clear hA0 hB l0 hFa hF
  have hS4 : S ≤ w4.heap.size := Nat.le_of_lt l4.lt
  have F0 : ∀ W, Below S w W → Frm w W (FB (.slice au l.length cu)) := fun W h => Frm.ofBelow (by rw [hSS]; exact h) _
  cases hth : there l o.atN o.atR with
  | true =>
    have hpos := there_lt hth
    have hput : putL l o = if klB (opBytes o) (opBytes (l.getD (posO l o.atN o.atR) o)) then l.set (posO l o.atN o.atR) o else l := by unfold putL; rw [if_pos hth]
    have hok : putOk l o = true := by unfold putOk; rw [hth]; rfl
    generalize posO l o.atN o.atR = p at *
    obtain ⟨b, off, cap, eu, _, hbl, hel⟩ : ∃ b off cap, (Value.slice au l.length cu) = .slice (some ⟨b, off, none⟩) l.length cap ∧ l ≠ [] ∧ b < w4.heap.size ∧ ∀ i (hi : i < l.length), ∃ C : List Value, C.length = 12 ∧ (∀ j, j < 12 → w4.cell? ⟨b, off + i * 12 + j, none⟩ = C[j]?) ∧ RdOpC w4 C l[i] := by
      rcases hF4.rd.cases with ⟨e, _⟩ | h
      · subst e; simp at hpos
      · exact h
    have hoff : off = 0 := by
      obtain ⟨Cs, Fs, _, _, _, hrow, _⟩ := hF4
      rcases hrow.2 with ⟨e, _⟩ | ⟨g, cap', cur, e, _⟩
      · rw [eu] at e; cases e
      · rw [eu] at e; cases e; rfl
    subst hoff
    cases eu
    obtain ⟨b1, d1, b2, d2, b3, d3, e0, e1, e2, e3, e4, e5, e6, e7, e8, e9, e10, e11, hro⟩ := opc_at (w := w4) (W := w4) (Below.refl _ _) hbl (hel p hpos)
    have hx : l.getD p o = l[p] := by simp [List.getD_eq_getElem?_getD, hpos]
    rw [hx] at hput
    have hbx := opsB_each hc hpos
    have hsx := unhide HLS l[p] (List.getElem_mem hpos)
    simp only [Nat.zero_add] at e0 e1 e2 e3 e4 e5 e6 e7 e8 e9 e10 e11
    have HL5 := hide (fun (g : Gr w4) => unhide HL g.W (unhide BS _ _ hB4 g.h) _ l[p] (hro.keep g.h) hbx hsx)
    unfold opVal at HL5
    have hSl : S < w4.heap.size := l4.lt
    have hpl : (p : Int) < (l.length : Int) := by omega
    have hp0 : (0 : Int) ≤ (p : Int) := by omega
    clear hro hel HL
    obtain ⟨x0, x1, x2, x3, x4, x5, x6, x7, x8, x9, x10, x11⟩ := l4.twelve
    go_wp2_with fail
    replace x0 := Gr.cell hSl x0
    replace e0 := Gr.cell hbl e0
    replace x1 := Gr.cell hSl x1
    replace e1 := Gr.cell hbl e1
    replace x2 := Gr.cell hSl x2
    replace e2 := Gr.cell hbl e2
    replace x3 := Gr.cell hSl x3
    replace e3 := Gr.cell hbl e3
    replace x4 := Gr.cell hSl x4
    replace e4 := Gr.cell hbl e4
    replace x5 := Gr.cell hSl x5
    replace e5 := Gr.cell hbl e5
    replace x6 := Gr.cell hSl x6
    replace e6 := Gr.cell hbl e6
    replace x7 := Gr.cell hSl x7
    replace e7 := Gr.cell hbl e7
    replace x8 := Gr.cell hSl x8
    replace e8 := Gr.cell hbl e8
    replace x9 := Gr.cell hSl x9
    replace e9 := Gr.cell hbl e9
    replace x10 := Gr.cell hSl x10
    replace e10 := Gr.cell hbl e10
    replace x11 := Gr.cell hSl x11
    replace e11 := Gr.cell hbl e11
    have hne : Nonempty (Gr w4) := ⟨⟨w4, Below.refl _ _⟩⟩
    refine wp_region_gr (by kernel_rfl) (by kernel_rfl) ?_
    repeat (go_big_quiet_step ((rename_i g; exact calls_gr (unhide HL5 g))))
    refine wpQuiet_nil ?_
    rintro _ ⟨g, rfl⟩
    clear x0 x1 x2 x3 x4 x5 x6 x7 x8 x9 x10 x11
    obtain ⟨w6, hB⟩ := g
    dsimp only
    have hB6 := unhide BS _ _ hB4 hB
    have l6 := l4.all hB
    have hF6 : OwOps w6 (.slice (some ⟨b, 0, none⟩) l.length cu) l F := OwOps.frm hF4 (Frm.ofBelow hB []) (fun _ _ => by simp)
    clear hB4 hB l4 hF4 HL5 e0 e1 e2 e3 e4 e5 e6 e7 e8 e9 e10 e11
    cases hkl : klB (opBytes o) (opBytes l[p]) with
    | false =>
      rw [hkl] at hput
      have KK := hide (unhide HQ2 (.slice (some ⟨b, 0, none⟩) l.length cu) true w6 hok.symm (fun h => by cases h) ⟨F, by rw [hput]; exact hF6, hN, fun q hq => .inl hq, F0 _ hB6⟩)
      clear HQ2 hput
      go_wp2_with fail
      exact unhide KK
    | true =>
      rw [hkl, if_pos rfl] at hput
      obtain ⟨x0, x1, x2, x3, x4, x5, x6, x7, x8, x9, x10, x11⟩ := l6.twelve
      go_wp2_with fail
      clear x0 x1 x2 x3 x4 x5 x6 x7 x8 x9 x10 x11
      refine (unhide HC _ hB6).mono ?_
      rintro e w7 ⟨a1, c1, a2, c2, a3, c3, rfl, oc, hB⟩
      have hB7 := unhide BS _ _ hB6 hB
      have hF7 : OwOps w7 (.slice (some ⟨b, 0, none⟩) l.length cu) l F := OwOps.frm hF6 (Frm.ofBelow hB []) (fun _ _ => by simp)
      have hcr := oc.rng
      have hS6 : S ≤ w6.heap.size := Nat.le_of_lt l6.lt
      have hs67 := hB.size
      have hcF : ∀ q ∈ F, q ∉ FB (.slice a1 o.key.length c1) ++ FB (.slice a2 o.name.length c2) ++ FB (.slice a3 o.text.length c3) := fun q hq hq' => by have := hcr q hq'; have := hlt q hq; omega
      obtain ⟨F', hO, hN', hsub, hfs⟩ := OwOps.setAt hF7 hN p hpos (.int .i64 o.kind) (.int .i64 o.atN) (.int .i64 o.atR) (.int .i64 o.nodeN) (.int .i64 o.nodeR) (.int .i64 o.parN) (.int .i64 o.parR) (.slice a1 o.key.length c1) (.int .i64 o.elem) (.slice a2 o.name.length c2) (.slice a3 o.text.length c3) (.bool o.gone) o _ oc.cells oc.2.2.2 hcF
      obtain ⟨xs, hx⟩ : ∃ xs : List Value, w7.ownsRow 0 38 12 (.slice (some ⟨b, 0, none⟩) l.length cu) l.length xs := by
        obtain ⟨Cs, Fs, _, _, _, hrow, _⟩ := hF7
        exact ⟨_, hrow⟩
      have hxl := hx.1
      have hcell : ∀ j, j < 12 → ∃ y, w7.cell? ⟨b, p * 12 + j, none⟩ = some y := fun j hj => ⟨xs[p * 12 + j]'(by omega), by rw [hx.cellAt (p * 12 + j) (by omega), List.getElem?_eq_getElem (by omega)]⟩
      obtain ⟨y0, q0⟩ := hcell 0 (by omega)
      obtain ⟨y1, q1⟩ := hcell 1 (by omega)
      obtain ⟨y2, q2⟩ := hcell 2 (by omega)
      obtain ⟨y3, q3⟩ := hcell 3 (by omega)
      obtain ⟨y4, q4⟩ := hcell 4 (by omega)
      obtain ⟨y5, q5⟩ := hcell 5 (by omega)
      obtain ⟨y6, q6⟩ := hcell 6 (by omega)
      obtain ⟨y7, q7⟩ := hcell 7 (by omega)
      obtain ⟨y8, q8⟩ := hcell 8 (by omega)
      obtain ⟨y9, q9⟩ := hcell 9 (by omega)
      obtain ⟨y10, q10⟩ := hcell 10 (by omega)
      obtain ⟨y11, q11⟩ := hcell 11 (by omega)
      rw [Nat.add_zero] at q0
      have f0 := hx.frozenAt (p * 12)
      have f1 := hx.frozenAt (p * 12 + 1)
      have f2 := hx.frozenAt (p * 12 + 2)
      have f3 := hx.frozenAt (p * 12 + 3)
      have f4 := hx.frozenAt (p * 12 + 4)
      have f5 := hx.frozenAt (p * 12 + 5)
      have f6 := hx.frozenAt (p * 12 + 6)
      have f7 := hx.frozenAt (p * 12 + 7)
      have f8 := hx.frozenAt (p * 12 + 8)
      have f9 := hx.frozenAt (p * 12 + 9)
      have f10 := hx.frozenAt (p * 12 + 10)
      have f11 := hx.frozenAt (p * 12 + 11)
      have hf8 := (F0 _ hB7).trans (hfs.mono (S' := FB (.slice (some ⟨b, 0, none⟩) l.length cu)) (fun q hq => by simp at hq; simp [FB, Value.ownBlock, hq]))
      have KK := hide (unhide HQ2 (.slice (some ⟨b, 0, none⟩) l.length cu) true _ hok.symm (fun h => by cases h) ⟨F', by rw [hput]; exact hO, hN', fun q hq => by
        have s8 := hfs.size
        rcases hsub q hq with h | h
        · exact .inl h
        · have := hcr q h; exact .inr (by omega), hf8⟩)
      clear HQ2 hput hO hF6 hF7 hx hcell hfs hf8 hB7 hB6 oc HC F0
      go_wp2_with fail
      exact unhide KK
  | false =>
    have hput : putL l o = if 150 ≤ l.length then l else l.take (posO l o.atN o.atR) ++ [o] ++ l.drop (posO l o.atN o.atR) := by unfold putL; rw [hth]; rfl
    have hok : putOk l o = decide (l.length < 150) := by unfold putOk; rw [hth]; rfl
    have hple := posO_le l o.atN o.atR
    generalize posO l o.atN o.atR = p at *
    clear HL
    by_cases hfull : l.length = 150
    · rw [if_pos (by omega)] at hput
      have hok' : putOk l o = false := by rw [hok]; simp; omega
      have KK := hide (unhide HQ2 (.slice au l.length cu) false w4 hok'.symm (fun _ => rfl) ⟨F, by rw [hput]; exact hF4, hN, fun q hq => .inl hq, F0 _ hB4⟩)
      have hfi : (l.length : Int) = 150 := by omega
      rw [hfull] at KK
      clear HQ2 hput
      go_wp2_with fail
      exact unhide KK
    · rw [if_neg (by omega)] at hput
      have hok' : putOk l o = true := by rw [hok]; simp; omega
      have hfi : ¬ ((l.length : Int) = 150) := by omega
      obtain ⟨x0, x1, x2, x3, x4, x5, x6, x7, x8, x9, x10, x11⟩ := l4.twelve
      go_wp2_with fail
      clear x0 x1 x2 x3 x4 x5 x6 x7 x8 x9 x10 x11
      refine (unhide HC _ hB4).mono ?_
      rintro e w5 ⟨a1, c1, a2, c2, a3, c3, rfl, oc, hB⟩
      have hB5 := unhide BS _ _ hB4 hB
      have hF5 : OwOps w5 (.slice au l.length cu) l F := OwOps.frm hF4 (Frm.ofBelow hB []) (fun _ _ => by simp)
      have hcr := oc.rng
      have hcF : ∀ q ∈ F, q ∉ FB (.slice a1 o.key.length c1) ++ FB (.slice a2 o.name.length c2) ++ FB (.slice a3 o.text.length c3) := fun q hq hq' => by have := hcr q hq'; have := hlt q hq; omega
      have hsz5 := hB.size
      have hA6 := hB5.alloc (by omega) (.cells #[.int .i64 o.kind, .int .i64 o.atN, .int .i64 o.atR, .int .i64 o.nodeN, .int .i64 o.nodeR, .int .i64 o.parN, .int .i64 o.parR, .slice a1 o.key.length c1, .int .i64 o.elem, .slice a2 o.name.length c2, .slice a3 o.text.length c3, .bool o.gone] 38)
      have lv := Loc.made w5 #[.int .i64 o.kind, .int .i64 o.atN, .int .i64 o.atR, .int .i64 o.nodeN, .int .i64 o.nodeR, .int .i64 o.parN, .int .i64 o.parR, .slice a1 o.key.length c1, .int .i64 o.elem, .slice a2 o.name.length c2, .slice a3 o.text.length c3, .bool o.gone] 38
      have oc6 := oc.keep ((Below.refl w5.heap.size w5).alloc (Nat.le_refl _) (.cells #[.int .i64 o.kind, .int .i64 o.atN, .int .i64 o.atR, .int .i64 o.nodeN, .int .i64 o.nodeR, .int .i64 o.parN, .int .i64 o.parR, .slice a1 o.key.length c1, .int .i64 o.elem, .slice a2 o.name.length c2, .slice a3 o.text.length c3, .bool o.gone] 38))
      have hF6 : OwOps (w5.alloc (.cells #[.int .i64 o.kind, .int .i64 o.atN, .int .i64 o.atR, .int .i64 o.nodeN, .int .i64 o.nodeR, .int .i64 o.parN, .int .i64 o.parR, .slice a1 o.key.length c1, .int .i64 o.elem, .slice a2 o.name.length c2, .slice a3 o.text.length c3, .bool o.gone] 38)) (.slice au l.length cu) l F := OwOps.frm hF5 (Frm.ofBelow ((Below.refl w5.heap.size w5).alloc (Nat.le_refl _) _) []) (fun _ _ => by simp)
      have hvF : w5.heap.size ∉ F := fun hq => by have := hlt _ hq; omega
      clear hB4 hF4 hF5 oc HC
      go_wp2_with fail
      generalize (w5.alloc (.cells #[.int .i64 o.kind, .int .i64 o.atN, .int .i64 o.atR, .int .i64 o.nodeN, .int .i64 o.nodeR, .int .i64 o.parN, .int .i64 o.parR, .slice a1 o.key.length c1, .int .i64 o.elem, .slice a2 o.name.length c2, .slice a3 o.text.length c3, .bool o.gone] 38)) = w6 at *
      refine (insO_any w6 _ l F p w5.heap.size [.int .i64 o.kind, .int .i64 o.atN, .int .i64 o.atR, .int .i64 o.nodeN, .int .i64 o.nodeR, .int .i64 o.parN, .int .i64 o.parR, .slice a1 o.key.length c1, .int .i64 o.elem, .slice a2 o.name.length c2, .slice a3 o.text.length c3, .bool o.gone] o _ hF6 hN hple (by omega) lv oc6.cells oc6.2.2.2 hcF hvF).mono ?_
      rintro e w7 ⟨u, F', rfl, hO, hN', hsub, hf⟩
      have hf7 := (F0 _ hA6).trans hf
      have KK := hide (unhide HQ2 u true w7 hok'.symm (fun h => by cases h) ⟨F', by rw [hput, List.append_assoc]; exact hO, hN', fun q hq => by
        have s7 := hf.size
        have lvlt := lv.lt
        rcases hsub q hq with h | h | h
        · exact .inl h
        · have := hcr q h; exact .inr (by omega)
        · exact .inr (by omega), hf7⟩)
      clear HQ2 hput hO hF6 F0
      go_wp2_with fail
      exact unhide KK
end Go.Proofs.YtaoodcielfabdaaGreat

/- impl.OpsOk answers what the plain test of a row says. -/
namespace Go.Proofs.YtaoodcielfabdaaGreat
open Go.RowKit
set_option linter.unusedVariables false
set_option maxRecDepth 100000

set_option maxHeartbeats 6400000 in
theorem opsI_any (w : World) (v : Value) (l : List OpV) (h : RdOps w v l) :
    Calls Tryz.prog 8 #[v] w fun e w' => e = .returned (.bool (opsB l)) ∧ Below w.heap.size w w' := by
  have hm := h.1
  unfold maxLen at hm
  by_cases hlong : 150 < l.length
  · obtain ⟨a, cap, rfl, _, _⟩ := Elems.shape h
    have hd : (150 : Int) < (l.length : Int) := by omega
    rw [opsB_long hlong]
    go_enter Tryz.func8, Tryz.ntmps8
    go_wp2_with fail
    go_ret
    exact ⟨rfl, Below.refl _ _⟩
  have hd : ¬ (150 : Int) < (l.length : Int) := by omega
  obtain ⟨rfl, a, cap, rfl⟩ | ⟨b, off, cap, rfl, hnil, g4, g5⟩ := h.cases
  · go_enter Tryz.func8, Tryz.ntmps8
    go_wp2_with fail
    refine wp_loop_rounds 1 ?_
    rw [rounds_succ]
    go_wp2_with fail
    go_ret
    exact ⟨rfl, Below.refl _ _⟩
  have HG := hide (fun hh => opsB_good (l := l) (by omega) hh)
  have HN := hide (fun k hk hh => opsB_bad (l := l) (k := k) hk hh)
  generalize opsB l = res at *
  go_enter Tryz.func8, Tryz.ntmps8
  go_wp2_with fail
  go_loopw [3, 4, 10] (fun _ _ i wr => ∃ k : Nat, k ≤ l.length ∧ i = .int .i64 k ∧ (∀ j, j < k → okAt l j = true) ∧ Below w.heap.size w wr) (fun _ _ i _ => l.length - (intOf i).toNat)
  case atStart => exact ⟨0, Nat.zero_le _, rfl, fun j hj => by omega, Below.refl _ _⟩
  case round =>
    obtain ⟨k, hk, rfl, hok, hB⟩ := hrel
    by_cases hlt : k < l.length
    · have HX := hide (fun W u (hu : RdOp W u l[k]) => opI_any W u l[k] hu)
      have HL := hide (fun W n r n' r' => lessI_any W n r n' r')
      have H0 := hide (fun (h : opB l[k] = false) => okAt_no hlt h)
      have HZ := hide (fun (h : opB l[k] = true) (e : k = 0) => (show okAt l k = true by subst e; exact okAt_0 hlt h))
      have HS := hide (fun j (e : k = j + 1) (h : opB l[k] = true) => (show okAt l k = lessB (l[j]'(by omega)).atN (l[j]'(by omega)).atR l[k].atN l[k].atR by subst e; exact okAt_s hlt h))
      have HP := hide (fun j (e : k = j + 1) => opc_at hB g4 (g5 j (by omega)))
      have HJ := hide (fun j (hj : j < k + 1) (h : okAt l k = true) => (show okAt l j = true by rcases Nat.lt_succ_iff_lt_or_eq.1 hj with h1 | rfl; exact hok j h1; exact h))
      have HNK := hide (fun (h : okAt l k = false) => unhide HN k hlt h)
      obtain ⟨a1, c1, a2, c2, a3, c3, e0, e1, e2, e3, e4, e5, e6, e7, e8, e9, e10, e11, hr⟩ := opc_at hB g4 (g5 k hlt)
      have hlt' : (k : Int) < (l.length : Int) := by omega
      have hk0 : (0 : Int) ≤ (k : Int) := by omega
      have HR := hide hr
      unfold opVal at HR
      generalize hoo : l[k] = o at *
      generalize o.key.length = nK at *
      generalize o.name.length = nN at *
      generalize o.text.length = nT at *
      clear g5 hr hnil hoo HG HN hok
      generalize okAt l k = okk at *
      have lo := Loc.made wr #[.int .i64 o.kind, .int .i64 o.atN, .int .i64 o.atR, .int .i64 o.nodeN, .int .i64 o.nodeR, .int .i64 o.parN, .int .i64 o.parR, .slice a1 nK c1, .int .i64 o.elem, .slice a2 nN c2, .slice a3 nT c3, .bool o.gone] 38
      have hAb := (Below.refl wr.heap.size wr).alloc (Nat.le_refl _) (.cells #[.int .i64 o.kind, .int .i64 o.atN, .int .i64 o.atR, .int .i64 o.nodeN, .int .i64 o.nodeR, .int .i64 o.parN, .int .i64 o.parR, .slice a1 nK c1, .int .i64 o.elem, .slice a2 nN c2, .slice a3 nT c3, .bool o.gone] 38)
      have LL := hide (And.intro lo hAb)
      clear lo hAb
      go_wp2_with fail
      obtain ⟨lo, hAb⟩ := unhide LL
      clear LL
      have hB' := bstep hB hAb
      have HRb := hide ((unhide HR).keep hAb)
      have g4' : b < wr.heap.size := Nat.lt_of_lt_of_le g4 hB.size
      have hcb := fun a v (hb : a.block < wr.heap.size) (h : wr.cell? a = some v) => (hAb.cell hb).trans h
      have hzz := hAb.size
      have HCB := hide hcb
      clear hcb hAb HR
      generalize (wr.alloc (.cells #[.int .i64 o.kind, .int .i64 o.atN, .int .i64 o.atR, .int .i64 o.nodeN, .int .i64 o.nodeR, .int .i64 o.parN, .int .i64 o.parR, .slice a1 nK c1, .int .i64 o.elem, .slice a2 nN c2, .slice a3 nT c3, .bool o.gone] 38)) = wb at *
      have hSl : wr.heap.size < wb.heap.size := lo.lt
      generalize wr.heap.size = S at *
      have hNE : Nonempty (Gr wb) := ⟨⟨wb, Below.refl _ _⟩⟩
      obtain ⟨y0, y1, y2, y3, y4, y5, y6, y7, y8, y9, y10, y11⟩ := lo.twelve
      replace y0 := Gr.cell hSl y0
      replace y1 := Gr.cell hSl y1
      replace y2 := Gr.cell hSl y2
      replace y3 := Gr.cell hSl y3
      replace y4 := Gr.cell hSl y4
      replace y5 := Gr.cell hSl y5
      replace y6 := Gr.cell hSl y6
      replace y7 := Gr.cell hSl y7
      replace y8 := Gr.cell hSl y8
      replace y9 := Gr.cell hSl y9
      replace y10 := Gr.cell hSl y10
      replace y11 := Gr.cell hSl y11
      clear lo e0 e1 e2 e3 e4 e5 e6 e7 e8 e9 e10 e11
      by_cases hq : opB o = true
      · rw [hq] at HX
        rcases Nat.eq_zero_or_pos k with hz | hpos
        · have HY := hide (unhide HZ hq hz)
          have dz3 : ¬ 0 < k := by omega
          have dz4 : decide (0 < k) = false := by simp; omega
          clear H0 HZ HS HP hq HL hz
          refine wp_region_gr (by kernel_rfl) (by kernel_rfl) ?_
          repeat (go_big_quiet_step ((rename_i p; exact calls_gr (unhide HX _ _ ((unhide HRb).keep p.h)))))
          refine wpQuiet_nil ?_
          rintro _ ⟨p, rfl⟩
          have hB3 := bstep hB' p.h
          clear y0 y1 y2 y3 y4 y5 y6 y7 y8 y9 y10 y11 HRb
          go_wp2_with fail
          go_roundw
          case rel => exact ⟨k + 1, by omega, by go_num, fun j hj => unhide HJ j hj (unhide HY), hB3⟩
          case measure => simp [intOf]; omega
        · obtain ⟨j, ej⟩ : ∃ j, k = j + 1 := ⟨k - 1, by omega⟩
          have dz3 : 0 < k := hpos
          have dz4 : decide (0 < k) = true := by simp; omega
          have hj1 : (k : Int) - 1 = (j : Int) := by omega
          have hj0 : (0 : Int) ≤ (j : Int) := by omega
          have hjl : (j : Int) < (l.length : Int) := by omega
          obtain ⟨pn, pr, i1, i2, HE⟩ : ∃ pn pr, wb.cell? ⟨b, off + j * 12 + 1, none⟩ = some (.int .i64 pn) ∧ wb.cell? ⟨b, off + j * 12 + 2, none⟩ = some (.int .i64 pr) ∧ okk = lessB pn pr o.atN o.atR := by
            obtain ⟨_, _, _, _, _, _, _, i1, i2, _⟩ := unhide HP j ej
            exact ⟨_, _, unhide HCB _ _ g4' i1, unhide HCB _ _ g4' i2, unhide HS j ej hq⟩
          replace i1 := Gr.cell (Nat.lt_trans g4' hSl) i1
          replace i2 := Gr.cell (Nat.lt_trans g4' hSl) i2
          clear H0 HZ HS HP hq hpos
          have HLL := hide (fun W => unhide HL W pn pr o.atN o.atR)
          generalize lessB pn pr o.atN o.atR = lb at *
          subst HE
          clear HL ej
          refine wp_region_gr (by kernel_rfl) (by kernel_rfl) ?_
          repeat (go_big_quiet_step ((rename_i p; first | exact calls_gr (unhide HX _ _ ((unhide HRb).keep p.h)) | exact calls_gr (unhide HLL _))))
          refine wpQuiet_nil ?_
          rintro _ ⟨p, rfl⟩
          have hB3 := bstep hB' p.h
          clear y0 y1 y2 y3 y4 y5 y6 y7 y8 y9 y10 y11 HRb i1 i2
          cases okk with
          | true =>
            go_wp2_with fail
            go_roundw
            case rel => exact ⟨k + 1, by omega, by go_num, fun j hj => unhide HJ j hj rfl, hB3⟩
            case measure => simp [intOf]; omega
          | false =>
            have HF := hide (unhide HNK rfl)
            clear HNK
            go_wp2_with fail
            go_ret
            exact ⟨by rw [unhide HF]; rfl, hB3⟩
      · have hq' : opB o = false := by simpa using hq
        rw [hq'] at HX
        have HY := hide (unhide HNK (unhide H0 hq'))
        clear H0 HZ HS HP hq hq' HL HNK
        refine wp_region_gr (by kernel_rfl) (by kernel_rfl) ?_
        repeat (go_big_quiet_step ((rename_i p; exact calls_gr (unhide HX _ _ ((unhide HRb).keep p.h)))))
        refine wpQuiet_nil ?_
        rintro _ ⟨p, rfl⟩
        have hB3 := bstep hB' p.h
        clear y0 y1 y2 y3 y4 y5 y6 y7 y8 y9 y10 y11 HRb
        go_wp2_with fail
        go_ret
        exact ⟨by rw [unhide HY]; rfl, hB3⟩
    · have HY := hide (unhide HG (fun j hj => hok j (by omega)))
      clear g5
      go_wp2_with fail
      go_ret
      exact ⟨by rw [unhide HY]; rfl, hB⟩
end Go.Proofs.YtaoodcielfabdaaGreat

/- impl.Put. -/
namespace Go.Proofs.YtaoodcielfabdaaGreat
open Go.RowKit
set_option linter.unusedVariables false
set_option maxRecDepth 100000

set_option maxHeartbeats 40000000 in
theorem iput_any (w : World) (v vo : Value) (l : List OpV) (o : OpV) (h : RdOps w v l) (ho : RdOp w vo o) (hs : szO o ≤ 2097152) (hls : ∀ x ∈ l, szO x ≤ 2097152) :
    Calls Tryz.prog 10 #[v, vo] w fun e w' => ∃ u, e = .returned (.tuple #[u, .bool (putAns l o)]) ∧ ∃ F, OwOps w' u (putV l o) F ∧ F.Nodup ∧ Rng F w.heap.size w'.heap.size ∧ Below w.heap.size w w' := by
  have HO := hide (fun (W : World) (hW : Below w.heap.size w W) => opI_any W vo o (ho.keep hW))
  have HS := hide (fun (W : World) (hW : Below w.heap.size w W) => opsI_any W v l (h.keep hW))
  have HP := hide (fun (hl : l.length ≤ 150) (W : World) (hW : Below w.heap.size w W) => copyOps_any W v l (h.keep hW) (by omega) (fun x hx => by have := hls x hx; omega))
  have HN := hide (fun (hc : opsB l = true) (hb : opB o = true) (W : World) (hW : Below w.heap.size w W) u F (hF : OwOps W u l F) (hN : F.Nodup) => putInto_any W u vo l o F hF hN hc (ho.keep hW) hb hs hls)
  obtain ⟨k, n, t, rfl, hk, hn, ht⟩ := ho
  obtain ⟨ak, ck, rfl, _, _⟩ := hk.shape
  obtain ⟨an, cn, rfl, _, _⟩ := hn.shape
  obtain ⟨tt, ct, rfl, _, _⟩ := ht.shape
  obtain ⟨av, cv, rfl, _, _⟩ := Elems.shape h
  clear hk hn ht h hs hls
  have hA0 := (Below.refl w.heap.size w).alloc (Nat.le_refl _) (.cells #[.int .i64 o.kind, .int .i64 o.atN, .int .i64 o.atR, .int .i64 o.nodeN, .int .i64 o.nodeR, .int .i64 o.parN, .int .i64 o.parR, .slice ak o.key.length ck, .int .i64 o.elem, .slice an o.name.length cn, .slice tt o.text.length ct, .bool o.gone] 38)
  have l0 := Loc.made w #[.int .i64 o.kind, .int .i64 o.atN, .int .i64 o.atR, .int .i64 o.nodeN, .int .i64 o.nodeR, .int .i64 o.parN, .int .i64 o.parR, .slice ak o.key.length ck, .int .i64 o.elem, .slice an o.name.length cn, .slice tt o.text.length ct, .bool o.gone] 38
  unfold opVal at HO HN
  unfold putV putAns
  refine calls_via ?_
  intro Q HQ
  unfold opVal
  go_enter Tryz.func10, Tryz.ntmps10
  go_wp2_with fail
  generalize (w.alloc (.cells #[.int .i64 o.kind, .int .i64 o.atN, .int .i64 o.atR, .int .i64 o.nodeN, .int .i64 o.nodeR, .int .i64 o.parN, .int .i64 o.parR, .slice ak o.key.length ck, .int .i64 o.elem, .slice an o.name.length cn, .slice tt o.text.length ct, .bool o.gone] 38)) = wa at *
  refine (unhide HO _ hA0).mono ?_
  rintro e w1 ⟨rfl, hB⟩
  replace hA0 := bstep hA0 hB
  replace l0 := l0.all hB
  clear hB HO
  cases hb : opB o with
  | false =>
    rw [hb] at HQ
    rw [Bool.and_false] at HQ
    have KK := hide (unhide HQ (.returned (.tuple #[.slice none 0 0, .bool false])) w1 ⟨.slice none 0 0, rfl, [], owOps_none _, List.nodup_nil, Rng.nil _ _, hA0⟩)
    clear HQ
    go_wp2_with fail
    exact unhide KK
  | true =>
    go_wp2_with fail
    refine (unhide HS _ hA0).mono ?_
    rintro e w2 ⟨rfl, hB⟩
    replace hA0 := bstep hA0 hB
    replace l0 := l0.all hB
    clear hB HS
    cases hc : opsB l with
    | false =>
      rw [hb, hc] at HQ
      rw [Bool.false_and] at HQ
      have KK := hide (unhide HQ (.returned (.tuple #[.slice none 0 0, .bool false])) w2 ⟨.slice none 0 0, rfl, [], owOps_none _, List.nodup_nil, Rng.nil _ _, hA0⟩)
      clear HQ
      go_wp2_with fail
      exact unhide KK
    | true =>
      rw [hb, hc] at HQ
      have hl := opsB_len hc
      have HQ2 := hide (fun u kk w9 (hkk : kk = putOk l o) (z : ∃ F, OwOps w9 u (putL l o) F ∧ F.Nodup ∧ Rng F w.heap.size w9.heap.size ∧ Below w.heap.size w w9) => unhide HQ (.returned (.tuple #[u, .bool kk])) w9 ⟨u, by rw [hkk]; rfl, z⟩)
      replace HN := hide (unhide HN hc hb)
      clear HQ
      have HLO := hide l0
      have hlow := hA0.size
      obtain ⟨x0, x1, x2, x3, x4, x5, x6, x7, x8, x9, x10, x11⟩ := l0.twelve
      go_wp2_with fail
      go_region_with (first
        | (go_at_call 39; refine (unhide HP hl _ (hA0.drew)).mono ?_; clear HP; rintro e w3 ⟨u, rfl, F, hF, hN, hRng, hB⟩; have hK3 := bstep ((Below.refl w2.heap.size w2).drew) hB; obtain ⟨x0, x1, x2, x3, x4, x5, x6, x7, x8, x9, x10, x11⟩ := ((unhide HLO).all hK3).twelve; have hRng' := hRng.mono (lo' := w.heap.size) (by simpa using hlow) (Nat.le_refl _); obtain ⟨au, cu, rfl, _, _⟩ := Elems.shape hF.rd)
        | (go_at_call 38; refine (unhide HN _ (bstep hA0 hK3) _ F hF hN).mono ?_; clear HN; rintro e w4 ⟨u, rfl, _, F', hO, hN', hsub, hf⟩; obtain ⟨bu, du, rfl, _, _⟩ := Elems.shape hO.rd))
      all_goals
        have hA3 := bstep hA0 hK3
        have hFv : ∀ q ∈ FB (.slice au l.length cu), w.heap.size ≤ q := fun q hq => (hRng' q (by obtain ⟨Cs, Fs, _, _, _, _, rfl⟩ := hF; exact List.mem_append_left _ hq)).1
        have hs4 := hf.size
        have KK := hide (unhide HQ2 _ _ w4 rfl ⟨F', hO, hN', fun q hq => by
          rcases hsub q hq with h | h
          · have := hRng' q h; omega
          · have := hA3.size; omega, hA3.trans (hf.below hA3.size hFv)⟩)
        clear HQ2 hO hF hf x0 x1 x2 x3 x4 x5 x6 x7 x8 x9 x10 x11
        go_wp2_with fail
        first | exact unhide KK | (go_ret; exact unhide KK) | exact bodyPost_ret (v := .tuple #[.slice bu (putL l o).length du, .bool (putOk l o)]) (by simp [results, Tryz.results10, go_sem]) rfl (unhide KK)
end Go.Proofs.YtaoodcielfabdaaGreat

/- The law FnOrder, walked by its callees' contracts, given what it asks of its draw. -/
namespace Go.Proofs.YtaoodcielfabdaaGreat
open Go.RowKit
set_option linter.unusedVariables false
set_option maxRecDepth 100000

/-- What the law asks of its draw. -/
def DfSaid : Prop := ∀ (w : World) (code : Value) (l : List Int), Byt w code l → Calls Tryz.prog 6 #[code] w fun e w' => ∃ (z0 : Int) (p1 : Option Addr) (m1 q1 : Nat) (p2 : Option Addr) (m2 q2 : Nat) (p3 : Option Addr) (m3 q3 : Nat) (p4 : Option Addr) (m4 q4 : Nat) (a : Option Addr) (c : Nat) (m : List OpV), e = .returned (.tuple #[.agg #[.int .i64 z0, .slice p1 m1 q1, .slice p2 m2 q2, .slice p3 m3 q3, .slice p4 m4 q4], .slice a m.length c]) ∧ RdOps w' (.slice a m.length c) m ∧ (∀ x ∈ m, SmO x 40) ∧ m.length ≤ 151 ∧ Below w.heap.size w w'
theorem wr_in (n : Int) (h : -9223372036854775808 ≤ n ∧ n ≤ 9223372036854775807) : wrap64 n = n := by unfold wrap64; omega
theorem SmO.szO {o : OpV} {n : Nat} (h : SmO o n) : szO o ≤ 13 + n + n := by
  unfold Go.Proofs.YtaoodcielfabdaaGreat.szO
  have := h.1
  have := h.2.1
  have := h.2.2
  omega

set_option maxHeartbeats 40000000 in
theorem law_order (hDF : DfSaid) (w : World) (code : Value) (l : List Int) (h : Byt w code l) :
    Calls Tryz.prog 3 #[code] w fun e w' => e = .returned (.bool true) ∧ Below w.heap.size w w' := by
  have HD := hide (hDF w code l h)
  have HAT := hide (fun (i : Nat) (hi : i ≤ 1000000) W (hW : Below w.heap.size w W) => at_any W code l i hi (h.keep hW))
  obtain ⟨a0, c0, rfl, _, _⟩ := h.shape
  clear h hDF
  go_enter Tryz.func3, Tryz.ntmps3
  go_wp2_with fail
  refine (unhide HD).mono ?_
  rintro e w1 ⟨z0, p1, m1, q1, p2, m2, q2, p3, m3, q3, p4, m4, q4, am, cm, m, rfl, hM, hSm, hml, hB⟩
  have hX : ∀ {W : World}, Below w1.heap.size w1 W → Below w.heap.size w W := fun hW => bstep hB hW
  have HOPS := hide (fun W (hW : Below w1.heap.size w1 W) => opsS_any W _ m (hM.keep hW))
  have HOPI := hide (fun W (hW : Below w1.heap.size w1 W) => opsI_any W _ m (hM.keep hW))
  have HEL := hide (fun j (hj : j < m.length) => hM.elem rfl hj)
  have HM := hide (fun W (hW : Below w1.heap.size w1 W) => hM.keep hW)
  have hD : Below w1.heap.size w1 (w1.alloc (.cells #[.int .i64 z0, .slice p1 m1 q1, .slice p2 m2 q2, .slice p3 m3 q3, .slice p4 m4 q4] 26)) := (Below.refl _ _).alloc (Nat.le_refl _) _
  clear hM hB HD
  go_upto_region 2 with fail
  generalize (w1.alloc (.cells #[.int .i64 z0, .slice p1 m1 q1, .slice p2 m2 q2, .slice p3 m3 q3, .slice p4 m4 q4] 26)) = w2 at *
  go_wp2_with fail
  refine (unhide HOPS _ hD).mono ?_
  rintro e w3 ⟨rfl, hB⟩
  replace hD := bstep hD hB
  clear hB HOPS
  cases h1 : opsB m with
  | false =>
    go_wp2_with fail
    refine (unhide HOPI _ hD).mono ?_
    rintro e w4 ⟨rfl, hB⟩
    replace hD := bstep hD hB
    rw [h1]
    go_wp2_with fail
    go_ret
    exact ⟨rfl, hX hD⟩
  | true =>
  have hml2 := opsB_len h1
  go_wp2_with fail
  have hnil : m.filter (fun _ => false) = [] := List.filter_eq_nil_iff.2 (fun a _ h => by cases h)
  go_loopw [5, 6] (fun v i wr => ∃ (j : Nat) (a : Option Addr) (c : Nat) (q : OpV → Bool), j ≤ 2 * m.length ∧ i = .int .i64 j ∧ v = .slice a (m.filter q).length c ∧ RdOps wr (.slice a (m.filter q).length c) (m.filter q) ∧ Below w1.heap.size w1 wr) (fun _ i _ => 2 * m.length - (intOf i).toNat)
  case atStart => exact ⟨0, none, 0, fun _ => false, Nat.zero_le _, rfl, by rw [hnil]; rfl, by rw [hnil]; exact ⟨by simp [maxLen], .inl ⟨rfl, rfl⟩⟩, hD⟩
  case round =>
    clear hD
    obtain ⟨j, a, c, q, hj, rfl, rfl, hO, hD⟩ := hrel
    by_cases hlt : j < 2 * m.length
    · have hlt' : (j : Int) < 2 * (m.length : Int) := by omega
      go_wp2_with fail
      refine (unhide HAT 3 (by omega) _ (hX hD)).mono ?_
      rintro e w4 ⟨x3, hx0, hx1, rfl, rfl⟩
      obtain ⟨x3, rfl⟩ := Int.eq_ofNat_of_zero_le hx0
      go_wp2_with fail
      refine (unhide HAT 4 (by omega) _ (hX hD)).mono ?_
      rintro e w5 ⟨x4, hx2, hx3, rfl, rfl⟩
      obtain ⟨x4, rfl⟩ := Int.eq_ofNat_of_zero_le hx2
      have h9 : x3 % 9 < 9 := Nat.mod_lt _ (by omega)
      have hP : j * (1 + 2 * (x3 % 9)) ≤ 302 * 17 := Nat.mul_le_mul (by omega) (by omega)
      have eP : (j : Int) * (1 + 2 * ((x3 : Int) % 9)) = ((j * (1 + 2 * (x3 % 9)) : Nat) : Int) := by simp
      have eK : (wrap64 (wrap64 ((j : Int) * (1 + 2 * ((x3 : Int) % 9))) + (x4 : Int))).tmod (m.length : Int) = (((j * (1 + 2 * (x3 % 9)) + x4) % m.length : Nat) : Int) := by
        rw [eP, wr_in ((j * (1 + 2 * (x3 % 9)) : Nat) : Int) (by omega), wr_in _ (by omega), Int.tmod_eq_emod_of_nonneg (by omega)]
        simp
      have hkl : (j * (1 + 2 * (x3 % 9)) + x4) % m.length < m.length := Nat.mod_lt _ (by omega)
      have hmz : ¬ (m.length : Int) = 0 := by omega
      clear hP eP
      go_upto_region 9 with fail
      have eK2 : ((j : Int) * (1 + 2 * ((x3 : Int) % 9)) + (x4 : Int)) % (m.length : Int) = (((j * (1 + 2 * (x3 % 9)) + x4) % m.length : Nat) : Int) := by simp
      first | rw [eK2] | rw [eK]
      clear eK eK2
      generalize (j * (1 + 2 * (x3 % 9)) + x4) % m.length = kk at *
      obtain ⟨b, off, eb, hbl, C, hCl, hcc, hRC⟩ := unhide HEL kk hkl
      have hpf := put_filter h1 q hkl
      have hs0 := hSm _ (List.getElem_mem hkl)
      obtain ⟨p, hp⟩ : ∃ p, p = m[kk] := ⟨_, rfl⟩
      rw [← hp] at hRC hpf hs0
      clear hp
      obtain ⟨k', n', t', rfl, r1, r2, r3⟩ := hRC
      obtain ⟨a1, c1, rfl, _, _⟩ := r1.shape
      obtain ⟨a2, c2, rfl, _, _⟩ := r2.shape
      obtain ⟨a3, c3, rfl, _, _⟩ := r3.shape
      cases eb
      have y0 := (hD.cell (p := ⟨b, off + kk * 12 + 0, none⟩) hbl).trans (hcc 0 (by omega))
      have y1 := (hD.cell (p := ⟨b, off + kk * 12 + 1, none⟩) hbl).trans (hcc 1 (by omega))
      have y2 := (hD.cell (p := ⟨b, off + kk * 12 + 2, none⟩) hbl).trans (hcc 2 (by omega))
      have y3 := (hD.cell (p := ⟨b, off + kk * 12 + 3, none⟩) hbl).trans (hcc 3 (by omega))
      have y4 := (hD.cell (p := ⟨b, off + kk * 12 + 4, none⟩) hbl).trans (hcc 4 (by omega))
      have y5 := (hD.cell (p := ⟨b, off + kk * 12 + 5, none⟩) hbl).trans (hcc 5 (by omega))
      have y6 := (hD.cell (p := ⟨b, off + kk * 12 + 6, none⟩) hbl).trans (hcc 6 (by omega))
      have y7 := (hD.cell (p := ⟨b, off + kk * 12 + 7, none⟩) hbl).trans (hcc 7 (by omega))
      have y8 := (hD.cell (p := ⟨b, off + kk * 12 + 8, none⟩) hbl).trans (hcc 8 (by omega))
      have y9 := (hD.cell (p := ⟨b, off + kk * 12 + 9, none⟩) hbl).trans (hcc 9 (by omega))
      have y10 := (hD.cell (p := ⟨b, off + kk * 12 + 10, none⟩) hbl).trans (hcc 10 (by omega))
      have y11 := (hD.cell (p := ⟨b, off + kk * 12 + 11, none⟩) hbl).trans (hcc 11 (by omega))
      simp at y0 y1 y2 y3 y4 y5 y6 y7 y8 y9 y10 y11
      have HP := hide (iput_any w5 _ _ (m.filter q) p hO ⟨_, _, _, rfl, r1.keep hD, r2.keep hD, r3.keep hD⟩ (by have := hs0.szO; omega) (fun x hx => by have := (hSm x (List.mem_filter.1 hx).1).szO; omega))
      rw [hpf.1, hpf.2] at HP
      unfold opVal at HP
      have hlt0 : (0 : Int) ≤ (kk : Int) := by omega
      have hltk : (kk : Int) < (m.length : Int) := by omega
      clear hcc r1 r2 r3 hpf
      go_wp2_with fail
      clear y0 y1 y2 y3 y4 y5 y6 y7 y8 y9 y10 y11
      refine (unhide HP).mono ?_
      rintro e w3 ⟨u, rfl, F, hF, _, _, hB⟩
      have hO3 := hF.rd
      obtain ⟨u3, c3', rfl, _, _⟩ := Elems.shape hO3
      have hD3 := bstep hD hB
      clear HP hB hF hO hD
      go_wp2_with fail
      go_roundw
      case rel => exact ⟨j + 1, u3, c3', fun x => q x || atEq x p, by omega, by go_num, rfl, hO3, hD3⟩
      case measure => simp [intOf]; omega
    · have hlt' : ¬ (j : Int) < 2 * (m.length : Int) := by omega
      go_wp2_with fail
      go_loopw [5, 10] (fun v i wr => ∃ (j : Nat) (a : Option Addr) (c : Nat) (q : OpV → Bool), j ≤ m.length ∧ i = .int .i64 j ∧ v = .slice a (m.filter q).length c ∧ RdOps wr (.slice a (m.filter q).length c) (m.filter q) ∧ (∀ (k : Nat) (hk : k < m.length), k < j → q m[k] = true) ∧ Below w1.heap.size w1 wr) (fun _ i _ => m.length - (intOf i).toNat)
      case atStart => exact ⟨0, a, c, q, Nat.zero_le _, rfl, rfl, hO, fun k hk h => by omega, hD⟩
      case round =>
        clear hD hO hj hlt hlt' hnil
        obtain ⟨j, a, c, q, hj, rfl, rfl, hO, hq, hD⟩ := hrel
        by_cases hkl : j < m.length
        · have hlt' : (j : Int) < (m.length : Int) := by omega
          go_upto_region 16 with fail
          obtain ⟨b, off, eb, hbl, C, hCl, hcc, hRC⟩ := unhide HEL j hkl
          have hpf := put_filter h1 q hkl
          have hs0 := hSm _ (List.getElem_mem hkl)
          obtain ⟨p, hp⟩ : ∃ p, p = m[j] := ⟨_, rfl⟩
          rw [← hp] at hRC hpf hs0
          have hpq : ∀ (k : Nat) (hk : k < m.length), k < j + 1 → (q m[k] || atEq m[k] p) = true := fun k hk h => by
            by_cases hkj : k < j
            · rw [hq k hk hkj]; rfl
            · have e : k = j := by omega
              subst e
              rw [← hp]
              simp [atEq]
          clear hp
          obtain ⟨k', n', t', rfl, r1, r2, r3⟩ := hRC
          obtain ⟨a1, c1, rfl, _, _⟩ := r1.shape
          obtain ⟨a2, c2, rfl, _, _⟩ := r2.shape
          obtain ⟨a3, c3, rfl, _, _⟩ := r3.shape
          cases eb
          have y0 := (hD.cell (p := ⟨b, off + j * 12 + 0, none⟩) hbl).trans (hcc 0 (by omega))
          have y1 := (hD.cell (p := ⟨b, off + j * 12 + 1, none⟩) hbl).trans (hcc 1 (by omega))
          have y2 := (hD.cell (p := ⟨b, off + j * 12 + 2, none⟩) hbl).trans (hcc 2 (by omega))
          have y3 := (hD.cell (p := ⟨b, off + j * 12 + 3, none⟩) hbl).trans (hcc 3 (by omega))
          have y4 := (hD.cell (p := ⟨b, off + j * 12 + 4, none⟩) hbl).trans (hcc 4 (by omega))
          have y5 := (hD.cell (p := ⟨b, off + j * 12 + 5, none⟩) hbl).trans (hcc 5 (by omega))
          have y6 := (hD.cell (p := ⟨b, off + j * 12 + 6, none⟩) hbl).trans (hcc 6 (by omega))
          have y7 := (hD.cell (p := ⟨b, off + j * 12 + 7, none⟩) hbl).trans (hcc 7 (by omega))
          have y8 := (hD.cell (p := ⟨b, off + j * 12 + 8, none⟩) hbl).trans (hcc 8 (by omega))
          have y9 := (hD.cell (p := ⟨b, off + j * 12 + 9, none⟩) hbl).trans (hcc 9 (by omega))
          have y10 := (hD.cell (p := ⟨b, off + j * 12 + 10, none⟩) hbl).trans (hcc 10 (by omega))
          have y11 := (hD.cell (p := ⟨b, off + j * 12 + 11, none⟩) hbl).trans (hcc 11 (by omega))
          simp at y0 y1 y2 y3 y4 y5 y6 y7 y8 y9 y10 y11
          have HP := hide (iput_any wr _ _ (m.filter q) p hO ⟨_, _, _, rfl, r1.keep hD, r2.keep hD, r3.keep hD⟩ (by have := hs0.szO; omega) (fun x hx => by have := (hSm x (List.mem_filter.1 hx).1).szO; omega))
          rw [hpf.1, hpf.2] at HP
          unfold opVal at HP
          have hlt0 : (0 : Int) ≤ (j : Int) := by omega
          have hltk : (j : Int) < (m.length : Int) := by omega
          clear hcc r1 r2 r3 hpf
          go_wp2_with fail
          clear y0 y1 y2 y3 y4 y5 y6 y7 y8 y9 y10 y11
          refine (unhide HP).mono ?_
          rintro e w3 ⟨u, rfl, F, hF, _, _, hB⟩
          have hO3 := hF.rd
          obtain ⟨u3, c3', rfl, _, _⟩ := Elems.shape hO3
          have hD3 := bstep hD hB
          clear HP hB hF hO hD
          go_wp2_with fail
          go_roundw
          case rel => exact ⟨j + 1, u3, c3', fun x => q x || atEq x p, by omega, by go_num, rfl, hO3, hpq, hD3⟩
          case measure => simp [intOf]; omega
        · have hlt' : ¬ (j : Int) < (m.length : Int) := by omega
          have eF : m.filter q = m := filter_all (fun i hi => hq i hi (by omega))
          rw [eF] at hO ⊢
          have HSM := hide (sameOps_true wr _ _ m m hO (unhide HM _ hD) rfl (by omega) (fun x hx => by have := (hSm x hx).1; omega) (fun x hx => by have := (hSm x hx).1; omega) (fun i hi hi' => ⟨rfl, rfl, rfl⟩))
          have HOI := hide (fun W (hW : Below wr.heap.size wr W) => opsI_any W _ m (hO.keep hW))
          have HD2 := hide hD
          clear hD hO hq eF HM HEL HOPI
          go_wp2_with fail
          refine (unhide HSM).mono ?_
          rintro e w6 ⟨rfl, hB⟩
          go_wp2_with fail
          refine (unhide HOI _ hB).mono ?_
          rintro e w7 ⟨rfl, hB2⟩
          rw [h1]
          go_wp2_with fail
          go_ret
          exact ⟨rfl, hX (bstep (bstep (unhide HD2) hB) hB2)⟩
end Go.Proofs.YtaoodcielfabdaaGreat

/- spec.DrawFold draws a node and operations that can be read. -/
namespace Go.Proofs.YtaoodcielfabdaaGreat
open Go.RowKit
set_option linter.unusedVariables false
set_option maxRecDepth 100000


theorem RdG.lo2 {g q : Nat} {w w' : World} {C : List Value} {o : OpV} (h : RdG g w C o) (hg : w.grownBy w' (some q)) (hq : q ≤ g) : RdG g w' C o := by
  obtain ⟨k, n, t, e, h1, h2, h3⟩ := h
  exact ⟨k, n, t, e, h1.keepBy hg (.inr (fun e => by have := (h1.lt _ e).1; omega)), h2.keepBy hg (fun q e e2 => by have := (h2.lt _ e).1; cases e2; omega), h3.keepBy hg (fun q e e2 => by have := (h3.lt _ e).1; cases e2; omega)⟩
theorem DrOps.lo2 {g B q : Nat} {w w' : World} {v : Value} {l : List OpV} (h : DrOps g B w v l) (hg : w.grownBy w' (some q)) (hq : q ≤ g) : DrOps g B w' v l :=
  ⟨h.1, ShOpsP.to (fun _ _ hr => hr.lo2 hg hq) h.2 (Frm.ofGrown hg) (fun r hr => by have := h.1; simp at hr; omega)⟩
theorem Cur.to {w wa wr : World} {g : Nat} {code : Value} {l : List Int} (h : Cur wa wr g code l) (hb : Byt w code l) (hA : Below w.heap.size w wa) : Cur w wr g code l := ⟨hb, bstep hA h.below, Nat.le_trans hA.size h.new, h.cells⟩
/-- What stands throughout. -/
def FS (w : World) (g b : Nat) (code : Value) (l : List Int) (wr : World) : Prop := NB wr w.heap.size ∧ NB wr b ∧ g < b ∧ Cur w wr g code l
set_option maxHeartbeats 12800000 in
theorem drawFold_any : DfSaid := by
  intro w code l h
  have hA := (Below.refl w.heap.size w).alloc (Nat.le_refl _) (.cells #[.int .i64 0, .slice none 0 0, .slice none 0 0, .slice none 0 0, .slice none 0 0] 26)
  have lr := Loc.made w #[.int .i64 0, .slice none 0 0, .slice none 0 0, .slice none 0 0, .slice none 0 0] 26
  have HN := hide (l1New_any _ code l (h.keep hA))
  obtain ⟨a, c, rfl, _, _⟩ := h.shape
  have hsz : (w.alloc (.cells #[.int .i64 0, .slice none 0 0, .slice none 0 0, .slice none 0 0, .slice none 0 0] 26)).heap.size = w.heap.size + 1 := by simp
  rw [hsz] at HN
  have LL := hide (And.intro lr (And.intro hA hsz))
  have HBY := hide h
  clear h lr hA hsz
  refine calls_via ?_
  intro Q HQ
  go_enter Tryz.func6, Tryz.ntmps6
  go_wp2_with fail
  obtain ⟨lr, hA, hsz⟩ := unhide LL
  clear LL
  generalize (w.alloc (.cells #[.int .i64 0, .slice none 0 0, .slice none 0 0, .slice none 0 0, .slice none 0 0] 26)) = wa at *
  refine (unhide HN).mono ?_
  rintro e w1 ⟨rfl, hCa, hB1⟩
  have hC := hCa.to (unhide HBY) hA
  clear hCa
  have lr1 := lr.keep hB1 (by omega)
  have HL := hide (l5first_any w w1 _ _ l hC)
  have hcl := hC.lt
  clear hC HN lr
  go_wp2_with fail
  refine (unhide HL).mono ?_
  rintro e w2 ⟨v2, rfl, ⟨kd, a1, n1, c1, a2, n2, c2, a3, n3, c3, a4, n4, c4, rfl⟩, hC2, hG2⟩
  have lr2 := lr1.frm (Frm.ofGrown hG2) (by simp)
  have hs2 := hG2.size
  have hA3 := (Below.refl w2.heap.size w2).alloc (Nat.le_refl _) (.cells #[.int .i64 kd, .slice a1 n1 c1, .slice a2 n2 c2, .slice a3 n3 c3, .slice a4 n4 c4] 26)
  have lb := Loc.made w2 #[.int .i64 kd, .slice a1 n1 c1, .slice a2 n2 c2, .slice a3 n3 c3, .slice a4 n4 c4] 26
  have hFS : FS w (w.heap.size + 1) w2.heap.size _ l _ := ⟨⟨_, _, _, _, _, _, _, _, _, _, _, _, _, N5.loc (lr2.all hA3)⟩, ⟨_, _, _, _, _, _, _, _, _, _, _, _, _, N5.loc lb⟩, by omega, hC2.keepAll hA3⟩
  have HF := hide hFS
  have HO := hide (l1Once_any w _ _ _ l 12 (hC2.keepAll hA3) (by decide) (by decide))
  clear HL lr1 lr2 hA3 lb hFS hC2 hG2
  go_upto_region 3 with fail
  generalize (w2.alloc (.cells #[.int .i64 kd, .slice a1 n1 c1, .slice a2 n2 c2, .slice a3 n3 c3, .slice a4 n4 c4] 26)) = w3 at *
  generalize w2.heap.size = b at *
  go_wp2_with fail
  refine (unhide HO).mono ?_
  rintro e w4 ⟨bb, rfl, hC4, hG4⟩
  obtain ⟨q1, q2, q3, q4⟩ := unhide HF
  have HF4 := hide (show FS w (w.heap.size + 1) b _ l w4 from ⟨q1.frm (Frm.ofGrown hG4) (by simp), q2.frm (Frm.ofGrown hG4) (by simp; omega), q3, hC4⟩)
  clear HO HF q1 q2 q4 hC4 hG4
  go_upto_if 11 with fail
  go_cut [] from 12 to 13 (fun wx => FS w (w.heap.size + 1) b (.slice a l.length c) l wx)
  case first =>
    cases bb with
    | false =>
      go_wp2_with fail
      go_meet
      exact unhide HF4
    | true =>
      have HB := hide (l2bent_any w w4 _ _ l (unhide HF4).2.2.2)
      go_wp2_with fail
      refine (unhide HB).mono ?_
      rintro e w5 ⟨v5, rfl, ⟨kd', a1', n1', c1', a2', n2', c2', a3', n3', c3', a4', n4', c4', rfl⟩, hC5, hG5⟩
      obtain ⟨q1, q2, q3, q4⟩ := unhide HF4
      have hn1 := q1.frm (Frm.ofGrown hG5) (by simp)
      have hn2 := q2.frm (Frm.ofGrown hG5) (by simp; omega)
      have hput := hn2.five (.int .i64 kd') (.slice a1' n1' c1') (.slice a2' n2' c2') (.slice a3' n3' c3') (.slice a4' n4' c4')
      have hsf := five_frm w5 b (.int .i64 kd') (.slice a1' n1' c1') (.slice a2' n2' c2') (.slice a3' n3' c3') (.slice a4' n4' c4')
      have HE := hide (show FS w (w.heap.size + 1) b _ l _ from ⟨hn1.frm hsf (by simp; omega), ⟨_, _, _, _, _, _, _, _, _, _, _, _, _, hput⟩, q3, hC5.keep (Frm.toGrown' hsf) (by simp; omega) (fun q hq => by cases hq; omega)⟩)
      obtain ⟨_, _, _, _, _, _, _, _, _, _, _, _, _, hb5⟩ := hn2
      obtain ⟨y0, y1, y2, y3, y4⟩ := hb5.cells
      have g0 := hb5.frozen 0
      have g1 := hb5.frozen 1
      have g2 := hb5.frozen 2
      have g3 := hb5.frozen 3
      have g4 := hb5.frozen 4
      simp only [Nat.zero_add] at y0 y1 y2 y3 y4
      clear HB HF4 q1 q2 q4 hn1 hput hsf hC5 hG5 hb5
      go_wp2_with fail
      go_meet
      exact unhide HE
  case rest =>
  clear HF4
  obtain ⟨q1, ⟨kd, a1, n1, c1, a2, n2, c2, a3, n3, c3, a4, n4, c4, q2⟩, q3, q4⟩ := hcut
  have hdr : Below wc.heap.size wc wc.drew := (Below.refl _ _).drew
  have qd1 := q1.frm (Frm.ofBelow hdr []) (by simp)
  have qd2 := q2.frm (Frm.ofBelow hdr []) (by simp)
  have qd4 := q4.keepAll hdr
  have hput := qd1.five (.int .i64 kd) (.slice a1 n1 c1) (.slice a2 n2 c2) (.slice a3 n3 c3) (.slice a4 n4 c4)
  have hsf := five_frm wc.drew w.heap.size (.int .i64 kd) (.slice a1 n1 c1) (.slice a2 n2 c2) (.slice a3 n3 c3) (.slice a4 n4 c4)
  have hCs := qd4.keep (Frm.toGrown' hsf) (by simp) (fun q hq => by cases hq; omega)
  have he2 : ∀ args w, (callFunc 33 args).run Tryz.prog w = .ok (.enter 33 args) w := enters_of Tryz.func33 (by kernel_rfl) rfl
  have HB1 := hide (l5bent_any w wc.drew (w.heap.size + 1) (.slice a l.length c) l qd4)
  have HB2 := hide (l5bent_any w (((((wc.drew.setCell ⟨w.heap.size, 0, none⟩ (.int .i64 kd)).setCell ⟨w.heap.size, 1, none⟩ (.slice a1 n1 c1)).setCell ⟨w.heap.size, 2, none⟩ (.slice a2 n2 c2)).setCell ⟨w.heap.size, 3, none⟩ (.slice a3 n3 c3)).setCell ⟨w.heap.size, 4, none⟩ (.slice a4 n4 c4)) (w.heap.size + 1) (.slice a l.length c) l hCs)
  obtain ⟨z0, z1, z2, z3, z4⟩ := qd2.cells
  obtain ⟨_, _, _, _, _, _, _, _, _, _, _, _, _, qr⟩ := id qd1
  obtain ⟨y0, y1, y2, y3, y4⟩ := qr.cells
  have g0 := qr.frozen 0
  have g1 := qr.frozen 1
  have g2 := qr.frozen 2
  have g3 := qr.frozen 3
  have g4 := qr.frozen 4
  simp only [Nat.zero_add] at y0 y1 y2 y3 y4 z0 z1 z2 z3 z4
  have PA := hide (And.intro qd1 qd2)
  have PB := hide hput
  clear hput hsf hCs qd1 qd2 qd4 qr q1 q2 q4
  go_wp2_with fail
  go_region_law
    (first
      | (refine step_call (by rfl) 33 [.tmp 15] #[70] (by rfl) he2 [.pointer (some ⟨w.heap.size + 1, 0, none⟩)] (by rfl) (unhide HB1) ?_; rintro e w6 ⟨am, cm, m, rfl, ho, hSm, hml, hC6, hG6⟩; have hr6 := (unhide PA).1.frm (Frm.ofGrown hG6) (by simp); have hn6 := (unhide PA).2.frm (Frm.ofGrown hG6) (by simp; omega); obtain ⟨z0, z1, z2, z3, z4⟩ := hn6.cells; have hp6 := hr6.five (.int .i64 kd) (.slice a1 n1 c1) (.slice a2 n2 c2) (.slice a3 n3 c3) (.slice a4 n4 c4); have hs6 := Frm.toGrown' (five_frm w6 w.heap.size (.int .i64 kd) (.slice a1 n1 c1) (.slice a2 n2 c2) (.slice a3 n3 c3) (.slice a4 n4 c4)); have HE := hide (And.intro hp6.cells (And.intro (ho.lo2 hs6 (by omega)).rd (bstepBy hC6.below hs6 (fun q hq => by cases hq; exact Nat.le_refl _)))); obtain ⟨_, _, _, _, _, _, _, _, _, _, _, _, _, qr⟩ := hr6; obtain ⟨y0, y1, y2, y3, y4⟩ := qr.cells; have g0 := qr.frozen 0; have g1 := qr.frozen 1; have g2 := qr.frozen 2; have g3 := qr.frozen 3; have g4 := qr.frozen 4; simp only [Nat.zero_add] at y0 y1 y2 y3 y4 z0 z1 z2 z3 z4; clear qr hp6 hs6 hn6 ho hC6 hG6; refine ⟨_, rfl, ?_⟩)
      | (refine step_call (by rfl) 33 [.tmp 15] #[70] (by rfl) he2 [.pointer (some ⟨w.heap.size + 1, 0, none⟩)] (by rfl) (unhide HB2) ?_; rintro e w6 ⟨am, cm, m, rfl, ho, hSm, hml, hC6, hG6⟩; have HE := hide (And.intro ((unhide PB).frm (Frm.ofGrown hG6) (by simp)).cells (And.intro ho.rd hC6.below)); clear ho hC6 hG6; refine ⟨_, rfl, ?_⟩))
  all_goals
    clear HB1 HB2 PA PB
    go_wp2_with fail
    obtain ⟨⟨r0, r1, r2, r3, r4⟩, hrd, hbl⟩ := unhide HE
    simp only [Nat.zero_add] at r0 r1 r2 r3 r4
    exact bodyPost_ret (v := .tuple #[.agg #[.int .i64 kd, .slice a1 n1 c1, .slice a2 n2 c2, .slice a3 n3 c3, .slice a4 n4 c4], .slice am m.length cm]) (by simp [results, Tryz.results6, go_sem, r0, r1, r2, r3, r4]) rfl (unhide HQ _ _ ⟨_, _, _, _, _, _, _, _, _, _, _, _, _, _, _, _, rfl, hrd, hSm, hml, hbl⟩)
end Go.Proofs.YtaoodcielfabdaaGreat

/- An argument of a law that can be read as data is a row of numbers, a stamp, an operation: what the data's readings open to. No condition. -/
namespace Go.Proofs.YtaoodcielfabdaaGreat
open Go.RowKit Go.ChangeShapes
set_option linter.unusedVariables false
set_option maxRecDepth 100000

variable {H : Type} {enc : TypeId × Value → H} {W : World} {held : Bool}

theorem open_bytesO {fuel : Nat} {cs : List Value} {x : DataW H × List MemPlace} (h : DataW.trod enc Tryz.prog W 0 (fun _ => true) held fuel 22 cs = some x) :
    ∃ v l, cs = [v] ∧ Byt W v l := by
  rcases open_ints Tryz.underlying22 Tryz.underlying5 (by kernel_rfl) h with ⟨hcs, _⟩ | ⟨a, len, cap, zs, hcs, _, hl, hm, hz, _, hcell, hwz⟩
  · exact ⟨_, _, hcs, byt_of_row (zs := []) (.inl ⟨rfl, rfl, rfl, rfl⟩)⟩
  · exact ⟨_, _, hcs, byt_of_row (.inr ⟨_, rfl, hl, hm, by simpa using hz, hcell, hwz⟩)⟩
/-- An argument that is a row of bytes. -/
theorem arg_bytesO {r : Reach} {base : Nat} {v : Value} {d : DataW H} {p : List MemPlace} (hv : Value.okWide Tryz.prog W r base 22 v) (h : DataW.Trod enc Tryz.prog W 0 (fun _ => true) held 22 v d p) : ∃ l, Byt W v l := by
  obtain ⟨a, len, cap, rfl⟩ := WideShapes.okWide_slice Tryz.underlying22 hv
  obtain ⟨fuel, hf⟩ := h
  obtain ⟨u, l, hu, hb⟩ := open_bytesO hf
  simp [Value.cells] at hu
  subst hu
  exact ⟨l, hb⟩
end Go.Proofs.YtaoodcielfabdaaGreat
