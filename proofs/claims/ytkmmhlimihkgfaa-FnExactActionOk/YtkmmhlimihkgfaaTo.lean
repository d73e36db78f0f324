/- The law's own helpers over bytes: a copy of a row, by its contract. -/
import Derived.Test.YtkmmhlimihkgfaaChecked
import Derived.Test.YtkmmhlimihkgfaaBase
namespace Go.Proofs.Ytkmmhlimihkgfaa
open Go.RowKit
set_option linter.unusedVariables false

theorem Try.info5 : (Try.prog.info? 5).map (fun i => (i.zero, i.size, i.bytes)) = some (some (.int .u8 0), 1, 1) := by kernel_rfl

/-- Behind k rounds of the copying loop: the first k bytes of l, then zeros. -/
def half (l : List Int) (k : Nat) : List Int := l.take k ++ List.replicate (l.length - k) 0
theorem half_len (l : List Int) (k : Nat) (h : k ≤ l.length) : (half l k).length = l.length := by simp [half]; omega
theorem half_zero (l : List Int) : vals (half l 0) = (madeCells #[Value.int .u8 0] l.length).toList := by
  rw [toList_madeCells_one]
  simp [half, vals]
theorem half_all (l : List Int) : half l l.length = l := by simp [half]
theorem half_at (l : List Int) (k i : Nat) (hk : k ≤ l.length) : (half l k)[i]? = if i < k then l[i]? else if i < l.length then some 0 else none := by
  have hm : min k l.length = k := by omega
  unfold half
  rw [List.getElem?_append, List.length_take, hm]
  by_cases h : i < k
  · simp [h]
  · rw [if_neg h, if_neg h, List.getElem?_replicate]
    by_cases h2 : i < l.length
    · rw [if_pos h2, if_pos (by omega)]
    · rw [if_neg h2, if_neg (by omega)]
theorem half_step (l : List Int) (k : Nat) (h : k < l.length) : (vals (half l k)).set k (.int .u8 (l.getD k 0)) = vals (half l (k + 1)) := by
  apply List.ext_getElem?
  intro i
  unfold vals
  rw [List.getElem?_set, List.getElem?_map, List.getElem?_map, half_at l k i (by omega), half_at l (k + 1) i (by omega), List.length_map, half_len l k (by omega)]
  by_cases hk : k = i
  · subst hk; rw [if_pos rfl, if_pos h, if_pos (by omega)]; simp [h]
  · rw [if_neg hk]
    by_cases h2 : i < k
    · rw [if_pos h2, if_pos (by omega)]
    · rw [if_neg h2, if_neg (show ¬ i < k + 1 by omega)]

set_option maxHeartbeats 1600000 in
set_option maxRecDepth 1000000 in
theorem toB_any (w : World) (v : Value) (l : List Int) (h : Byt w v l) (hs : l.length ≤ 2097152) :
    Calls Try.prog 22 #[v] w fun e w' => ∃ v', e = .returned v' ∧ Own w' w.heap.size v' l ∧ v' ≠ .slice none 0 0 ∧ Below w.heap.size w w' := by
  obtain ⟨i0, hi, hz0, hz1, hz2⟩ := info_parts Try.info5
  obtain ⟨hok, hm, ⟨rfl, rfl⟩ | ⟨x, cap, rfl, hc, rfl⟩ | ⟨b, off, cap, rfl, h1, h2, h3, h4, h5⟩⟩ := h
  · go_enter Try.func22, Try.ntmps22
    go_wp2_with (at_make; refine wpList_make_full _ rfl _ _ 24 rfl w.heap.size 5 i0 (.int .u8 0) 1 Try.underlying24 hi hz0 hz1 .i64 .i64 _ _ 0 rfl rfl rfl rfl ?c1 ?c2 ?c3 ?_)
    case c1 => omega
    case c2 => exact hm
    case c3 => exact Nat.le_refl _
    intro w1 hown hgrow
    have hB1 := Below.ofGrown hgrow
    have hown1 : w1.ownsRow w.heap.size 5 1 (.slice (some ⟨w.heap.size, 0, none⟩) 0 0) 0 (vals []) := by have e := half_zero []; rw [show half [] 0 = [] from rfl] at e; rw [e]; exact hown
    clear hown hgrow
    go_wp2
    refine wp_loop_rounds 1 ?_
    rw [rounds_succ]
    go_wp2
    go_ret
    exact ⟨_, rfl, ⟨okB_nil, hown1⟩, by simp, hB1⟩
  · go_enter Try.func22, Try.ntmps22
    go_wp2_with (at_make; refine wpList_make_full _ rfl _ _ 24 rfl w.heap.size 5 i0 (.int .u8 0) 1 Try.underlying24 hi hz0 hz1 .i64 .i64 _ _ 0 rfl rfl rfl rfl ?c1 ?c2 ?c3 ?_)
    case c1 => omega
    case c2 => exact hm
    case c3 => exact Nat.le_refl _
    intro w1 hown hgrow
    have hB1 := Below.ofGrown hgrow
    have hown1 : w1.ownsRow w.heap.size 5 1 (.slice (some ⟨w.heap.size, 0, none⟩) 0 0) 0 (vals []) := by have e := half_zero []; rw [show half [] 0 = [] from rfl] at e; rw [e]; exact hown
    clear hown hgrow
    go_wp2
    refine wp_loop_rounds 1 ?_
    rw [rounds_succ]
    go_wp2
    go_ret
    exact ⟨_, rfl, ⟨okB_nil, hown1⟩, by simp, hB1⟩
  · go_enter Try.func22, Try.ntmps22
    go_wp2_with (at_make; refine wpList_make_full _ rfl _ _ 24 rfl w.heap.size 5 i0 (.int .u8 0) 1 Try.underlying24 hi hz0 hz1 .i64 .i64 _ _ l.length rfl rfl rfl rfl ?c1 ?c2 ?c3 ?_)
    case c1 => rw [hz2]; omega
    case c2 => exact hm
    case c3 => exact Nat.le_refl _
    intro w1 hown hgrow
    have hB1 := Below.ofGrown hgrow
    have hown1 : w1.ownsRow w.heap.size 5 1 (.slice (some ⟨w.heap.size, 0, none⟩) l.length l.length) l.length (vals (half l 0)) := by rw [half_zero]; exact hown
    clear hown hgrow
    go_wp2
    go_loopw [4] (fun i wr => ∃ k : Nat, k ≤ l.length ∧ i = .int .i64 k ∧ wr.ownsRow w.heap.size 5 1 (.slice (some ⟨w.heap.size, 0, none⟩) l.length l.length) l.length (vals (half l k)) ∧ Below w.heap.size w wr) (fun i _ => l.length - (intOf i).toNat)
    case atStart => exact ⟨0, Nat.zero_le _, rfl, hown1, hB1⟩
    case round =>
      obtain ⟨k, hk, rfl, hw, hB⟩ := hrel
      clear hown1 hB1
      have hcx : k < l.length → wr.cell? ⟨b, off + k, none⟩ = some (.int .u8 (l.getD k 0)) := fun hlt => (hB.cell (p := ⟨b, off + k, none⟩) h4).trans (h5 k hlt)
      have hcy : k < l.length → wr.cell? ⟨w.heap.size, k, none⟩ = some (.int .u8 ((half l k).getD k 0)) := fun hlt => by
        rw [hw.cellAt k (by omega), vals_at (by rw [half_len l k hk]; exact hlt)]
      have hfr := hw.frozenAt k
      have hst := hw.stored k (.int .u8 (l.getD k 0))
      have R : k < l.length → (wr.setCell ⟨w.heap.size, k, none⟩ (.int .u8 (l.getD k 0))).ownsRow w.heap.size 5 1 (.slice (some ⟨w.heap.size, 0, none⟩) l.length l.length) l.length (vals (half l (k + 1))) ∧ Below w.heap.size w (wr.setCell ⟨w.heap.size, k, none⟩ (.int .u8 (l.getD k 0))) := fun hlt => by
        rw [← half_step l k hlt]
        exact ⟨hst.1, hB.setCell (p := ⟨w.heap.size, k, none⟩) (Nat.le_refl _) _⟩
      have HR := hide R
      clear R hst
      go_wp2
      · have hlt : k < l.length := by assumption
        have R := unhide HR hlt
        rw [getD_at hlt] at R
        go_roundw
        case rel => exact ⟨k + 1, by omega, by go_num, R.1, R.2⟩
        case measure => simp [intOf]; omega
      · have e : k = l.length := by omega
        subst e
        go_ret
        rw [half_all] at hw
        exact ⟨_, rfl, ⟨hok, hw⟩, by simp, hB⟩
end Go.Proofs.Ytkmmhlimihkgfaa
