/- Own texts joined: To, ToZ, ToO, OwO, OpsT, OwOs, ShO, SetSh, App, AppSh, ShP, LesI, OpsM, PutV, QGr, Via. -/
import Derived.Test.YtkmmhlimihkgfaaGreatJa
import Derived.Test.YtkmmhlimihkgfaaGreatChecked
import Derived.Deep.RegionHeld3
import Derived.BigQuiet

/- The law's own helpers over bytes: a copy of a row, by its contract. -/
namespace Go.Proofs.YtkmmhlimihkgfaaGreat
open Go.RowKit
set_option linter.unusedVariables false

theorem Tryz.info5 : (Tryz.prog.info? 5).map (fun i => (i.zero, i.size, i.bytes)) = some (some (.int .u8 0), 1, 1) := by kernel_rfl

/-- Behind k rounds of the copying loop: the first k bytes of l, then zeros. -/
def half (l : List Int) (k : Nat) : List Int := l.take k ++ List.replicate (l.length - k) 0
theorem half_len (l : List Int) (k : Nat) (h : k ≤ l.length) : (half l k).length = l.length := by simp [half]; omega
theorem half_zero (l : List Int) : vals (half l 0) = (madeCells #[Value.int .u8 0] l.length).toList := by
  rw [toList_madeCells_one]
  simp [half, vals]
theorem half_all (l : List Int) : half l l.length = l := by simp [half]
theorem half_at (l : List Int) (k i : Nat) (hk : k ≤ l.length) : (half l k)[i]? = if i < k then l[i]? else if i < l.length then some 0 else none := by
  have hm : min k l.length = k := by omega
  unfold half
  rw [List.getElem?_append, List.length_take, hm]
  by_cases h : i < k
  · simp [h]
  · rw [if_neg h, if_neg h, List.getElem?_replicate]
    by_cases h2 : i < l.length
    · rw [if_pos h2, if_pos (by omega)]
    · rw [if_neg h2, if_neg (by omega)]
theorem half_step (l : List Int) (k : Nat) (h : k < l.length) : (vals (half l k)).set k (.int .u8 (l.getD k 0)) = vals (half l (k + 1)) := by
  apply List.ext_getElem?
  intro i
  unfold vals
  rw [List.getElem?_set, List.getElem?_map, List.getElem?_map, half_at l k i (by omega), half_at l (k + 1) i (by omega), List.length_map, half_len l k (by omega)]
  by_cases hk : k = i
  · subst hk; rw [if_pos rfl, if_pos h, if_pos (by omega)]; simp [h]
  · rw [if_neg hk]
    by_cases h2 : i < k
    · rw [if_pos h2, if_pos (by omega)]
    · rw [if_neg h2, if_neg (show ¬ i < k + 1 by omega)]

set_option maxHeartbeats 1600000 in
set_option maxRecDepth 1000000 in
theorem toB_any (w : World) (v : Value) (l : List Int) (h : Byt w v l) (hs : l.length ≤ 2097152) :
    Calls Tryz.prog 50 #[v] w fun e w' => ∃ v', e = .returned v' ∧ Own w' w.heap.size v' l ∧ v' ≠ .slice none 0 0 ∧ Below w.heap.size w w' := by
  obtain ⟨i0, hi, hz0, hz1, hz2⟩ := info_parts Tryz.info5
  obtain ⟨hok, hm, ⟨rfl, rfl⟩ | ⟨x, cap, rfl, hc, rfl⟩ | ⟨b, off, cap, rfl, h1, h2, h3, h4, h5⟩⟩ := h
  · go_enter Tryz.func50, Tryz.ntmps50
    go_wp2_with (at_make; refine wpList_make_full _ rfl _ _ 22 rfl w.heap.size 5 i0 (.int .u8 0) 1 Tryz.underlying22 hi hz0 hz1 .i64 .i64 _ _ 0 rfl rfl rfl rfl ?c1 ?c2 ?c3 ?_)
    case c1 => omega
    case c2 => exact hm
    case c3 => exact Nat.le_refl _
    intro w1 hown hgrow
    have hB1 := Below.ofGrown hgrow
    have hown1 : w1.ownsRow w.heap.size 5 1 (.slice (some ⟨w.heap.size, 0, none⟩) 0 0) 0 (vals []) := by have e := half_zero []; rw [show half [] 0 = [] from rfl] at e; rw [e]; exact hown
    clear hown hgrow
    go_wp2
    refine wp_loop_rounds 1 ?_
    rw [rounds_succ]
    go_wp2
    go_ret
    exact ⟨_, rfl, ⟨okB_nil, hown1⟩, by simp, hB1⟩
  · go_enter Tryz.func50, Tryz.ntmps50
    go_wp2_with (at_make; refine wpList_make_full _ rfl _ _ 22 rfl w.heap.size 5 i0 (.int .u8 0) 1 Tryz.underlying22 hi hz0 hz1 .i64 .i64 _ _ 0 rfl rfl rfl rfl ?c1 ?c2 ?c3 ?_)
    case c1 => omega
    case c2 => exact hm
    case c3 => exact Nat.le_refl _
    intro w1 hown hgrow
    have hB1 := Below.ofGrown hgrow
    have hown1 : w1.ownsRow w.heap.size 5 1 (.slice (some ⟨w.heap.size, 0, none⟩) 0 0) 0 (vals []) := by have e := half_zero []; rw [show half [] 0 = [] from rfl] at e; rw [e]; exact hown
    clear hown hgrow
    go_wp2
    refine wp_loop_rounds 1 ?_
    rw [rounds_succ]
    go_wp2
    go_ret
    exact ⟨_, rfl, ⟨okB_nil, hown1⟩, by simp, hB1⟩
  · go_enter Tryz.func50, Tryz.ntmps50
    go_wp2_with (at_make; refine wpList_make_full _ rfl _ _ 22 rfl w.heap.size 5 i0 (.int .u8 0) 1 Tryz.underlying22 hi hz0 hz1 .i64 .i64 _ _ l.length rfl rfl rfl rfl ?c1 ?c2 ?c3 ?_)
    case c1 => rw [hz2]; omega
    case c2 => exact hm
    case c3 => exact Nat.le_refl _
    intro w1 hown hgrow
    have hB1 := Below.ofGrown hgrow
    have hown1 : w1.ownsRow w.heap.size 5 1 (.slice (some ⟨w.heap.size, 0, none⟩) l.length l.length) l.length (vals (half l 0)) := by rw [half_zero]; exact hown
    clear hown hgrow
    go_wp2
    go_loopw [4] (fun i wr => ∃ k : Nat, k ≤ l.length ∧ i = .int .i64 k ∧ wr.ownsRow w.heap.size 5 1 (.slice (some ⟨w.heap.size, 0, none⟩) l.length l.length) l.length (vals (half l k)) ∧ Below w.heap.size w wr) (fun i _ => l.length - (intOf i).toNat)
    case atStart => exact ⟨0, Nat.zero_le _, rfl, hown1, hB1⟩
    case round =>
      obtain ⟨k, hk, rfl, hw, hB⟩ := hrel
      clear hown1 hB1
      have hcx : k < l.length → wr.cell? ⟨b, off + k, none⟩ = some (.int .u8 (l.getD k 0)) := fun hlt => (hB.cell (p := ⟨b, off + k, none⟩) h4).trans (h5 k hlt)
      have hcy : k < l.length → wr.cell? ⟨w.heap.size, k, none⟩ = some (.int .u8 ((half l k).getD k 0)) := fun hlt => by
        rw [hw.cellAt k (by omega), vals_at (by rw [half_len l k hk]; exact hlt)]
      have hfr := hw.frozenAt k
      have hst := hw.stored k (.int .u8 (l.getD k 0))
      have R : k < l.length → (wr.setCell ⟨w.heap.size, k, none⟩ (.int .u8 (l.getD k 0))).ownsRow w.heap.size 5 1 (.slice (some ⟨w.heap.size, 0, none⟩) l.length l.length) l.length (vals (half l (k + 1))) ∧ Below w.heap.size w (wr.setCell ⟨w.heap.size, k, none⟩ (.int .u8 (l.getD k 0))) := fun hlt => by
        rw [← half_step l k hlt]
        exact ⟨hst.1, hB.setCell (p := ⟨w.heap.size, k, none⟩) (Nat.le_refl _) _⟩
      have HR := hide R
      clear R hst
      go_wp2
      · have hlt : k < l.length := by assumption
        have R := unhide HR hlt
        rw [getD_at hlt] at R
        go_roundw
        case rel => exact ⟨k + 1, by omega, by go_num, R.1, R.2⟩
        case measure => simp [intOf]; omega
      · have e : k = l.length := by omega
        subst e
        go_ret
        rw [half_all] at hw
        exact ⟨_, rfl, ⟨hok, hw⟩, by simp, hB⟩
end Go.Proofs.YtkmmhlimihkgfaaGreat

/- The law's own helpers over ints: a copy of a row, by its contract. -/
namespace Go.Proofs.YtkmmhlimihkgfaaGreat
open Go.RowKit
set_option linter.unusedVariables false

theorem Tryz.info3 : (Tryz.prog.info? 3).map (fun i => (i.zero, i.size, i.bytes)) = some (some (.int .i64 0), 1, 8) := by kernel_rfl

/-- Behind k rounds of the copying loop: the first k bytes of l, then zeros. -/
def halfz (l : List Int) (k : Nat) : List Int := l.take k ++ List.replicate (l.length - k) 0
theorem halfz_len (l : List Int) (k : Nat) (h : k ≤ l.length) : (halfz l k).length = l.length := by simp [halfz]; omega
theorem halfz_zero (l : List Int) : valz (halfz l 0) = (madeCells #[Value.int .i64 0] l.length).toList := by
  rw [toList_madeCells_one]
  simp [halfz, valz]
theorem halfz_all (l : List Int) : halfz l l.length = l := by simp [halfz]
theorem halfz_at (l : List Int) (k i : Nat) (hk : k ≤ l.length) : (halfz l k)[i]? = if i < k then l[i]? else if i < l.length then some 0 else none := by
  have hm : min k l.length = k := by omega
  unfold halfz
  rw [List.getElem?_append, List.length_take, hm]
  by_cases h : i < k
  · simp [h]
  · rw [if_neg h, if_neg h, List.getElem?_replicate]
    by_cases h2 : i < l.length
    · rw [if_pos h2, if_pos (by omega)]
    · rw [if_neg h2, if_neg (by omega)]
theorem halfz_step (l : List Int) (k : Nat) (h : k < l.length) : (valz (halfz l k)).set k (.int .i64 (l.getD k 0)) = valz (halfz l (k + 1)) := by
  apply List.ext_getElem?
  intro i
  unfold valz
  rw [List.getElem?_set, List.getElem?_map, List.getElem?_map, halfz_at l k i (by omega), halfz_at l (k + 1) i (by omega), List.length_map, halfz_len l k (by omega)]
  by_cases hk : k = i
  · subst hk; rw [if_pos rfl, if_pos h, if_pos (by omega)]; simp [h]
  · rw [if_neg hk]
    by_cases h2 : i < k
    · rw [if_pos h2, if_pos (by omega)]
    · rw [if_neg h2, if_neg (show ¬ i < k + 1 by omega)]

set_option maxHeartbeats 1600000 in
set_option maxRecDepth 1000000 in
theorem toZ_any (w : World) (v : Value) (l : List Int) (h : Ints w v l) (hs : l.length ≤ 2097152) :
    Calls Tryz.prog 49 #[v] w fun e w' => ∃ v', e = .returned v' ∧ OwnZ w' w.heap.size v' l ∧ v' ≠ .slice none 0 0 ∧ Below w.heap.size w w' := by
  obtain ⟨i0, hi, hz0, hz1, hz2⟩ := info_parts Tryz.info3
  obtain ⟨hok, hm, ⟨rfl, rfl⟩ | ⟨x, cap, rfl, hc, rfl⟩ | ⟨b, off, cap, rfl, h1, h2, h3, h4, h5⟩⟩ := h
  · go_enter Tryz.func49, Tryz.ntmps49
    go_wp2_with (at_make; refine wpList_make_full _ rfl _ _ 26 rfl w.heap.size 3 i0 (.int .i64 0) 1 Tryz.underlying26 hi hz0 hz1 .i64 .i64 _ _ 0 rfl rfl rfl rfl ?c1 ?c2 ?c3 ?_)
    case c1 => omega
    case c2 => exact hm
    case c3 => exact Nat.le_refl _
    intro w1 hown hgrow
    have hB1 := Below.ofGrown hgrow
    have hown1 : w1.ownsRow w.heap.size 3 1 (.slice (some ⟨w.heap.size, 0, none⟩) 0 0) 0 (valz []) := by have e := halfz_zero []; rw [show halfz [] 0 = [] from rfl] at e; rw [e]; exact hown
    clear hown hgrow
    go_wp2
    refine wp_loop_rounds 1 ?_
    rw [rounds_succ]
    go_wp2
    go_ret
    exact ⟨_, rfl, ⟨okZ_nil, hown1⟩, by simp, hB1⟩
  · go_enter Tryz.func49, Tryz.ntmps49
    go_wp2_with (at_make; refine wpList_make_full _ rfl _ _ 26 rfl w.heap.size 3 i0 (.int .i64 0) 1 Tryz.underlying26 hi hz0 hz1 .i64 .i64 _ _ 0 rfl rfl rfl rfl ?c1 ?c2 ?c3 ?_)
    case c1 => omega
    case c2 => exact hm
    case c3 => exact Nat.le_refl _
    intro w1 hown hgrow
    have hB1 := Below.ofGrown hgrow
    have hown1 : w1.ownsRow w.heap.size 3 1 (.slice (some ⟨w.heap.size, 0, none⟩) 0 0) 0 (valz []) := by have e := halfz_zero []; rw [show halfz [] 0 = [] from rfl] at e; rw [e]; exact hown
    clear hown hgrow
    go_wp2
    refine wp_loop_rounds 1 ?_
    rw [rounds_succ]
    go_wp2
    go_ret
    exact ⟨_, rfl, ⟨okZ_nil, hown1⟩, by simp, hB1⟩
  · go_enter Tryz.func49, Tryz.ntmps49
    go_wp2_with (at_make; refine wpList_make_full _ rfl _ _ 26 rfl w.heap.size 3 i0 (.int .i64 0) 1 Tryz.underlying26 hi hz0 hz1 .i64 .i64 _ _ l.length rfl rfl rfl rfl ?c1 ?c2 ?c3 ?_)
    case c1 => rw [hz2]; omega
    case c2 => exact hm
    case c3 => exact Nat.le_refl _
    intro w1 hown hgrow
    have hB1 := Below.ofGrown hgrow
    have hown1 : w1.ownsRow w.heap.size 3 1 (.slice (some ⟨w.heap.size, 0, none⟩) l.length l.length) l.length (valz (halfz l 0)) := by rw [halfz_zero]; exact hown
    clear hown hgrow
    go_wp2
    go_loopw [4] (fun i wr => ∃ k : Nat, k ≤ l.length ∧ i = .int .i64 k ∧ wr.ownsRow w.heap.size 3 1 (.slice (some ⟨w.heap.size, 0, none⟩) l.length l.length) l.length (valz (halfz l k)) ∧ Below w.heap.size w wr) (fun i _ => l.length - (intOf i).toNat)
    case atStart => exact ⟨0, Nat.zero_le _, rfl, hown1, hB1⟩
    case round =>
      obtain ⟨k, hk, rfl, hw, hB⟩ := hrel
      clear hown1 hB1
      have hcx : k < l.length → wr.cell? ⟨b, off + k, none⟩ = some (.int .i64 (l.getD k 0)) := fun hlt => (hB.cell (p := ⟨b, off + k, none⟩) h4).trans (h5 k hlt)
      have hcy : k < l.length → wr.cell? ⟨w.heap.size, k, none⟩ = some (.int .i64 ((halfz l k).getD k 0)) := fun hlt => by
        rw [hw.cellAt k (by omega), valz_at (by rw [halfz_len l k hk]; exact hlt)]
      have hfr := hw.frozenAt k
      have hst := hw.stored k (.int .i64 (l.getD k 0))
      have R : k < l.length → (wr.setCell ⟨w.heap.size, k, none⟩ (.int .i64 (l.getD k 0))).ownsRow w.heap.size 3 1 (.slice (some ⟨w.heap.size, 0, none⟩) l.length l.length) l.length (valz (halfz l (k + 1))) ∧ Below w.heap.size w (wr.setCell ⟨w.heap.size, k, none⟩ (.int .i64 (l.getD k 0))) := fun hlt => by
        rw [← halfz_step l k hlt]
        exact ⟨hst.1, hB.setCell (p := ⟨w.heap.size, k, none⟩) (Nat.le_refl _) _⟩
      have HR := hide R
      clear R hst
      go_wp2
      · have hlt : k < l.length := by assumption
        have R := unhide HR hlt
        rw [getD_at hlt] at R
        go_roundw
        case rel => exact ⟨k + 1, by omega, by go_num, R.1, R.2⟩
        case measure => simp [intOf]; omega
      · have e : k = l.length := by omega
        subst e
        go_ret
        rw [halfz_all] at hw
        exact ⟨_, rfl, ⟨hok, hw⟩, by simp, hB⟩
end Go.Proofs.YtkmmhlimihkgfaaGreat

/- laws.toOp: the copy reads the same, in blocks of its own. -/
namespace Go.Proofs.YtkmmhlimihkgfaaGreat
open Go.RowKit
set_option linter.unusedVariables false
set_option maxRecDepth 100000

theorem OwnZ.frm {w w' : World} {base : Nat} {v : Value} {l : List Int} {S : List Nat} (h : OwnZ w base v l) (f : Frm w w' S) (hd : ∀ g ∈ FB v, g ∉ S) : OwnZ w' base v l := ⟨h.1, ownsRow_frm h.2 f hd⟩
theorem OwnZ.rng {w : World} {base : Nat} {v : Value} {l : List Int} (h : OwnZ w base v l) : Rng (FB v) base w.heap.size := fun g hg => h.lt g (by simpa [FB] using hg)
theorem Loc.be {w : World} {g : Nat} {cs ds : Array Value} {T : TypeId} (h : Loc w g cs T) (e : cs = ds) : Loc w g ds T := e ▸ h

set_option maxHeartbeats 6400000 in
theorem toOp_any (w : World) (v : Value) (o : OpV) (h : RdOp w v o) (hs : o.key.length + o.name.length + o.text.length ≤ 2097152) :
    Calls Tryz.prog 16 #[v] w fun e w' => ∃ k n t, e = .returned (opVal o k n t) ∧ OwnZ w' w.heap.size k o.key ∧ Own w' w.heap.size n o.name ∧ Own w' w.heap.size t o.text ∧ (FB k ++ FB n ++ FB t).Nodup ∧ Below w.heap.size w w' := by
  obtain ⟨k, n, t, rfl, hk, hn, ht⟩ := h
  obtain ⟨pk, ck, rfl, _, _⟩ := hk.shape
  obtain ⟨pn, cn, rfl, _, _⟩ := hn.shape
  obtain ⟨pt, ct, rfl, _, _⟩ := ht.shape
  have H := hide (And.intro hk (And.intro hn ht))
  clear hk hn ht
  have HS := hide hs
  clear hs
  unfold opVal
  have l0 := (((Loc.made w #[.int .i64 o.kind, .int .i64 o.atN, .int .i64 o.atR, .int .i64 o.nodeN, .int .i64 o.nodeR, .int .i64 o.parN, .int .i64 o.parR, .slice pk o.key.length ck, .int .i64 o.elem, .slice pn o.name.length cn, .slice pt o.text.length ct, .bool o.gone] 41).alloc (.cells #[.int .i64 0, .int .i64 0, .int .i64 0, .int .i64 0, .int .i64 0, .int .i64 0, .int .i64 0, .slice none 0 0, .int .i64 0, .slice none 0 0, .slice none 0 0, .bool false] 28)).alloc (.cells #[.int .i64 o.kind, .int .i64 0, .int .i64 0, .int .i64 0, .int .i64 0, .int .i64 0, .int .i64 0, .slice none 0 0, .int .i64 0, .slice none 0 0, .slice none 0 0, .bool false] 28))
  have l1 := (Loc.made (w.alloc (.cells #[.int .i64 o.kind, .int .i64 o.atN, .int .i64 o.atR, .int .i64 o.nodeN, .int .i64 o.nodeR, .int .i64 o.parN, .int .i64 o.parR, .slice pk o.key.length ck, .int .i64 o.elem, .slice pn o.name.length cn, .slice pt o.text.length ct, .bool o.gone] 41)) #[.int .i64 0, .int .i64 0, .int .i64 0, .int .i64 0, .int .i64 0, .int .i64 0, .int .i64 0, .slice none 0 0, .int .i64 0, .slice none 0 0, .slice none 0 0, .bool false] 28).alloc (.cells #[.int .i64 o.kind, .int .i64 0, .int .i64 0, .int .i64 0, .int .i64 0, .int .i64 0, .int .i64 0, .slice none 0 0, .int .i64 0, .slice none 0 0, .slice none 0 0, .bool false] 28)
  have l2 := Loc.made ((w.alloc (.cells #[.int .i64 o.kind, .int .i64 o.atN, .int .i64 o.atR, .int .i64 o.nodeN, .int .i64 o.nodeR, .int .i64 o.parN, .int .i64 o.parR, .slice pk o.key.length ck, .int .i64 o.elem, .slice pn o.name.length cn, .slice pt o.text.length ct, .bool o.gone] 41)).alloc (.cells #[.int .i64 0, .int .i64 0, .int .i64 0, .int .i64 0, .int .i64 0, .int .i64 0, .int .i64 0, .slice none 0 0, .int .i64 0, .slice none 0 0, .slice none 0 0, .bool false] 28)) #[.int .i64 o.kind, .int .i64 0, .int .i64 0, .int .i64 0, .int .i64 0, .int .i64 0, .int .i64 0, .slice none 0 0, .int .i64 0, .slice none 0 0, .slice none 0 0, .bool false] 28
  have hA : Below w.heap.size w (((w.alloc (.cells #[.int .i64 o.kind, .int .i64 o.atN, .int .i64 o.atR, .int .i64 o.nodeN, .int .i64 o.nodeR, .int .i64 o.parN, .int .i64 o.parR, .slice pk o.key.length ck, .int .i64 o.elem, .slice pn o.name.length cn, .slice pt o.text.length ct, .bool o.gone] 41)).alloc (.cells #[.int .i64 0, .int .i64 0, .int .i64 0, .int .i64 0, .int .i64 0, .int .i64 0, .int .i64 0, .slice none 0 0, .int .i64 0, .slice none 0 0, .slice none 0 0, .bool false] 28)).alloc (.cells #[.int .i64 o.kind, .int .i64 0, .int .i64 0, .int .i64 0, .int .i64 0, .int .i64 0, .int .i64 0, .slice none 0 0, .int .i64 0, .slice none 0 0, .slice none 0 0, .bool false] 28)) := (((Below.refl _ _).alloc (Nat.le_refl _) _).alloc (by simp) _).alloc (by simp; omega) _
  simp only [World.size_alloc] at l1 l2
  have L := hide (And.intro l0 (And.intro l1 (And.intro l2 hA)))
  clear l0 l1 l2 hA
  go_enter Tryz.func16, Tryz.ntmps16
  go_wp2_with fail
  obtain ⟨l0, l1, l2, hA⟩ := unhide L
  clear L
  generalize (((w.alloc (.cells #[.int .i64 o.kind, .int .i64 o.atN, .int .i64 o.atR, .int .i64 o.nodeN, .int .i64 o.nodeR, .int .i64 o.parN, .int .i64 o.parR, .slice pk o.key.length ck, .int .i64 o.elem, .slice pn o.name.length cn, .slice pt o.text.length ct, .bool o.gone] 41)).alloc (.cells #[.int .i64 0, .int .i64 0, .int .i64 0, .int .i64 0, .int .i64 0, .int .i64 0, .int .i64 0, .slice none 0 0, .int .i64 0, .slice none 0 0, .slice none 0 0, .bool false] 28)).alloc (.cells #[.int .i64 o.kind, .int .i64 0, .int .i64 0, .int .i64 0, .int .i64 0, .int .i64 0, .int .i64 0, .slice none 0 0, .int .i64 0, .slice none 0 0, .slice none 0 0, .bool false] 28)) = W at *
  refine (toId_any _ o.atN o.atR).mono ?_
  rintro e w1 ⟨rfl, hB⟩
  replace l0 := l0.all hB
  replace l1 := l1.all hB
  replace l2 := l2.all hB
  replace hA := bstep hA hB
  clear hB
  have e0_3 := l0.cell 3
  have e0_4 := l0.cell 4
  have e2_1 := l2.cell 1
  have f2_1 := l2.frozen 1
  have e2_2 := l2.cell 2
  have f2_2 := l2.frozen 2
  simp at e0_3 e0_4 e2_1 e2_2
  have m0 : Loc ((w1.setCell ⟨w.heap.size + 1 + 1, 1, none⟩ (.int .i64 o.atN)).setCell ⟨w.heap.size + 1 + 1, 2, none⟩ (.int .i64 o.atR)) w.heap.size #[.int .i64 o.kind, .int .i64 o.atN, .int .i64 o.atR, .int .i64 o.nodeN, .int .i64 o.nodeR, .int .i64 o.parN, .int .i64 o.parR, .slice pk o.key.length ck, .int .i64 o.elem, .slice pn o.name.length cn, .slice pt o.text.length ct, .bool o.gone] 41 := ((l0.other _ _ _ (by omega)).other _ _ _ (by omega))
  have m1 : Loc ((w1.setCell ⟨w.heap.size + 1 + 1, 1, none⟩ (.int .i64 o.atN)).setCell ⟨w.heap.size + 1 + 1, 2, none⟩ (.int .i64 o.atR)) (w.heap.size + 1) #[.int .i64 0, .int .i64 0, .int .i64 0, .int .i64 0, .int .i64 0, .int .i64 0, .int .i64 0, .slice none 0 0, .int .i64 0, .slice none 0 0, .slice none 0 0, .bool false] 28 := ((l1.other _ _ _ (by omega)).other _ _ _ (by omega))
  have m2 : Loc ((w1.setCell ⟨w.heap.size + 1 + 1, 1, none⟩ (.int .i64 o.atN)).setCell ⟨w.heap.size + 1 + 1, 2, none⟩ (.int .i64 o.atR)) (w.heap.size + 1 + 1) #[.int .i64 o.kind, .int .i64 o.atN, .int .i64 o.atR, .int .i64 0, .int .i64 0, .int .i64 0, .int .i64 0, .slice none 0 0, .int .i64 0, .slice none 0 0, .slice none 0 0, .bool false] 28 := ((l2.set 1 (.int .i64 o.atN)).set 2 (.int .i64 o.atR)).be (by simp)
  have hf : Frm w1 ((w1.setCell ⟨w.heap.size + 1 + 1, 1, none⟩ (.int .i64 o.atN)).setCell ⟨w.heap.size + 1 + 1, 2, none⟩ (.int .i64 o.atR)) [w.heap.size + 1 + 1] := ((set_frm _ _ _ _).trans (set_frm _ _ _ _))
  have hA2 : Below w.heap.size w ((w1.setCell ⟨w.heap.size + 1 + 1, 1, none⟩ (.int .i64 o.atN)).setCell ⟨w.heap.size + 1 + 1, 2, none⟩ (.int .i64 o.atR)) := hA.trans (hf.below hA.size (fun g hg => by simp at hg; omega))
  have L := hide (And.intro m0 (And.intro m1 (And.intro m2 hA2)))
  clear m0 m1 m2 hf hA2 l0 l1 l2 hA
  go_wp2_with fail
  obtain ⟨l0, l1, l2, hA⟩ := unhide L
  clear L
  clear e0_3 e0_4 e2_1 f2_1 e2_2 f2_2
  refine (toId_any _ o.nodeN o.nodeR).mono ?_
  rintro e w2 ⟨rfl, hB⟩
  replace l0 := l0.all hB
  replace l1 := l1.all hB
  replace l2 := l2.all hB
  replace hA := bstep hA hB
  clear hB
  have e0_5 := l0.cell 5
  have e0_6 := l0.cell 6
  have e2_3 := l2.cell 3
  have f2_3 := l2.frozen 3
  have e2_4 := l2.cell 4
  have f2_4 := l2.frozen 4
  simp at e0_5 e0_6 e2_3 e2_4
  have m0 : Loc ((w2.setCell ⟨w.heap.size + 1 + 1, 3, none⟩ (.int .i64 o.nodeN)).setCell ⟨w.heap.size + 1 + 1, 4, none⟩ (.int .i64 o.nodeR)) w.heap.size #[.int .i64 o.kind, .int .i64 o.atN, .int .i64 o.atR, .int .i64 o.nodeN, .int .i64 o.nodeR, .int .i64 o.parN, .int .i64 o.parR, .slice pk o.key.length ck, .int .i64 o.elem, .slice pn o.name.length cn, .slice pt o.text.length ct, .bool o.gone] 41 := ((l0.other _ _ _ (by omega)).other _ _ _ (by omega))
  have m1 : Loc ((w2.setCell ⟨w.heap.size + 1 + 1, 3, none⟩ (.int .i64 o.nodeN)).setCell ⟨w.heap.size + 1 + 1, 4, none⟩ (.int .i64 o.nodeR)) (w.heap.size + 1) #[.int .i64 0, .int .i64 0, .int .i64 0, .int .i64 0, .int .i64 0, .int .i64 0, .int .i64 0, .slice none 0 0, .int .i64 0, .slice none 0 0, .slice none 0 0, .bool false] 28 := ((l1.other _ _ _ (by omega)).other _ _ _ (by omega))
  have m2 : Loc ((w2.setCell ⟨w.heap.size + 1 + 1, 3, none⟩ (.int .i64 o.nodeN)).setCell ⟨w.heap.size + 1 + 1, 4, none⟩ (.int .i64 o.nodeR)) (w.heap.size + 1 + 1) #[.int .i64 o.kind, .int .i64 o.atN, .int .i64 o.atR, .int .i64 o.nodeN, .int .i64 o.nodeR, .int .i64 0, .int .i64 0, .slice none 0 0, .int .i64 0, .slice none 0 0, .slice none 0 0, .bool false] 28 := ((l2.set 3 (.int .i64 o.nodeN)).set 4 (.int .i64 o.nodeR)).be (by simp)
  have hf : Frm w2 ((w2.setCell ⟨w.heap.size + 1 + 1, 3, none⟩ (.int .i64 o.nodeN)).setCell ⟨w.heap.size + 1 + 1, 4, none⟩ (.int .i64 o.nodeR)) [w.heap.size + 1 + 1] := ((set_frm _ _ _ _).trans (set_frm _ _ _ _))
  have hA2 : Below w.heap.size w ((w2.setCell ⟨w.heap.size + 1 + 1, 3, none⟩ (.int .i64 o.nodeN)).setCell ⟨w.heap.size + 1 + 1, 4, none⟩ (.int .i64 o.nodeR)) := hA.trans (hf.below hA.size (fun g hg => by simp at hg; omega))
  have L := hide (And.intro m0 (And.intro m1 (And.intro m2 hA2)))
  clear m0 m1 m2 hf hA2 l0 l1 l2 hA
  go_wp2_with fail
  obtain ⟨l0, l1, l2, hA⟩ := unhide L
  clear L
  clear e0_5 e0_6 e2_3 f2_3 e2_4 f2_4
  refine (toId_any _ o.parN o.parR).mono ?_
  rintro e w3 ⟨rfl, hB⟩
  replace l0 := l0.all hB
  replace l1 := l1.all hB
  replace l2 := l2.all hB
  replace hA := bstep hA hB
  clear hB
  have e0_7 := l0.cell 7
  have e2_5 := l2.cell 5
  have f2_5 := l2.frozen 5
  have e2_6 := l2.cell 6
  have f2_6 := l2.frozen 6
  simp at e0_7 e2_5 e2_6
  have m0 : Loc ((w3.setCell ⟨w.heap.size + 1 + 1, 5, none⟩ (.int .i64 o.parN)).setCell ⟨w.heap.size + 1 + 1, 6, none⟩ (.int .i64 o.parR)) w.heap.size #[.int .i64 o.kind, .int .i64 o.atN, .int .i64 o.atR, .int .i64 o.nodeN, .int .i64 o.nodeR, .int .i64 o.parN, .int .i64 o.parR, .slice pk o.key.length ck, .int .i64 o.elem, .slice pn o.name.length cn, .slice pt o.text.length ct, .bool o.gone] 41 := ((l0.other _ _ _ (by omega)).other _ _ _ (by omega))
  have m1 : Loc ((w3.setCell ⟨w.heap.size + 1 + 1, 5, none⟩ (.int .i64 o.parN)).setCell ⟨w.heap.size + 1 + 1, 6, none⟩ (.int .i64 o.parR)) (w.heap.size + 1) #[.int .i64 0, .int .i64 0, .int .i64 0, .int .i64 0, .int .i64 0, .int .i64 0, .int .i64 0, .slice none 0 0, .int .i64 0, .slice none 0 0, .slice none 0 0, .bool false] 28 := ((l1.other _ _ _ (by omega)).other _ _ _ (by omega))
  have m2 : Loc ((w3.setCell ⟨w.heap.size + 1 + 1, 5, none⟩ (.int .i64 o.parN)).setCell ⟨w.heap.size + 1 + 1, 6, none⟩ (.int .i64 o.parR)) (w.heap.size + 1 + 1) #[.int .i64 o.kind, .int .i64 o.atN, .int .i64 o.atR, .int .i64 o.nodeN, .int .i64 o.nodeR, .int .i64 o.parN, .int .i64 o.parR, .slice none 0 0, .int .i64 0, .slice none 0 0, .slice none 0 0, .bool false] 28 := ((l2.set 5 (.int .i64 o.parN)).set 6 (.int .i64 o.parR)).be (by simp)
  have hf : Frm w3 ((w3.setCell ⟨w.heap.size + 1 + 1, 5, none⟩ (.int .i64 o.parN)).setCell ⟨w.heap.size + 1 + 1, 6, none⟩ (.int .i64 o.parR)) [w.heap.size + 1 + 1] := ((set_frm _ _ _ _).trans (set_frm _ _ _ _))
  have hA2 : Below w.heap.size w ((w3.setCell ⟨w.heap.size + 1 + 1, 5, none⟩ (.int .i64 o.parN)).setCell ⟨w.heap.size + 1 + 1, 6, none⟩ (.int .i64 o.parR)) := hA.trans (hf.below hA.size (fun g hg => by simp at hg; omega))
  have L := hide (And.intro m0 (And.intro m1 (And.intro m2 hA2)))
  clear m0 m1 m2 hf hA2 l0 l1 l2 hA
  go_wp2_with fail
  obtain ⟨l0, l1, l2, hA⟩ := unhide L
  clear L
  clear e0_7 e2_5 f2_5 e2_6 f2_6
  have zk := l2.lt
  refine (toZ_any _ _ o.key ((unhide H).1.keep hA) (by have := unhide HS; omega)).mono ?_
  rintro e w4 ⟨vk, rfl, ok, _, hB⟩
  obtain ⟨ak, dk, hvk, _, _⟩ := ok.ints.shape
  subst hvk
  have rk := ok.rng
  have sk := hB.size
  replace l0 := l0.all hB
  replace l1 := l1.all hB
  replace l2 := l2.all hB
  replace hA := bstep hA hB
  clear hB
  have e0_8 := l0.cell 8
  have e0_9 := l0.cell 9
  have e2_7 := l2.cell 7
  have f2_7 := l2.frozen 7
  have e2_8 := l2.cell 8
  have f2_8 := l2.frozen 8
  simp at e0_8 e0_9 e2_7 e2_8
  have m0 : Loc ((w4.setCell ⟨w.heap.size + 1 + 1, 7, none⟩ (.slice ak o.key.length dk)).setCell ⟨w.heap.size + 1 + 1, 8, none⟩ (.int .i64 o.elem)) w.heap.size #[.int .i64 o.kind, .int .i64 o.atN, .int .i64 o.atR, .int .i64 o.nodeN, .int .i64 o.nodeR, .int .i64 o.parN, .int .i64 o.parR, .slice pk o.key.length ck, .int .i64 o.elem, .slice pn o.name.length cn, .slice pt o.text.length ct, .bool o.gone] 41 := ((l0.other _ _ _ (by omega)).other _ _ _ (by omega))
  have m1 : Loc ((w4.setCell ⟨w.heap.size + 1 + 1, 7, none⟩ (.slice ak o.key.length dk)).setCell ⟨w.heap.size + 1 + 1, 8, none⟩ (.int .i64 o.elem)) (w.heap.size + 1) #[.int .i64 0, .int .i64 0, .int .i64 0, .int .i64 0, .int .i64 0, .int .i64 0, .int .i64 0, .slice none 0 0, .int .i64 0, .slice none 0 0, .slice none 0 0, .bool false] 28 := ((l1.other _ _ _ (by omega)).other _ _ _ (by omega))
  have m2 : Loc ((w4.setCell ⟨w.heap.size + 1 + 1, 7, none⟩ (.slice ak o.key.length dk)).setCell ⟨w.heap.size + 1 + 1, 8, none⟩ (.int .i64 o.elem)) (w.heap.size + 1 + 1) #[.int .i64 o.kind, .int .i64 o.atN, .int .i64 o.atR, .int .i64 o.nodeN, .int .i64 o.nodeR, .int .i64 o.parN, .int .i64 o.parR, .slice ak o.key.length dk, .int .i64 o.elem, .slice none 0 0, .slice none 0 0, .bool false] 28 := ((l2.set 7 (.slice ak o.key.length dk)).set 8 (.int .i64 o.elem)).be (by simp)
  have hf : Frm w4 ((w4.setCell ⟨w.heap.size + 1 + 1, 7, none⟩ (.slice ak o.key.length dk)).setCell ⟨w.heap.size + 1 + 1, 8, none⟩ (.int .i64 o.elem)) [w.heap.size + 1 + 1] := ((set_frm _ _ _ _).trans (set_frm _ _ _ _))
  have hA2 : Below w.heap.size w ((w4.setCell ⟨w.heap.size + 1 + 1, 7, none⟩ (.slice ak o.key.length dk)).setCell ⟨w.heap.size + 1 + 1, 8, none⟩ (.int .i64 o.elem)) := hA.trans (hf.below hA.size (fun g hg => by simp at hg; omega))
  have qk := ok.frm hf (fun g hg => by have := rk g hg; simp; omega)
  have L := hide (And.intro qk (And.intro m0 (And.intro m1 (And.intro m2 hA2))))
  clear m0 m1 m2 hf hA2 l0 l1 l2 hA qk ok
  go_wp2_with fail
  obtain ⟨ok, l0, l1, l2, hA⟩ := unhide L
  clear L
  clear e0_8 e0_9 e2_7 f2_7 e2_8 f2_8
  have zn := l2.lt
  refine (toB_any _ _ o.name ((unhide H).2.1.keep hA) (by have := unhide HS; omega)).mono ?_
  rintro e w5 ⟨vn, rfl, on, _, hB⟩
  obtain ⟨an, dn, hvn, _, _⟩ := on.byt.shape
  subst hvn
  have rn := on.rng
  replace ok := ok.keep hB
  have sn := hB.size
  replace l0 := l0.all hB
  replace l1 := l1.all hB
  replace l2 := l2.all hB
  replace hA := bstep hA hB
  clear hB
  have e0_10 := l0.cell 10
  have e2_9 := l2.cell 9
  have f2_9 := l2.frozen 9
  simp at e0_10 e2_9
  have m0 : Loc (w5.setCell ⟨w.heap.size + 1 + 1, 9, none⟩ (.slice an o.name.length dn)) w.heap.size #[.int .i64 o.kind, .int .i64 o.atN, .int .i64 o.atR, .int .i64 o.nodeN, .int .i64 o.nodeR, .int .i64 o.parN, .int .i64 o.parR, .slice pk o.key.length ck, .int .i64 o.elem, .slice pn o.name.length cn, .slice pt o.text.length ct, .bool o.gone] 41 := (l0.other _ _ _ (by omega))
  have m1 : Loc (w5.setCell ⟨w.heap.size + 1 + 1, 9, none⟩ (.slice an o.name.length dn)) (w.heap.size + 1) #[.int .i64 0, .int .i64 0, .int .i64 0, .int .i64 0, .int .i64 0, .int .i64 0, .int .i64 0, .slice none 0 0, .int .i64 0, .slice none 0 0, .slice none 0 0, .bool false] 28 := (l1.other _ _ _ (by omega))
  have m2 : Loc (w5.setCell ⟨w.heap.size + 1 + 1, 9, none⟩ (.slice an o.name.length dn)) (w.heap.size + 1 + 1) #[.int .i64 o.kind, .int .i64 o.atN, .int .i64 o.atR, .int .i64 o.nodeN, .int .i64 o.nodeR, .int .i64 o.parN, .int .i64 o.parR, .slice ak o.key.length dk, .int .i64 o.elem, .slice an o.name.length dn, .slice none 0 0, .bool false] 28 := (l2.set 9 (.slice an o.name.length dn)).be (by simp)
  have hf : Frm w5 (w5.setCell ⟨w.heap.size + 1 + 1, 9, none⟩ (.slice an o.name.length dn)) [w.heap.size + 1 + 1] := (set_frm _ _ _ _)
  have hA2 : Below w.heap.size w (w5.setCell ⟨w.heap.size + 1 + 1, 9, none⟩ (.slice an o.name.length dn)) := hA.trans (hf.below hA.size (fun g hg => by simp at hg; omega))
  have qk := ok.frm hf (fun g hg => by have := rk g hg; simp; omega)
  have qn := on.frm hf (fun g hg => by have := rn g hg; simp; omega)
  have L := hide (And.intro qn (And.intro qk (And.intro m0 (And.intro m1 (And.intro m2 hA2)))))
  clear m0 m1 m2 hf hA2 l0 l1 l2 hA qk ok qn on
  go_wp2_with fail
  obtain ⟨on, ok, l0, l1, l2, hA⟩ := unhide L
  clear L
  clear e0_10 e2_9 f2_9
  have zt := l2.lt
  refine (toB_any _ _ o.text ((unhide H).2.2.keep hA) (by have := unhide HS; omega)).mono ?_
  rintro e w6 ⟨vt, rfl, ot, _, hB⟩
  obtain ⟨at1, dt, hvt, _, _⟩ := ot.byt.shape
  subst hvt
  have rt := ot.rng
  replace ok := ok.keep hB
  replace on := on.keep hB
  have st := hB.size
  replace l0 := l0.all hB
  replace l1 := l1.all hB
  replace l2 := l2.all hB
  replace hA := bstep hA hB
  clear hB
  have e0_11 := l0.cell 11
  have e2_10 := l2.cell 10
  have f2_10 := l2.frozen 10
  have e2_11 := l2.cell 11
  have f2_11 := l2.frozen 11
  simp at e0_11 e2_10 e2_11
  have e2_0 := l2.cell 0
  have e2_1 := l2.cell 1
  have e2_2 := l2.cell 2
  have e2_3 := l2.cell 3
  have e2_4 := l2.cell 4
  have e2_5 := l2.cell 5
  have e2_6 := l2.cell 6
  have e2_7 := l2.cell 7
  have e2_8 := l2.cell 8
  have e2_9 := l2.cell 9
  have e1_0 := l1.cell 0
  have f1_0 := l1.frozen 0
  have e1_1 := l1.cell 1
  have f1_1 := l1.frozen 1
  have e1_2 := l1.cell 2
  have f1_2 := l1.frozen 2
  have e1_3 := l1.cell 3
  have f1_3 := l1.frozen 3
  have e1_4 := l1.cell 4
  have f1_4 := l1.frozen 4
  have e1_5 := l1.cell 5
  have f1_5 := l1.frozen 5
  have e1_6 := l1.cell 6
  have f1_6 := l1.frozen 6
  have e1_7 := l1.cell 7
  have f1_7 := l1.frozen 7
  have e1_8 := l1.cell 8
  have f1_8 := l1.frozen 8
  have e1_9 := l1.cell 9
  have f1_9 := l1.frozen 9
  have e1_10 := l1.cell 10
  have f1_10 := l1.frozen 10
  have e1_11 := l1.cell 11
  have f1_11 := l1.frozen 11
  simp at e2_0 e2_1 e2_2 e2_3 e2_4 e2_5 e2_6 e2_7 e2_8 e2_9 e1_0 e1_1 e1_2 e1_3 e1_4 e1_5 e1_6 e1_7 e1_8 e1_9 e1_10 e1_11
  have hf : Frm w6 ((((((((((((((w6.setCell ⟨w.heap.size + 1 + 1, 10, none⟩ (.slice at1 o.text.length dt)).setCell ⟨w.heap.size + 1 + 1, 11, none⟩ (.bool o.gone)).setCell ⟨w.heap.size + 1, 0, none⟩ (.int .i64 o.kind)).setCell ⟨w.heap.size + 1, 1, none⟩ (.int .i64 o.atN)).setCell ⟨w.heap.size + 1, 2, none⟩ (.int .i64 o.atR)).setCell ⟨w.heap.size + 1, 3, none⟩ (.int .i64 o.nodeN)).setCell ⟨w.heap.size + 1, 4, none⟩ (.int .i64 o.nodeR)).setCell ⟨w.heap.size + 1, 5, none⟩ (.int .i64 o.parN)).setCell ⟨w.heap.size + 1, 6, none⟩ (.int .i64 o.parR)).setCell ⟨w.heap.size + 1, 7, none⟩ (.slice ak o.key.length dk)).setCell ⟨w.heap.size + 1, 8, none⟩ (.int .i64 o.elem)).setCell ⟨w.heap.size + 1, 9, none⟩ (.slice an o.name.length dn)).setCell ⟨w.heap.size + 1, 10, none⟩ (.slice at1 o.text.length dt)).setCell ⟨w.heap.size + 1, 11, none⟩ (.bool o.gone)) [w.heap.size + 1 + 1, w.heap.size + 1] := (((((((((((((((set_frm _ _ _ _).mono (by simp)).trans ((set_frm _ _ _ _).mono (by simp))).trans ((set_frm _ _ _ _).mono (by simp))).trans ((set_frm _ _ _ _).mono (by simp))).trans ((set_frm _ _ _ _).mono (by simp))).trans ((set_frm _ _ _ _).mono (by simp))).trans ((set_frm _ _ _ _).mono (by simp))).trans ((set_frm _ _ _ _).mono (by simp))).trans ((set_frm _ _ _ _).mono (by simp))).trans ((set_frm _ _ _ _).mono (by simp))).trans ((set_frm _ _ _ _).mono (by simp))).trans ((set_frm _ _ _ _).mono (by simp))).trans ((set_frm _ _ _ _).mono (by simp))).trans ((set_frm _ _ _ _).mono (by simp)))
  have hA2 : Below w.heap.size w ((((((((((((((w6.setCell ⟨w.heap.size + 1 + 1, 10, none⟩ (.slice at1 o.text.length dt)).setCell ⟨w.heap.size + 1 + 1, 11, none⟩ (.bool o.gone)).setCell ⟨w.heap.size + 1, 0, none⟩ (.int .i64 o.kind)).setCell ⟨w.heap.size + 1, 1, none⟩ (.int .i64 o.atN)).setCell ⟨w.heap.size + 1, 2, none⟩ (.int .i64 o.atR)).setCell ⟨w.heap.size + 1, 3, none⟩ (.int .i64 o.nodeN)).setCell ⟨w.heap.size + 1, 4, none⟩ (.int .i64 o.nodeR)).setCell ⟨w.heap.size + 1, 5, none⟩ (.int .i64 o.parN)).setCell ⟨w.heap.size + 1, 6, none⟩ (.int .i64 o.parR)).setCell ⟨w.heap.size + 1, 7, none⟩ (.slice ak o.key.length dk)).setCell ⟨w.heap.size + 1, 8, none⟩ (.int .i64 o.elem)).setCell ⟨w.heap.size + 1, 9, none⟩ (.slice an o.name.length dn)).setCell ⟨w.heap.size + 1, 10, none⟩ (.slice at1 o.text.length dt)).setCell ⟨w.heap.size + 1, 11, none⟩ (.bool o.gone)) := hA.trans (hf.below hA.size (fun g hg => by simp at hg; omega))
  have qk := (ok.frm hf (fun g hg => by have := rk g hg; simp; omega)).mono (show w.heap.size ≤ _ by omega)
  have qn := (on.frm hf (fun g hg => by have := rn g hg; simp; omega)).mono (show w.heap.size ≤ _ by omega)
  have qt := (ot.frm hf (fun g hg => by have := rt g hg; simp; omega)).mono (show w.heap.size ≤ _ by omega)
  have hnd : (FB (.slice ak o.key.length dk) ++ FB (.slice an o.name.length dn) ++ FB (.slice at1 o.text.length dt)).Nodup := by
    simp at sn st zn zt
    refine nodup_app (lo := 0) (nodup_app (FB_nodup _) (FB_nodup _) rk (rn.mono (by simp) (Nat.le_refl _))) (FB_nodup _) ((rk.mono (Nat.zero_le _) (by omega)).app (rn.mono (Nat.zero_le _) (Nat.le_refl _))) (rt.mono (by simp) (Nat.le_refl _))
  have L := hide (And.intro qk (And.intro qn (And.intro qt (And.intro hnd hA2))))
  clear qk qn qt hnd hA2 hf l0 l1 l2 hA ok on ot rk rn rt H
  go_wp2_with fail
  obtain ⟨qk, qn, qt, hnd, hA2⟩ := unhide L
  exact bodyPost_ret (v := opVal o (.slice ak o.key.length dk) (.slice an o.name.length dn) (.slice at1 o.text.length dt)) (by simp [results, Tryz.results16, go_sem, opVal, e1_0, e1_1, e1_2, e1_3, e1_4, e1_5, e1_6, e1_7, e1_8, e1_9, e1_10, e1_11]) rfl ⟨_, _, _, rfl, qk, qn, qt, hnd, hA2⟩

end Go.Proofs.YtkmmhlimihkgfaaGreat

/- Operations in blocks of their own. -/
namespace Go.Proofs.YtkmmhlimihkgfaaGreat
open Go.RowKit
set_option linter.unusedVariables false
set_option maxRecDepth 100000

theorem Loc.twelve {w : World} {g : Nat} {v0 v1 v2 v3 v4 v5 v6 v7 v8 v9 v10 v11 : Value} {T : TypeId} (h : Loc w g #[v0, v1, v2, v3, v4, v5, v6, v7, v8, v9, v10, v11] T) :
    w.cell? ⟨g, 0, none⟩ = some v0 ∧ w.cell? ⟨g, 1, none⟩ = some v1 ∧ w.cell? ⟨g, 2, none⟩ = some v2 ∧ w.cell? ⟨g, 3, none⟩ = some v3 ∧ w.cell? ⟨g, 4, none⟩ = some v4 ∧ w.cell? ⟨g, 5, none⟩ = some v5 ∧ w.cell? ⟨g, 6, none⟩ = some v6 ∧ w.cell? ⟨g, 7, none⟩ = some v7 ∧ w.cell? ⟨g, 8, none⟩ = some v8 ∧ w.cell? ⟨g, 9, none⟩ = some v9 ∧ w.cell? ⟨g, 10, none⟩ = some v10 ∧ w.cell? ⟨g, 11, none⟩ = some v11 :=
  ⟨h.cell 0, h.cell 1, h.cell 2, h.cell 3, h.cell 4, h.cell 5, h.cell 6, h.cell 7, h.cell 8, h.cell 9, h.cell 10, h.cell 11⟩

theorem RdOp.keep {w w' : World} {v : Value} {o : OpV} (h : RdOp w v o) (hb : Below w.heap.size w w') : RdOp w' v o := by
  obtain ⟨k, n, t, rfl, h1, h2, h3⟩ := h
  exact ⟨k, n, t, rfl, h1.keep hb, h2.keep hb, h3.keep hb⟩
/-- An operation in blocks of its own, from 'base' on. -/
def OwOp (w : World) (base : Nat) (o : OpV) (k n t : Value) : Prop := OwnZ w base k o.key ∧ Own w base n o.name ∧ Own w base t o.text ∧ (FB k ++ FB n ++ FB t).Nodup
theorem OwOp.keep {w w' : World} {base : Nat} {o : OpV} {k n t : Value} (h : OwOp w base o k n t) (hb : Below w.heap.size w w') : OwOp w' base o k n t := ⟨h.1.keep hb, h.2.1.keep hb, h.2.2.1.keep hb, h.2.2.2⟩
theorem OwOp.rd {w : World} {base : Nat} {o : OpV} {k n t : Value} (h : OwOp w base o k n t) : RdOp w (opVal o k n t) o := ⟨k, n, t, rfl, h.1.ints, h.2.1.byt, h.2.2.1.byt⟩

/-- What the law asks of impl's OpOk. -/
def OpISaid : Prop := ∀ (w : World) (o : OpV) (base : Nat) (k n t : Value), OwOp w base o k n t → o.key.length + o.name.length + o.text.length ≤ 2097152 →
    Calls Tryz.prog 38 #[opVal o k n t] w fun e w' => e = .returned (.bool (opB o)) ∧ Below w.heap.size w w'

/-- toOp, its rows by their parts. -/
theorem toOp_own (w : World) (v : Value) (o : OpV) (h : RdOp w v o) (hs : o.key.length + o.name.length + o.text.length ≤ 2097152) :
    Calls Tryz.prog 16 #[v] w fun e w' => ∃ a1 c1 a2 c2 a3 c3, e = .returned (opVal o (.slice a1 o.key.length c1) (.slice a2 o.name.length c2) (.slice a3 o.text.length c3)) ∧ OwOp w' w.heap.size o (.slice a1 o.key.length c1) (.slice a2 o.name.length c2) (.slice a3 o.text.length c3) ∧ Below w.heap.size w w' := by
  refine (toOp_any w v o h hs).mono ?_
  rintro e w' ⟨k, n, t, rfl, h1, h2, h3, h4, h5⟩
  obtain ⟨a1, c1, rfl, _, _⟩ := h1.ints.shape
  obtain ⟨a2, c2, rfl, _, _⟩ := h2.byt.shape
  obtain ⟨a3, c3, rfl, _, _⟩ := h3.byt.shape
  exact ⟨a1, c1, a2, c2, a3, c3, rfl, ⟨h1, h2, h3, h4⟩, h5⟩

end Go.Proofs.YtkmmhlimihkgfaaGreat

/- Rows of operations: what it is for one to be readable in memory. -/
namespace Go.Proofs.YtkmmhlimihkgfaaGreat
open Go.RowKit
set_option linter.unusedVariables false

/-- The twelve cells of an operation. -/
def RdOpC (w : World) (C : List Value) (o : OpV) : Prop := ∃ k n t, C = [.int .i64 o.kind, .int .i64 o.atN, .int .i64 o.atR, .int .i64 o.nodeN, .int .i64 o.nodeR, .int .i64 o.parN, .int .i64 o.parR, k, .int .i64 o.elem, n, t, .bool o.gone] ∧ Ints w k o.key ∧ Byt w n o.name ∧ Byt w t o.text
def RdOps (w : World) (v : Value) (l : List OpV) : Prop := Elems w 12 v l (RdOpC w)
theorem RdOps.keep {w w' : World} {v : Value} {l : List OpV} (h : RdOps w v l) (hb : Below w.heap.size w w') : RdOps w' v l :=
  Elems.keep h hb (fun C x _ ⟨k, n, t, e, h1, h2, h3⟩ => ⟨k, n, t, e, h1.keep hb, h2.keep hb, h3.keep hb⟩)

/-- An element, cell by cell, its rows by their parts. -/
theorem opc_at {w W : World} {b off i : Nat} {o : OpV} (hW : Below w.heap.size w W) (hb : b < w.heap.size) (h : ∃ C : List Value, C.length = 12 ∧ (∀ j, j < 12 → w.cell? ⟨b, off + i * 12 + j, none⟩ = C[j]?) ∧ RdOpC w C o) :
    ∃ a1 c1 a2 c2 a3 c3, W.cell? ⟨b, off + i * 12, none⟩ = some (.int .i64 o.kind) ∧ W.cell? ⟨b, off + i * 12 + 1, none⟩ = some (.int .i64 o.atN) ∧ W.cell? ⟨b, off + i * 12 + 2, none⟩ = some (.int .i64 o.atR) ∧ W.cell? ⟨b, off + i * 12 + 3, none⟩ = some (.int .i64 o.nodeN) ∧ W.cell? ⟨b, off + i * 12 + 4, none⟩ = some (.int .i64 o.nodeR) ∧ W.cell? ⟨b, off + i * 12 + 5, none⟩ = some (.int .i64 o.parN) ∧ W.cell? ⟨b, off + i * 12 + 6, none⟩ = some (.int .i64 o.parR) ∧ W.cell? ⟨b, off + i * 12 + 7, none⟩ = some (.slice a1 o.key.length c1) ∧ W.cell? ⟨b, off + i * 12 + 8, none⟩ = some (.int .i64 o.elem) ∧ W.cell? ⟨b, off + i * 12 + 9, none⟩ = some (.slice a2 o.name.length c2) ∧ W.cell? ⟨b, off + i * 12 + 10, none⟩ = some (.slice a3 o.text.length c3) ∧ W.cell? ⟨b, off + i * 12 + 11, none⟩ = some (.bool o.gone) ∧
      RdOp W (opVal o (.slice a1 o.key.length c1) (.slice a2 o.name.length c2) (.slice a3 o.text.length c3)) o := by
  obtain ⟨C, _, hc, k, n, t, rfl, hk, hn, ht⟩ := h
  obtain ⟨a1, c1, rfl, _, _⟩ := hk.shape
  obtain ⟨a2, c2, rfl, _, _⟩ := hn.shape
  obtain ⟨a3, c3, rfl, _, _⟩ := ht.shape
  have cc : ∀ j, j < 12 → W.cell? ⟨b, off + i * 12 + j, none⟩ = w.cell? ⟨b, off + i * 12 + j, none⟩ := fun j hj => hW.cell (p := ⟨b, off + i * 12 + j, none⟩) hb
  exact ⟨a1, c1, a2, c2, a3, c3, (cc 0 (by omega)).trans (hc 0 (by omega)), (cc 1 (by omega)).trans (hc 1 (by omega)), (cc 2 (by omega)).trans (hc 2 (by omega)), (cc 3 (by omega)).trans (hc 3 (by omega)), (cc 4 (by omega)).trans (hc 4 (by omega)), (cc 5 (by omega)).trans (hc 5 (by omega)), (cc 6 (by omega)).trans (hc 6 (by omega)), (cc 7 (by omega)).trans (hc 7 (by omega)), (cc 8 (by omega)).trans (hc 8 (by omega)), (cc 9 (by omega)).trans (hc 9 (by omega)), (cc 10 (by omega)).trans (hc 10 (by omega)), (cc 11 (by omega)).trans (hc 11 (by omega)), _, _, _, rfl, hk.keep hW, hn.keep hW, ht.keep hW⟩

/-- How great. -/
def szO (o : OpV) : Nat := o.key.length + o.name.length + o.text.length
def szOs (l : List OpV) : Nat := l.length + (l.map szO).sum
def sumO (l : List OpV) (k : Nat) : Nat := ((l.take k).map szO).sum
theorem sumO_step (l : List OpV) (k : Nat) (h : k < l.length) : sumO l (k + 1) = sumO l k + szO l[k] := by
  unfold sumO
  rw [List.take_succ_eq_append_getElem h]
  simp only [List.map_append, List.sum_append, List.map_cons, List.map_nil, List.sum_cons, List.sum_nil, Nat.add_zero]
theorem sumO_all (l : List OpV) : sumO l l.length = (l.map szO).sum := by simp [sumO]
theorem sumO_le (l : List OpV) (k : Nat) : sumO l k ≤ (l.map szO).sum := by
  have h : (l.map szO).sum = sumO l k + ((l.drop k).map szO).sum := by
    unfold sumO
    rw [← List.sum_append, ← List.map_append, List.take_append_drop]
  omega
theorem szO_le (l : List OpV) (i : Nat) (h : i < l.length) : szO l[i] ≤ (l.map szO).sum := by
  have h1 := sumO_step l i h
  have h2 := sumO_le l (i + 1)
  omega
end Go.Proofs.YtkmmhlimihkgfaaGreat

/- Rows of operations that a call has made: which blocks are theirs. -/
namespace Go.Proofs.YtkmmhlimihkgfaaGreat
open Go.RowKit
set_option linter.unusedVariables false
set_option maxRecDepth 100000

theorem Tryz.info28 : (Tryz.prog.info? 28).map (fun i => (i.zero, i.size, i.bytes)) = some (some (.agg #[.int .i64 0, .int .i64 0, .int .i64 0, .int .i64 0, .int .i64 0, .int .i64 0, .int .i64 0, .slice none 0 0, .int .i64 0, .slice none 0 0, .slice none 0 0, .bool false]), 12, 144) := by kernel_rfl
set_option maxHeartbeats 3200000 in
theorem take_twelve (xs : List Value) (m : Nat) (v0 v1 v2 v3 v4 v5 v6 v7 v8 v9 v10 v11 : Value) (h : m + 12 ≤ xs.length) :
    ((((((((((((xs.set (m) v0).set (m + 1) v1).set (m + 2) v2).set (m + 3) v3).set (m + 4) v4).set (m + 5) v5).set (m + 6) v6).set (m + 7) v7).set (m + 8) v8).set (m + 9) v9).set (m + 10) v10).set (m + 11) v11).take (m + 12) = xs.take m ++ [v0, v1, v2, v3, v4, v5, v6, v7, v8, v9, v10, v11] := by
  have h0 := take_more xs m 0 _ v0 rfl (by omega)
  have h1 := take_more (xs.set (m) v0) m 1 _ v1 h0 (by simp; omega)
  have h2 := take_more ((xs.set (m) v0).set (m + 1) v1) m 2 _ v2 h1 (by simp; omega)
  have h3 := take_more (((xs.set (m) v0).set (m + 1) v1).set (m + 2) v2) m 3 _ v3 h2 (by simp; omega)
  have h4 := take_more ((((xs.set (m) v0).set (m + 1) v1).set (m + 2) v2).set (m + 3) v3) m 4 _ v4 h3 (by simp; omega)
  have h5 := take_more (((((xs.set (m) v0).set (m + 1) v1).set (m + 2) v2).set (m + 3) v3).set (m + 4) v4) m 5 _ v5 h4 (by simp; omega)
  have h6 := take_more ((((((xs.set (m) v0).set (m + 1) v1).set (m + 2) v2).set (m + 3) v3).set (m + 4) v4).set (m + 5) v5) m 6 _ v6 h5 (by simp; omega)
  have h7 := take_more (((((((xs.set (m) v0).set (m + 1) v1).set (m + 2) v2).set (m + 3) v3).set (m + 4) v4).set (m + 5) v5).set (m + 6) v6) m 7 _ v7 h6 (by simp; omega)
  have h8 := take_more ((((((((xs.set (m) v0).set (m + 1) v1).set (m + 2) v2).set (m + 3) v3).set (m + 4) v4).set (m + 5) v5).set (m + 6) v6).set (m + 7) v7) m 8 _ v8 h7 (by simp; omega)
  have h9 := take_more (((((((((xs.set (m) v0).set (m + 1) v1).set (m + 2) v2).set (m + 3) v3).set (m + 4) v4).set (m + 5) v5).set (m + 6) v6).set (m + 7) v7).set (m + 8) v8) m 9 _ v9 h8 (by simp; omega)
  have h10 := take_more ((((((((((xs.set (m) v0).set (m + 1) v1).set (m + 2) v2).set (m + 3) v3).set (m + 4) v4).set (m + 5) v5).set (m + 6) v6).set (m + 7) v7).set (m + 8) v8).set (m + 9) v9) m 10 _ v10 h9 (by simp; omega)
  have h11 := take_more (((((((((((xs.set (m) v0).set (m + 1) v1).set (m + 2) v2).set (m + 3) v3).set (m + 4) v4).set (m + 5) v5).set (m + 6) v6).set (m + 7) v7).set (m + 8) v8).set (m + 9) v9).set (m + 10) v10) m 11 _ v11 h10 (by simp; omega)
  simpa using h11
def OwOpC (w : World) (C : List Value) (o : OpV) (F : List Nat) : Prop := ∃ k n t, C = [.int .i64 o.kind, .int .i64 o.atN, .int .i64 o.atR, .int .i64 o.nodeN, .int .i64 o.nodeR, .int .i64 o.parN, .int .i64 o.parR, k, .int .i64 o.elem, n, t, .bool o.gone] ∧ OwnZ w 0 k o.key ∧ Own w 0 n o.name ∧ Own w 0 t o.text ∧ F = FB k ++ FB n ++ FB t
def OwOps (w : World) (v : Value) (l : List OpV) (F : List Nat) : Prop := OwElems w 28 12 v l (OwOpC w) F
theorem OwOpC.frm {w w' : World} {C : List Value} {o : OpV} {F S : List Nat} (h : OwOpC w C o F) (f : Frm w w' S) (hd : ∀ g ∈ F, g ∉ S) : OwOpC w' C o F := by
  obtain ⟨k, n, t, e, h1, h2, h3, rfl⟩ := h
  exact ⟨k, n, t, e, ⟨h1.1, ownsRow_frm h1.2 f (fun g hg => hd g (by simp [hg]))⟩, h2.frm f (fun g hg => hd g (by simp [hg])), h3.frm f (fun g hg => hd g (by simp [hg])), rfl⟩
theorem OwOps.frm {w w' : World} {v : Value} {l : List OpV} {F S : List Nat} (h : OwOps w v l F) (f : Frm w w' S) (hd : ∀ g ∈ F, g ∉ S) : OwOps w' v l F :=
  OwElems.frm h f hd (fun C x G hr hG => hr.frm f hG)
theorem OwOps.rd {w : World} {v : Value} {l : List OpV} {F : List Nat} (h : OwOps w v l F) : RdOps w v l :=
  OwElems.rd h (OwElems.len h) (fun C x G ⟨k, n, t, e, h1, h2, h3, _⟩ => ⟨k, n, t, e, h1.ints, h2.byt, h3.byt⟩)
end Go.Proofs.YtkmmhlimihkgfaaGreat

/- Rows of operations whose block is the call's own, while the operations' rows were there before. -/
namespace Go.Proofs.YtkmmhlimihkgfaaGreat
open Go.RowKit
set_option linter.unusedVariables false

/-- The row v is the call's own; its operations are readable in w0, the world in which the call began. -/
def ShOps (w0 w : World) (base : Nat) (v : Value) (l : List OpV) : Prop :=
  ∃ Cs : List (List Value), Cs.length = l.length ∧ (∀ i (hi : i < l.length), (Cs.getD i []).length = 12 ∧ RdOpC w0 (Cs.getD i []) l[i]) ∧ w.ownsRow base 28 12 v l.length Cs.flatten
theorem sh_none (w0 w : World) (base : Nat) : ShOps w0 w base (.slice none 0 0) [] := ⟨[], rfl, fun i hi => by simp at hi, World.ownsRow_nil _ _ _ _⟩
theorem RdOpC.keep {w w' : World} {C : List Value} {o : OpV} (h : RdOpC w C o) (hb : Below w.heap.size w w') : RdOpC w' C o := by
  obtain ⟨k, n, t, e, h1, h2, h3⟩ := h
  exact ⟨k, n, t, e, h1.keep hb, h2.keep hb, h3.keep hb⟩
theorem ShOps.rd {w0 w : World} {base : Nat} {v : Value} {l : List OpV} (h : ShOps w0 w base v l) (hB : Below w0.heap.size w0 w) : RdOps w v l := by
  obtain ⟨Cs, h1, h2, h3⟩ := h
  have hO : OwElems w 28 12 v l (fun C x G => RdOpC w0 C x ∧ G = []) (FB v ++ (List.replicate l.length ([] : List Nat)).flatten) :=
    ⟨Cs, List.replicate l.length [], h1, by simp, fun i hi => ⟨(h2 i hi).1, (h2 i hi).2, by simp [List.getD_eq_getElem?_getD, hi]⟩, ownsRow_base h3 0 (Nat.zero_le _), rfl⟩
  exact OwElems.rd hO (OwElems.len hO) (fun C x G hr => hr.1.keep hB)
/-- The cells of a readable row, one behind the other. -/
theorem rd_flat {w0 w : World} {b off n cap : Nat} {l : List OpV} (h : ∀ i (hi : i < l.length), ∃ C : List Value, C.length = 12 ∧ (∀ j, j < 12 → w.cell? ⟨b, off + i * 12 + j, none⟩ = C[j]?) ∧ RdOpC w0 C l[i]) :
    ∃ Cs : List (List Value), Cs.length = l.length ∧ (∀ i (hi : i < l.length), (Cs.getD i []).length = 12 ∧ RdOpC w0 (Cs.getD i []) l[i]) ∧ Cs.flatten.length = l.length * 12 ∧ ∀ j u, Cs.flatten[j]? = some u → w.cell? ⟨b, off + j, none⟩ = some u := by
  induction l generalizing off with
  | nil => exact ⟨[], rfl, fun i hi => by simp at hi, rfl, fun j u hj => by simp at hj⟩
  | cons o l ih =>
    obtain ⟨C, hC, hc, hr⟩ := h 0 (by simp)
    obtain ⟨Cs, h1, h2, h3, h4⟩ := ih (off := off + 12) (fun i hi => by
      obtain ⟨C, hC, hc, hr⟩ := h (i + 1) (by simpa using hi)
      refine ⟨C, hC, fun j hj => ?_, by simpa using hr⟩
      rw [← hc j hj]
      congr 2
      omega)
    refine ⟨C :: Cs, by simp [h1], fun i hi => ?_, by simp [hC]; simp at h3; omega, fun j u hj => ?_⟩
    · cases i with
      | zero => exact ⟨by simpa using hC, by simpa using hr⟩
      | succ i => simpa using h2 i (by simpa using hi)
    · rw [List.flatten_cons] at hj
      by_cases hj12 : j < 12
      · rw [List.getElem?_append_left (by omega)] at hj
        have := hc j hj12
        rw [hj] at this
        simpa using this
      · rw [List.getElem?_append_right (by omega), hC] at hj
        have := h4 (j - 12) u hj
        rw [← this]
        congr 2
        omega
end Go.Proofs.YtkmmhlimihkgfaaGreat

/- An operation stored into a row of the call's own. -/
namespace Go.Proofs.YtkmmhlimihkgfaaGreat
open Go.RowKit
set_option linter.unusedVariables false

set_option maxHeartbeats 3200000 in
theorem set_twelveL (xs : List Value) (m : Nat) (v0 v1 v2 v3 v4 v5 v6 v7 v8 v9 v10 v11 : Value) (h : m + 12 ≤ xs.length) : ((((((((((((xs.set (m) v0).set (m + 1) v1).set (m + 2) v2).set (m + 3) v3).set (m + 4) v4).set (m + 5) v5).set (m + 6) v6).set (m + 7) v7).set (m + 8) v8).set (m + 9) v9).set (m + 10) v10).set (m + 11) v11) = xs.take m ++ [v0, v1, v2, v3, v4, v5, v6, v7, v8, v9, v10, v11] ++ xs.drop (m + 12) := by
  have h1 := take_twelve xs m v0 v1 v2 v3 v4 v5 v6 v7 v8 v9 v10 v11 h
  have h2 : ((((((((((((xs.set (m) v0).set (m + 1) v1).set (m + 2) v2).set (m + 3) v3).set (m + 4) v4).set (m + 5) v5).set (m + 6) v6).set (m + 7) v7).set (m + 8) v8).set (m + 9) v9).set (m + 10) v10).set (m + 11) v11).drop (m + 12) = xs.drop (m + 12) := by
    rw [List.drop_set_of_lt (by omega), List.drop_set_of_lt (by omega), List.drop_set_of_lt (by omega), List.drop_set_of_lt (by omega), List.drop_set_of_lt (by omega), List.drop_set_of_lt (by omega), List.drop_set_of_lt (by omega), List.drop_set_of_lt (by omega), List.drop_set_of_lt (by omega), List.drop_set_of_lt (by omega), List.drop_set_of_lt (by omega), List.drop_set_of_lt (by omega)]
  rw [← List.take_append_drop (m + 12) ((((((((((((xs.set (m) v0).set (m + 1) v1).set (m + 2) v2).set (m + 3) v3).set (m + 4) v4).set (m + 5) v5).set (m + 6) v6).set (m + 7) v7).set (m + 8) v8).set (m + 9) v9).set (m + 10) v10).set (m + 11) v11), h1, h2]
theorem flat_set12 : ∀ (Cs : List (List Value)) (i : Nat) (C : List Value), (∀ D ∈ Cs, D.length = 12) → i < Cs.length → (Cs.set i C).flatten = Cs.flatten.take (i * 12) ++ C ++ Cs.flatten.drop (i * 12 + 12)
  | [], i, C, _, h => by simp at h
  | D :: Cs, 0, C, hD, _ => by
    have := hD D (by simp)
    simp [this]
  | D :: Cs, i + 1, C, hD, h => by
    have h1 := hD D (by simp)
    have ih := flat_set12 Cs i C (fun E hE => hD E (by simp [hE])) (by simpa using h)
    rw [List.set_cons_succ, List.flatten_cons, ih, List.flatten_cons, List.take_append, List.drop_append, h1]
    have e1 : (i + 1) * 12 - 12 = i * 12 := by omega
    have e2 : (i + 1) * 12 + 12 - 12 = i * 12 + 12 := by omega
    rw [e1, e2, List.take_of_length_le (by omega : D.length ≤ (i + 1) * 12), List.drop_of_length_le (by omega : D.length ≤ (i + 1) * 12 + 12)]
    simp
set_option maxHeartbeats 3200000 in
theorem ShOps.set {w0 w : World} {base g cap : Nat} {l : List OpV} (h : ShOps w0 w base (.slice (some ⟨g, 0, none⟩) l.length cap) l) (i : Nat) (hi : i < l.length) (v0 v1 v2 v3 v4 v5 v6 v7 v8 v9 v10 v11 : Value) (o : OpV) (ho : RdOpC w0 [v0, v1, v2, v3, v4, v5, v6, v7, v8, v9, v10, v11] o) :
    ShOps w0 ((((((((((((w.setCell ⟨g, i * 12, none⟩ v0).setCell ⟨g, i * 12 + 1, none⟩ v1).setCell ⟨g, i * 12 + 2, none⟩ v2).setCell ⟨g, i * 12 + 3, none⟩ v3).setCell ⟨g, i * 12 + 4, none⟩ v4).setCell ⟨g, i * 12 + 5, none⟩ v5).setCell ⟨g, i * 12 + 6, none⟩ v6).setCell ⟨g, i * 12 + 7, none⟩ v7).setCell ⟨g, i * 12 + 8, none⟩ v8).setCell ⟨g, i * 12 + 9, none⟩ v9).setCell ⟨g, i * 12 + 10, none⟩ v10).setCell ⟨g, i * 12 + 11, none⟩ v11) base (.slice (some ⟨g, 0, none⟩) (l.set i o).length cap) (l.set i o) ∧ Frm w ((((((((((((w.setCell ⟨g, i * 12, none⟩ v0).setCell ⟨g, i * 12 + 1, none⟩ v1).setCell ⟨g, i * 12 + 2, none⟩ v2).setCell ⟨g, i * 12 + 3, none⟩ v3).setCell ⟨g, i * 12 + 4, none⟩ v4).setCell ⟨g, i * 12 + 5, none⟩ v5).setCell ⟨g, i * 12 + 6, none⟩ v6).setCell ⟨g, i * 12 + 7, none⟩ v7).setCell ⟨g, i * 12 + 8, none⟩ v8).setCell ⟨g, i * 12 + 9, none⟩ v9).setCell ⟨g, i * 12 + 10, none⟩ v10).setCell ⟨g, i * 12 + 11, none⟩ v11) [g] := by
  obtain ⟨Cs, h1, h2, h3⟩ := h
  have hl := h3.1
  have hall : ∀ D ∈ Cs, D.length = 12 := by
    intro D hD
    obtain ⟨j, hj, rfl⟩ := List.getElem_of_mem hD
    have := (h2 j (by omega)).1
    have e : Cs.getD j [] = Cs[j] := by simp [List.getD_eq_getElem?_getD, hj]
    rw [e] at this
    exact this
  refine ⟨⟨Cs.set i [v0, v1, v2, v3, v4, v5, v6, v7, v8, v9, v10, v11], by simp [h1], fun j hj => ?_, ?_⟩, ((((((((((((set_frm w g _ _).trans (set_frm _ _ _ _)).trans (set_frm _ _ _ _)).trans (set_frm _ _ _ _)).trans (set_frm _ _ _ _)).trans (set_frm _ _ _ _)).trans (set_frm _ _ _ _)).trans (set_frm _ _ _ _)).trans (set_frm _ _ _ _)).trans (set_frm _ _ _ _)).trans (set_frm _ _ _ _)).trans (set_frm _ _ _ _))⟩
  · have hj' : j < l.length := by simpa using hj
    by_cases hij : i = j
    · subst hij
      rw [List.getD_eq_getElem?_getD, List.getElem?_set, if_pos rfl, if_pos (by omega), List.getElem_set_self]
      exact ⟨rfl, ho⟩
    · rw [List.getD_eq_getElem?_getD, List.getElem?_set, if_neg hij, ← List.getD_eq_getElem?_getD, List.getElem_set_ne hij]
      exact h2 j hj'
  · rw [List.length_set, flat_set12 Cs i _ hall (by omega)]
    have t0 := (h3.stored (i * 12) v0).1
    have t1 := (t0.stored (i * 12 + 1) v1).1
    have t2 := (t1.stored (i * 12 + 2) v2).1
    have t3 := (t2.stored (i * 12 + 3) v3).1
    have t4 := (t3.stored (i * 12 + 4) v4).1
    have t5 := (t4.stored (i * 12 + 5) v5).1
    have t6 := (t5.stored (i * 12 + 6) v6).1
    have t7 := (t6.stored (i * 12 + 7) v7).1
    have t8 := (t7.stored (i * 12 + 8) v8).1
    have t9 := (t8.stored (i * 12 + 9) v9).1
    have t10 := (t9.stored (i * 12 + 10) v10).1
    have t11 := (t10.stored (i * 12 + 11) v11).1
    rw [← set_twelveL Cs.flatten (i * 12) v0 v1 v2 v3 v4 v5 v6 v7 v8 v9 v10 v11 (by omega)]
    exact t11
/-- The cells that it takes the place of. -/
theorem ShOps.cells {w0 w : World} {base g cap : Nat} {l : List OpV} (h : ShOps w0 w base (.slice (some ⟨g, 0, none⟩) l.length cap) l) (i : Nat) (hi : i < l.length) (j : Nat) (hj : j < 12) : (∃ y, w.cell? ⟨g, i * 12 + j, none⟩ = some y) ∧ w.frozen? ⟨g, i * 12 + j, none⟩ = false := by
  obtain ⟨Cs, h1, h2, h3⟩ := h
  have hl := h3.1
  exact ⟨⟨Cs.flatten[i * 12 + j]'(by omega), by rw [h3.cellAt (i * 12 + j) (by omega), List.getElem?_eq_getElem (by omega)]⟩, h3.frozenAt (i * 12 + j)⟩
end Go.Proofs.YtkmmhlimihkgfaaGreat

/- An append of a readable row of bytes to an owned one, as one law for the walk. -/
namespace Go.Proofs.YtkmmhlimihkgfaaGreat
open Go.RowKit
set_option linter.unusedVariables false

/-- 'append(out, src...)': out owned, src readable: what comes is owned, and no block but out's own has been written. -/
theorem wpList_app {w : World} {ops : Array Oper} {rest : List Oper} {o : Oper} {a : Act} {Q : Exit → Act → World → Prop} (hgd : o.guard = none) (s x : Operand)
    (ho : o.op = .call { callee := .builtin .append, args := #[s, x], argTypes := #[22, 22] })
    (base : Nat) (v : Value) (l : List Int) (hs : a.eval s = v) (hown : Own w base v l) (u : Value) (m : List Int) (hx : a.eval x = u) (hu : Byt w u m)
    (hlen : l.length + m.length ≤ 134217728) (hbase : base ≤ w.heap.size)
    (h : ∀ v' w', Own w' base v' (l ++ m) → w.grownBy w' v.ownBlock → wpList Tryz.prog ops Q rest (a.put o.dst v') w') : wpList Tryz.prog ops Q (o :: rest) a w := by
  obtain ⟨i0, hi, hz0, hz1, hz2⟩ := info_parts Tryz.info5
  have hfull : ∀ (ad : Addr) (c : Nat), a.eval x = .slice (some ad) m.length c → (∀ j, j < m.length → w.cell? (ad.add j) = some (.int .u8 (m.getD j 0))) → wpList Tryz.prog ops Q (o :: rest) a w := by
    intro ad c hx' hc
    refine wpList_append_own _ hgd s x 22 ho base 5 i0 (.int .u8 0) 1 1 Tryz.underlying22 hi hz0 hz1 hz2 rfl (by decide) v l.length (vals l) hs hown.2 ad m.length c (vals m) hx' (by rw [vals_len]; omega) ?_ (vals_one m) (by unfold maxLen; omega) (by omega) hbase ?_
    · intro j y hj
      have hlt : j < m.length := by
        by_cases hlt : j < m.length
        · exact hlt
        · rw [List.getElem?_eq_none (by rw [vals_len]; omega)] at hj; cases hj
      rw [vals_at hlt] at hj
      rw [hc j hlt]; exact hj
    · intro v' w' h1 h2 _
      refine h v' w' ⟨hown.1.app hu.1, ?_⟩ h2
      rw [vals_app, List.length_append]; exact h1
  obtain ⟨hok, hm, ⟨rfl, rfl⟩ | ⟨y, cap, rfl, hc, rfl⟩ | ⟨b, off, cap, rfl, h1, h2, h3, h4, h5⟩⟩ := hu
  · refine wpList_append_own_none hgd s x 22 ho base 5 i0 1 Tryz.underlying22 hi v l.length (vals l) hs hown.2 hx ?_
    exact h v w (by rw [List.append_nil]; exact hown) (World.grownBy.refl _ _)
  · exact hfull y cap hx (fun j hj => by simp at hj)
  · exact hfull ⟨b, off, none⟩ cap hx (fun j hj => by rw [add_plain]; exact h5 j hj)

/-- A new block of one byte. -/
theorem byt_one (w : World) (x : Int) (h0 : 0 ≤ x) (h1 : x ≤ 255) : Byt (w.alloc (.cells #[.int .u8 x] 5)) (.slice (some ⟨w.heap.size, 0, none⟩) 1 1) [x] := by
  refine ⟨okB.one h0 h1, by simp [maxLen], .inr (.inr ⟨w.heap.size, 0, 1, rfl, by simp, by simp [maxLen], by simp, by simp, fun i hi => ?_⟩)⟩
  have e : i = 0 := by simpa using hi
  subst e
  simp
/-- A new block of none. -/
theorem own_none (w : World) : Own (w.alloc (.cells #[] 5)) w.heap.size (.slice (some ⟨w.heap.size, 0, none⟩) 0 0) [] :=
  ⟨okB_nil, World.ownsRow_lit w #[] 0 (Nat.le_refl _) (Nat.zero_le _) rfl⟩
theorem Own.alloc {w : World} {base : Nat} {v : Value} {l : List Int} (h : Own w base v l) (o : Obj) : Own (w.alloc o) base v l := ⟨h.1, h.2.alloc o⟩
theorem Byt.alloc {w : World} {v : Value} {l : List Int} (h : Byt w v l) (o : Obj) : Byt (w.alloc o) v l := h.keep ((Below.refl _ _).alloc (Nat.le_refl _) o)
/-- A block of the call's own that was there when the row was made is no older than 'base'. -/
theorem Own.base_le {w : World} {base : Nat} {v : Value} {l : List Int} (h : Own w base v l) : ∀ g, v.ownBlock = some g → base ≤ g := fun g hg => (h.lt g hg).1

end Go.Proofs.YtkmmhlimihkgfaaGreat

/- An append of operations that are there to a row of the call's own. -/
namespace Go.Proofs.YtkmmhlimihkgfaaGreat
open Go.RowKit
set_option linter.unusedVariables false

/-- A stretch of operations: its cells lie in w, its operations are readable in w0. -/
def Seg (w0 w : World) (u : Value) (m : List OpV) : Prop :=
  (u = .slice none 0 0 ∧ m = []) ∨ (∃ x c, u = .slice (some x) 0 c ∧ m = []) ∨
  ∃ b off c, u = .slice (some ⟨b, off, none⟩) m.length c ∧ ∀ i (hi : i < m.length), ∃ C : List Value, C.length = 12 ∧ (∀ j, j < 12 → w.cell? ⟨b, off + i * 12 + j, none⟩ = C[j]?) ∧ RdOpC w0 C m[i]
theorem Seg.at {w0 w : World} {b off n c : Nat} {m : List OpV} (hn : m.length = n) (hB : Below w0.heap.size w0 w) (hb : b < w0.heap.size) (h : ∀ i (hi : i < m.length), ∃ C : List Value, C.length = 12 ∧ (∀ j, j < 12 → w0.cell? ⟨b, off + i * 12 + j, none⟩ = C[j]?) ∧ RdOpC w0 C m[i]) : Seg w0 w (.slice (some ⟨b, off, none⟩) n c) m :=
  .inr (.inr ⟨b, off, c, by rw [hn], fun i hi => by
    obtain ⟨C, hC, hc, hr⟩ := h i hi
    exact ⟨C, hC, fun j hj => (hB.cell (p := ⟨b, off + i * 12 + j, none⟩) hb).trans (hc j hj), hr⟩⟩)
theorem RdOps.seg {w0 w : World} {v : Value} {l : List OpV} (h : RdOps w0 v l) (hB : Below w0.heap.size w0 w) : Seg w0 w v l := by
  obtain ⟨_, ⟨rfl, rfl⟩ | ⟨x, cap, rfl, hc, rfl⟩ | ⟨b, off, cap, rfl, g1, g2, g3, g4, g5⟩⟩ := h
  · exact .inl ⟨rfl, rfl⟩
  · exact .inr (.inl ⟨x, cap, rfl, rfl⟩)
  · exact Seg.at rfl hB g4 g5
/-- One operation in a new block. -/
theorem Seg.one {w0 w : World} {g : Nat} {C : List Value} {o : OpV} (hC : C.length = 12) (hl : Loc w g C.toArray 28) (hr : RdOpC w0 C o) : Seg w0 w (.slice (some ⟨g, 0, none⟩) 1 1) [o] :=
  .inr (.inr ⟨g, 0, 1, rfl, fun i hi => by
    have e : i = 0 := by simpa using hi
    subst e
    exact ⟨C, hC, fun j hj => by rw [Nat.zero_mul, Nat.zero_add, hl.cell j]; simp, hr⟩⟩)
theorem opc_one {w : World} {C : List Value} {o : OpV} (h : RdOpC w C o) : ∀ u ∈ C, u.oneCell' = true := by
  obtain ⟨k, n, t, rfl, hk, hn, ht⟩ := h
  obtain ⟨a1, c1, rfl, _, _⟩ := hk.shape
  obtain ⟨a2, c2, rfl, _, _⟩ := hn.shape
  obtain ⟨a3, c3, rfl, _, _⟩ := ht.shape
  intro u hu
  simp at hu
  rcases hu with rfl | rfl | rfl | rfl | rfl | rfl | rfl | rfl | rfl | rfl | rfl | rfl <;> rfl
theorem flat_one {w : World} {l : List OpV} {Cs : List (List Value)} (h1 : Cs.length = l.length) (h : ∀ i (hi : i < l.length), (Cs.getD i []).length = 12 ∧ RdOpC w (Cs.getD i []) l[i]) : ∀ u ∈ Cs.flatten, u.oneCell' = true := by
  intro u hu
  obtain ⟨C, hC, hmem⟩ := List.mem_flatten.1 hu
  obtain ⟨i, hi, rfl⟩ := List.getElem_of_mem hC
  have := (h i (by omega)).2
  have e : Cs.getD i [] = Cs[i] := by simp [List.getD_eq_getElem?_getD, hi]
  rw [e] at this
  exact opc_one this u hmem
theorem wpList_appSh {w0 w : World} {ops : Array Oper} {rest : List Oper} {o : Oper} {a : Act} {Q : Exit → Act → World → Prop} (hgd : o.guard = none) (s x : Operand)
    (ho : o.op = .call { callee := .builtin .append, args := #[s, x], argTypes := #[23, 23] })
    (base : Nat) (v : Value) (l : List OpV) (hs : a.eval s = v) (hsh : ShOps w0 w base v l) (u : Value) (m : List OpV) (hx : a.eval x = u) (hu : Seg w0 w u m)
    (hlen : l.length + m.length ≤ 100000) (hbase : base ≤ w.heap.size)
    (h : ∀ v' w', ShOps w0 w' base v' (l ++ m) → w.grownBy w' v.ownBlock → wpList Tryz.prog ops Q rest (a.put o.dst v') w') : wpList Tryz.prog ops Q (o :: rest) a w := by
  obtain ⟨i0, hi, hz0, hz1, hz2⟩ := info_parts Tryz.info28
  obtain ⟨Cs, h1, h2, h3⟩ := hsh
  have hfull : ∀ (ad : Addr) (c : Nat) (Ds : List (List Value)), a.eval x = .slice (some ad) m.length c → Ds.length = m.length → (∀ i (hi : i < m.length), (Ds.getD i []).length = 12 ∧ RdOpC w0 (Ds.getD i []) m[i]) → Ds.flatten.length = m.length * 12 → (∀ j y, Ds.flatten[j]? = some y → w.cell? (ad.add j) = some y) → wpList Tryz.prog ops Q (o :: rest) a w := by
    intro ad c Ds hx' e1 e2 e3 hc
    refine wpList_append_own _ hgd s x 23 ho base 28 i0 _ 12 144 Tryz.underlying23 hi hz0 hz1 hz2 rfl (by decide) v l.length Cs.flatten hs h3 ad m.length c Ds.flatten hx' e3 hc (flat_one e1 e2) (by unfold maxLen; omega) (by omega) hbase ?_
    intro v' w' k1 k2 _
    refine h v' w' ⟨Cs ++ Ds, by simp [h1, e1], fun i hi => ?_, ?_⟩ k2
    · by_cases hil : i < l.length
      · rw [List.getD_eq_getElem?_getD, List.getElem?_append_left (by omega), ← List.getD_eq_getElem?_getD, List.getElem_append_left hil]
        exact h2 i hil
      · rw [List.getD_eq_getElem?_getD, List.getElem?_append_right (by omega), ← List.getD_eq_getElem?_getD, List.getElem_append_right (by omega), h1]
        exact e2 (i - l.length) (by simp at hi; omega)
    · rw [List.length_append, List.flatten_append]; exact k1
  rcases hu with ⟨rfl, rfl⟩ | ⟨y, c, rfl, rfl⟩ | ⟨b, off, c, rfl, hel⟩
  · refine wpList_append_own_none hgd s x 23 ho base 28 i0 12 Tryz.underlying23 hi v l.length Cs.flatten hs h3 hx ?_
    exact h v w (by rw [List.append_nil]; exact ⟨Cs, h1, h2, h3⟩) (World.grownBy.refl _ _)
  · exact hfull y c [] hx rfl (fun i hi => by simp at hi) rfl (fun j y hj => by simp at hj)
  · obtain ⟨Ds, e1, e2, e3, e4⟩ := rd_flat (n := 0) (cap := 0) hel
    exact hfull ⟨b, off, none⟩ c Ds hx e1 e2 e3 (fun j y hj => by rw [add_plain]; exact e4 j y hj)
end Go.Proofs.YtkmmhlimihkgfaaGreat

/- Rows of operations whose block is the call's own, their operations of whatever kind P; an append to such a row; a store into one. -/
namespace Go.Proofs.YtkmmhlimihkgfaaGreat
open Go.RowKit
set_option linter.unusedVariables false
set_option maxRecDepth 100000

/-- The row v is the call's own; its operations are readable in w0, the world in which the call began. -/
def ShOpsP (P : List Value → OpV → Prop) (w : World) (base : Nat) (v : Value) (l : List OpV) : Prop :=
  ∃ Cs : List (List Value), Cs.length = l.length ∧ (∀ i (hi : i < l.length), (Cs.getD i []).length = 12 ∧ P (Cs.getD i []) l[i]) ∧ w.ownsRow base 28 12 v l.length Cs.flatten
theorem sh_noneP (P : List Value → OpV → Prop) (w : World) (base : Nat) : ShOpsP P w base (.slice none 0 0) [] := ⟨[], rfl, fun i hi => by simp at hi, World.ownsRow_nil _ _ _ _⟩
theorem ShOpsP.rdOps {P : List Value → OpV → Prop} {w : World} {base : Nat} {v : Value} {l : List OpV} (hP : ∀ C o, P C o → RdOpC w C o) (h : ShOpsP P w base v l) : RdOps w v l := by
  obtain ⟨Cs, h1, h2, h3⟩ := h
  have hO : OwElems w 28 12 v l (fun C x G => RdOpC w C x ∧ G = []) (FB v ++ (List.replicate l.length ([] : List Nat)).flatten) :=
    ⟨Cs, List.replicate l.length [], h1, by simp, fun i hi => ⟨(h2 i hi).1, hP _ _ (h2 i hi).2, by simp [List.getD_eq_getElem?_getD, hi]⟩, ownsRow_base h3 0 (Nat.zero_le _), rfl⟩
  exact OwElems.rd hO (OwElems.len hO) (fun C x G hr => hr.1)
theorem ShOpsP.elems {P : List Value → OpV → Prop} {w : World} {base : Nat} {v : Value} {l : List OpV} (h : ShOpsP P w base v l) : Elems w 12 v l P := by
  obtain ⟨Cs, h1, h2, h3⟩ := h
  have hO : OwElems w 28 12 v l (fun C x G => P C x ∧ G = []) (FB v ++ (List.replicate l.length ([] : List Nat)).flatten) :=
    ⟨Cs, List.replicate l.length [], h1, by simp, fun i hi => ⟨(h2 i hi).1, (h2 i hi).2, by simp [List.getD_eq_getElem?_getD, hi]⟩, ownsRow_base h3 0 (Nat.zero_le _), rfl⟩
  exact OwElems.rd hO (OwElems.len hO) (fun C x G hr => hr.1)
theorem ShOpsP.low {P : List Value → OpV → Prop} {w : World} {b b' : Nat} {v : Value} {l : List OpV} (h : ShOpsP P w b v l) (hb : b' ≤ b) : ShOpsP P w b' v l := by
  obtain ⟨Cs, z1, z2, z3⟩ := h
  exact ⟨Cs, z1, z2, ownsRow_base z3 b' hb⟩
theorem ShOpsP.to {P P' : List Value → OpV → Prop} {w w' : World} {base : Nat} {v : Value} {l : List OpV} {S : List Nat} (hp : ∀ C o, P C o → P' C o) (h : ShOpsP P w base v l) (f : Frm w w' S) (hS : ∀ q ∈ S, q < base) : ShOpsP P' w' base v l := by
  obtain ⟨Cs, z1, z2, z3⟩ := h
  exact ⟨Cs, z1, fun i hi => ⟨(z2 i hi).1, hp _ _ (z2 i hi).2⟩, ownsRow_frm z3 f (fun q hq hq' => by have := hS q hq'; have := (z3.lt q (by simpa [FB] using hq)).1; omega)⟩
/-- The cells of a readable row, one behind the other. -/
theorem rd_flatP {P : List Value → OpV → Prop} {w : World} {b off n cap : Nat} {l : List OpV} (h : ∀ i (hi : i < l.length), ∃ C : List Value, C.length = 12 ∧ (∀ j, j < 12 → w.cell? ⟨b, off + i * 12 + j, none⟩ = C[j]?) ∧ P C l[i]) :
    ∃ Cs : List (List Value), Cs.length = l.length ∧ (∀ i (hi : i < l.length), (Cs.getD i []).length = 12 ∧ P (Cs.getD i []) l[i]) ∧ Cs.flatten.length = l.length * 12 ∧ ∀ j u, Cs.flatten[j]? = some u → w.cell? ⟨b, off + j, none⟩ = some u := by
  induction l generalizing off with
  | nil => exact ⟨[], rfl, fun i hi => by simp at hi, rfl, fun j u hj => by simp at hj⟩
  | cons o l ih =>
    obtain ⟨C, hC, hc, hr⟩ := h 0 (by simp)
    obtain ⟨Cs, h1, h2, h3, h4⟩ := ih (off := off + 12) (fun i hi => by
      obtain ⟨C, hC, hc, hr⟩ := h (i + 1) (by simpa using hi)
      refine ⟨C, hC, fun j hj => ?_, by simpa using hr⟩
      rw [← hc j hj]
      congr 2
      omega)
    refine ⟨C :: Cs, by simp [h1], fun i hi => ?_, by simp [hC]; simp at h3; omega, fun j u hj => ?_⟩
    · cases i with
      | zero => exact ⟨by simpa using hC, by simpa using hr⟩
      | succ i => simpa using h2 i (by simpa using hi)
    · rw [List.flatten_cons] at hj
      by_cases hj12 : j < 12
      · rw [List.getElem?_append_left (by omega)] at hj
        have := hc j hj12
        rw [hj] at this
        simpa using this
      · rw [List.getElem?_append_right (by omega), hC] at hj
        have := h4 (j - 12) u hj
        rw [← this]
        congr 2
        omega
/-- A stretch of operations: its cells lie in w, its operations are readable in w0. -/
def SegP (P : List Value → OpV → Prop) (w : World) (u : Value) (m : List OpV) : Prop :=
  (u = .slice none 0 0 ∧ m = []) ∨ (∃ x c, u = .slice (some x) 0 c ∧ m = []) ∨
  ∃ b off c, u = .slice (some ⟨b, off, none⟩) m.length c ∧ ∀ i (hi : i < m.length), ∃ C : List Value, C.length = 12 ∧ (∀ j, j < 12 → w.cell? ⟨b, off + i * 12 + j, none⟩ = C[j]?) ∧ P C m[i]
theorem SegP.at {P : List Value → OpV → Prop} {w0 w : World} {b off n c : Nat} {m : List OpV} (hn : m.length = n) (hB : Below w0.heap.size w0 w) (hb : b < w0.heap.size) (h : ∀ i (hi : i < m.length), ∃ C : List Value, C.length = 12 ∧ (∀ j, j < 12 → w0.cell? ⟨b, off + i * 12 + j, none⟩ = C[j]?) ∧ P C m[i]) : SegP P w (.slice (some ⟨b, off, none⟩) n c) m :=
  .inr (.inr ⟨b, off, c, by rw [hn], fun i hi => by
    obtain ⟨C, hC, hc, hr⟩ := h i hi
    exact ⟨C, hC, fun j hj => (hB.cell (p := ⟨b, off + i * 12 + j, none⟩) hb).trans (hc j hj), hr⟩⟩)
theorem elems_segP {P : List Value → OpV → Prop} {w0 w : World} {v : Value} {l : List OpV} (h : Elems w0 12 v l P) (hB : Below w0.heap.size w0 w) : SegP P w v l := by
  obtain ⟨_, ⟨rfl, rfl⟩ | ⟨x, cap, rfl, hc, rfl⟩ | ⟨b, off, cap, rfl, g1, g2, g3, g4, g5⟩⟩ := h
  · exact .inl ⟨rfl, rfl⟩
  · exact .inr (.inl ⟨x, cap, rfl, rfl⟩)
  · exact SegP.at rfl hB g4 g5
/-- One operation in a new block. -/
theorem SegP.one {P : List Value → OpV → Prop} {w : World} {g : Nat} {C : List Value} {o : OpV} (hC : C.length = 12) (hl : Loc w g C.toArray 28) (hr : P C o) : SegP P w (.slice (some ⟨g, 0, none⟩) 1 1) [o] :=
  .inr (.inr ⟨g, 0, 1, rfl, fun i hi => by
    have e : i = 0 := by simpa using hi
    subst e
    exact ⟨C, hC, fun j hj => by rw [Nat.zero_mul, Nat.zero_add, hl.cell j]; simp, hr⟩⟩)
theorem flat_oneP {P : List Value → OpV → Prop} {w0 : World} (hP : ∀ C o, P C o → RdOpC w0 C o) {l : List OpV} {Cs : List (List Value)} (h1 : Cs.length = l.length) (h : ∀ i (hi : i < l.length), (Cs.getD i []).length = 12 ∧ P (Cs.getD i []) l[i]) : ∀ u ∈ Cs.flatten, u.oneCell' = true := by
  intro u hu
  obtain ⟨C, hC, hmem⟩ := List.mem_flatten.1 hu
  obtain ⟨i, hi, rfl⟩ := List.getElem_of_mem hC
  have := (h i (by omega)).2
  have e : Cs.getD i [] = Cs[i] := by simp [List.getD_eq_getElem?_getD, hi]
  rw [e] at this
  exact opc_one (hP _ _ this) u hmem
theorem wpList_appShP {P : List Value → OpV → Prop} {w0 w : World} (hP : ∀ C o, P C o → RdOpC w0 C o) {ops : Array Oper} {rest : List Oper} {o : Oper} {a : Act} {Q : Exit → Act → World → Prop} (hgd : o.guard = none) (s x : Operand)
    (ho : o.op = .call { callee := .builtin .append, args := #[s, x], argTypes := #[23, 23] })
    (base : Nat) (v : Value) (l : List OpV) (hs : a.eval s = v) (hsh : ShOpsP P w base v l) (u : Value) (m : List OpV) (hx : a.eval x = u) (hu : SegP P w u m)
    (hlen : l.length + m.length ≤ 100000) (hbase : base ≤ w.heap.size)
    (h : ∀ v' w', ShOpsP P w' base v' (l ++ m) → w.grownBy w' v.ownBlock → wpList Tryz.prog ops Q rest (a.put o.dst v') w') : wpList Tryz.prog ops Q (o :: rest) a w := by
  obtain ⟨i0, hi, hz0, hz1, hz2⟩ := info_parts Tryz.info28
  obtain ⟨Cs, h1, h2, h3⟩ := hsh
  have hfull : ∀ (ad : Addr) (c : Nat) (Ds : List (List Value)), a.eval x = .slice (some ad) m.length c → Ds.length = m.length → (∀ i (hi : i < m.length), (Ds.getD i []).length = 12 ∧ P (Ds.getD i []) m[i]) → Ds.flatten.length = m.length * 12 → (∀ j y, Ds.flatten[j]? = some y → w.cell? (ad.add j) = some y) → wpList Tryz.prog ops Q (o :: rest) a w := by
    intro ad c Ds hx' e1 e2 e3 hc
    refine wpList_append_own _ hgd s x 23 ho base 28 i0 _ 12 144 Tryz.underlying23 hi hz0 hz1 hz2 rfl (by decide) v l.length Cs.flatten hs h3 ad m.length c Ds.flatten hx' e3 hc (flat_oneP hP e1 e2) (by unfold maxLen; omega) (by omega) hbase ?_
    intro v' w' k1 k2 _
    refine h v' w' ⟨Cs ++ Ds, by simp [h1, e1], fun i hi => ?_, ?_⟩ k2
    · by_cases hil : i < l.length
      · rw [List.getD_eq_getElem?_getD, List.getElem?_append_left (by omega), ← List.getD_eq_getElem?_getD, List.getElem_append_left hil]
        exact h2 i hil
      · rw [List.getD_eq_getElem?_getD, List.getElem?_append_right (by omega), ← List.getD_eq_getElem?_getD, List.getElem_append_right (by omega), h1]
        exact e2 (i - l.length) (by simp at hi; omega)
    · rw [List.length_append, List.flatten_append]; exact k1
  rcases hu with ⟨rfl, rfl⟩ | ⟨y, c, rfl, rfl⟩ | ⟨b, off, c, rfl, hel⟩
  · refine wpList_append_own_none hgd s x 23 ho base 28 i0 12 Tryz.underlying23 hi v l.length Cs.flatten hs h3 hx ?_
    exact h v w (by rw [List.append_nil]; exact ⟨Cs, h1, h2, h3⟩) (World.grownBy.refl _ _)
  · exact hfull y c [] hx rfl (fun i hi => by simp at hi) rfl (fun j y hj => by simp at hj)
  · obtain ⟨Ds, e1, e2, e3, e4⟩ := rd_flatP (n := 0) (cap := 0) hel
    exact hfull ⟨b, off, none⟩ c Ds hx e1 e2 e3 (fun j y hj => by rw [add_plain]; exact e4 j y hj)
set_option maxHeartbeats 3200000 in
theorem ShOpsP.set {P : List Value → OpV → Prop} {w : World} {base g cap : Nat} {l : List OpV} (h : ShOpsP P w base (.slice (some ⟨g, 0, none⟩) l.length cap) l) (i : Nat) (hi : i < l.length) (v0 v1 v2 v3 v4 v5 v6 v7 v8 v9 v10 v11 : Value) (o : OpV) (ho : P [v0, v1, v2, v3, v4, v5, v6, v7, v8, v9, v10, v11] o) :
    ShOpsP P ((((((((((((w.setCell ⟨g, i * 12, none⟩ v0).setCell ⟨g, i * 12 + 1, none⟩ v1).setCell ⟨g, i * 12 + 2, none⟩ v2).setCell ⟨g, i * 12 + 3, none⟩ v3).setCell ⟨g, i * 12 + 4, none⟩ v4).setCell ⟨g, i * 12 + 5, none⟩ v5).setCell ⟨g, i * 12 + 6, none⟩ v6).setCell ⟨g, i * 12 + 7, none⟩ v7).setCell ⟨g, i * 12 + 8, none⟩ v8).setCell ⟨g, i * 12 + 9, none⟩ v9).setCell ⟨g, i * 12 + 10, none⟩ v10).setCell ⟨g, i * 12 + 11, none⟩ v11) base (.slice (some ⟨g, 0, none⟩) (l.set i o).length cap) (l.set i o) ∧ Frm w ((((((((((((w.setCell ⟨g, i * 12, none⟩ v0).setCell ⟨g, i * 12 + 1, none⟩ v1).setCell ⟨g, i * 12 + 2, none⟩ v2).setCell ⟨g, i * 12 + 3, none⟩ v3).setCell ⟨g, i * 12 + 4, none⟩ v4).setCell ⟨g, i * 12 + 5, none⟩ v5).setCell ⟨g, i * 12 + 6, none⟩ v6).setCell ⟨g, i * 12 + 7, none⟩ v7).setCell ⟨g, i * 12 + 8, none⟩ v8).setCell ⟨g, i * 12 + 9, none⟩ v9).setCell ⟨g, i * 12 + 10, none⟩ v10).setCell ⟨g, i * 12 + 11, none⟩ v11) [g] := by
  obtain ⟨Cs, h1, h2, h3⟩ := h
  have hl := h3.1
  have hall : ∀ D ∈ Cs, D.length = 12 := by
    intro D hD
    obtain ⟨j, hj, rfl⟩ := List.getElem_of_mem hD
    have := (h2 j (by omega)).1
    have e : Cs.getD j [] = Cs[j] := by simp [List.getD_eq_getElem?_getD, hj]
    rw [e] at this
    exact this
  refine ⟨⟨Cs.set i [v0, v1, v2, v3, v4, v5, v6, v7, v8, v9, v10, v11], by simp [h1], fun j hj => ?_, ?_⟩, ((((((((((((set_frm w g _ _).trans (set_frm _ _ _ _)).trans (set_frm _ _ _ _)).trans (set_frm _ _ _ _)).trans (set_frm _ _ _ _)).trans (set_frm _ _ _ _)).trans (set_frm _ _ _ _)).trans (set_frm _ _ _ _)).trans (set_frm _ _ _ _)).trans (set_frm _ _ _ _)).trans (set_frm _ _ _ _)).trans (set_frm _ _ _ _))⟩
  · have hj' : j < l.length := by simpa using hj
    by_cases hij : i = j
    · subst hij
      rw [List.getD_eq_getElem?_getD, List.getElem?_set, if_pos rfl, if_pos (by omega), List.getElem_set_self]
      exact ⟨rfl, ho⟩
    · rw [List.getD_eq_getElem?_getD, List.getElem?_set, if_neg hij, ← List.getD_eq_getElem?_getD, List.getElem_set_ne hij]
      exact h2 j hj'
  · rw [List.length_set, flat_set12 Cs i _ hall (by omega)]
    have t0 := (h3.stored (i * 12) v0).1
    have t1 := (t0.stored (i * 12 + 1) v1).1
    have t2 := (t1.stored (i * 12 + 2) v2).1
    have t3 := (t2.stored (i * 12 + 3) v3).1
    have t4 := (t3.stored (i * 12 + 4) v4).1
    have t5 := (t4.stored (i * 12 + 5) v5).1
    have t6 := (t5.stored (i * 12 + 6) v6).1
    have t7 := (t6.stored (i * 12 + 7) v7).1
    have t8 := (t7.stored (i * 12 + 8) v8).1
    have t9 := (t8.stored (i * 12 + 9) v9).1
    have t10 := (t9.stored (i * 12 + 10) v10).1
    have t11 := (t10.stored (i * 12 + 11) v11).1
    rw [← set_twelveL Cs.flatten (i * 12) v0 v1 v2 v3 v4 v5 v6 v7 v8 v9 v10 v11 (by omega)]
    exact t11
/-- The cells that it takes the place of. -/
theorem ShOpsP.cells {P : List Value → OpV → Prop} {w : World} {base g cap : Nat} {l : List OpV} (h : ShOpsP P w base (.slice (some ⟨g, 0, none⟩) l.length cap) l) (i : Nat) (hi : i < l.length) (j : Nat) (hj : j < 12) : (∃ y, w.cell? ⟨g, i * 12 + j, none⟩ = some y) ∧ w.frozen? ⟨g, i * 12 + j, none⟩ = false := by
  obtain ⟨Cs, h1, h2, h3⟩ := h
  have hl := h3.1
  exact ⟨⟨Cs.flatten[i * 12 + j]'(by omega), by rw [h3.cellAt (i * 12 + j) (by omega), List.getElem?_eq_getElem (by omega)]⟩, h3.frozenAt (i * 12 + j)⟩
end Go.Proofs.YtkmmhlimihkgfaaGreat

/- spec.Less and impl.Less answer what the plain order says; the law on Less. -/
namespace Go.Proofs.YtkmmhlimihkgfaaGreat
open Go.RowKit
set_option linter.unusedVariables false
set_option maxRecDepth 100000

def lessB (n r n' r' : Int) : Bool := decide (n < n') || (n == n' && decide (r < r'))

theorem lessB_cases (n r n' r' : Int) :
    (lessB n r n' r' = true ∧ decide (n < n') = true ∧ (n == n') = false ∧ n ≠ n') ∨
    (lessB n r n' r' = false ∧ decide (n < n') = false ∧ (n == n') = false ∧ n ≠ n') ∨
    (n = n' ∧ lessB n r n' r' = true ∧ decide (n < n') = false ∧ decide (r < r') = true ∧ r ≠ r') ∨
    (n = n' ∧ lessB n r n' r' = false ∧ decide (n < n') = false ∧ decide (r < r') = false) := by
  unfold lessB
  simp only [Bool.or_eq_true, Bool.or_eq_false_iff, Bool.and_eq_true, Bool.and_eq_false_iff, beq_iff_eq, beq_eq_false_iff_ne, decide_eq_true_eq, decide_eq_false_iff_not]
  omega

set_option maxHeartbeats 1600000 in
theorem lessS_any (w : World) (n r n' r' : Int) :
    Calls Tryz.prog 32 #[.agg #[.int .i64 n, .int .i64 r], .agg #[.int .i64 n', .int .i64 r']] w fun e w' => e = .returned (.bool (lessB n r n' r')) ∧ Below w.heap.size w w' := by
  have HB := hide (((Below.refl w.heap.size w).alloc (Nat.le_refl _) (.cells #[.int .i64 n, .int .i64 r] 25)).alloc (by simp) (.cells #[.int .i64 n', .int .i64 r'] 25))
  rcases lessB_cases n r n' r' with ⟨h, q1, q2, q3⟩ | ⟨h, q1, q2, q3⟩ | ⟨rfl, h, q1, q2, q3⟩ | ⟨rfl, h, q1, q2⟩
  all_goals
    have HE := hide h
    clear h
    go_enter Tryz.func32, Tryz.ntmps32
    go_wp2
    go_ret
    exact ⟨by rw [unhide HE]; rfl, unhide HB⟩

theorem Loc.two {w : World} {g : Nat} {v0 v1 : Value} {T : TypeId} (h : Loc w g #[v0, v1] T) : w.cell? ⟨g, 0, none⟩ = some v0 ∧ w.cell? ⟨g, 1, none⟩ = some v1 := ⟨h.cell 0, h.cell 1⟩

/-- Below 0, 0 or above 0. -/
def ordI (n r n' r' : Int) : Int := if n = n' ∧ r = r' then 0 else if lessB n r n' r' then -1 else 1
theorem ordI_lt (n r n' r' : Int) : decide (ordI n r n' r' < 0) = lessB n r n' r' := by
  unfold ordI
  split
  · rename_i h
    obtain ⟨rfl, rfl⟩ := h
    unfold lessB
    simp
  · split <;> simp [*]

set_option maxHeartbeats 1600000 in
theorem orderI_any (w : World) (n r n' r' : Int) :
    Calls Tryz.prog 121 #[.agg #[.int .i64 n, .int .i64 r], .agg #[.int .i64 n', .int .i64 r']] w fun e w' => e = .returned (.int .i64 (ordI n r n' r')) ∧ Below w.heap.size w w' := by
  have HB := hide (((Below.refl w.heap.size w).alloc (Nat.le_refl _) (.cells #[.int .i64 n, .int .i64 r] 25)).alloc (by simp) (.cells #[.int .i64 n', .int .i64 r'] 25))
  rcases lessB_cases n r n' r' with ⟨h, q1, q2, q3⟩ | ⟨h, q1, q2, q3⟩ | ⟨rfl, h, q1, q2, q3⟩ | ⟨rfl, h, q1, q2⟩
  · have HE := hide (show ordI n r n' r' = -1 by unfold ordI; rw [if_neg (fun k => q3 k.1), h]; rfl)
    clear h
    go_enter Tryz.func121, Tryz.ntmps121
    go_wp2
    go_ret
    exact ⟨by rw [unhide HE]; rfl, unhide HB⟩
  · have HE := hide (show ordI n r n' r' = 1 by unfold ordI; rw [if_neg (fun k => q3 k.1), h]; rfl)
    clear h
    go_enter Tryz.func121, Tryz.ntmps121
    go_wp2
    go_ret
    exact ⟨by rw [unhide HE]; rfl, unhide HB⟩
  · have HE := hide (show ordI n r n r' = -1 by unfold ordI; rw [if_neg (fun k => q3 k.2), h]; rfl)
    have q4 : (r == r') = false := by simpa using q3
    clear h
    go_enter Tryz.func121, Tryz.ntmps121
    go_wp2
    go_ret
    exact ⟨by rw [unhide HE]; rfl, unhide HB⟩
  · by_cases h2 : r = r'
    · subst h2
      have HE := hide (show ordI n r n r = 0 by unfold ordI; rw [if_pos ⟨rfl, rfl⟩])
      clear h
      go_enter Tryz.func121, Tryz.ntmps121
      go_wp2
      go_ret
      exact ⟨by rw [unhide HE]; rfl, unhide HB⟩
    · have HE := hide (show ordI n r n r' = 1 by unfold ordI; rw [if_neg (fun k => h2 k.2), h]; rfl)
      have q4 : (r == r') = false := by simpa using h2
      clear h
      go_enter Tryz.func121, Tryz.ntmps121
      go_wp2
      go_ret
      exact ⟨by rw [unhide HE]; rfl, unhide HB⟩

set_option maxHeartbeats 1600000 in
theorem lessI_any (w : World) (n r n' r' : Int) :
    Calls Tryz.prog 87 #[.agg #[.int .i64 n, .int .i64 r], .agg #[.int .i64 n', .int .i64 r']] w fun e w' => e = .returned (.bool (lessB n r n' r')) ∧ Below w.heap.size w w' := by
  have hB := (((Below.refl w.heap.size w).alloc (Nat.le_refl _) (.cells #[.int .i64 n, .int .i64 r] 25)).alloc (by simp) (.cells #[.int .i64 n', .int .i64 r'] 25))
  go_enter Tryz.func87, Tryz.ntmps87
  go_wp2_with fail
  refine (orderI_any _ n r n' r').mono ?_
  rintro e w1 ⟨rfl, hB1⟩
  have hB2 := bstep hB hB1
  have hl := ordI_lt n r n' r'
  generalize ordI n r n' r' = z at *
  go_wp2
  go_ret
  exact ⟨by rw [← hl]; rfl, hB2⟩

end Go.Proofs.YtkmmhlimihkgfaaGreat

/- Rows of operations: empty, or in a block. -/
namespace Go.Proofs.YtkmmhlimihkgfaaGreat
open Go.RowKit
set_option linter.unusedVariables false
set_option maxRecDepth 100000

theorem RdOps.cases {w : World} {v : Value} {l : List OpV} (h : RdOps w v l) : (l = [] ∧ ∃ a cap, v = .slice a 0 cap) ∨ (∃ b off cap, v = .slice (some ⟨b, off, none⟩) l.length cap ∧ l ≠ [] ∧ b < w.heap.size ∧ ∀ i (hi : i < l.length), ∃ C : List Value, C.length = 12 ∧ (∀ j, j < 12 → w.cell? ⟨b, off + i * 12 + j, none⟩ = C[j]?) ∧ RdOpC w C l[i]) := by
  obtain ⟨_, ⟨rfl, rfl⟩ | ⟨x, cap, rfl, hc, rfl⟩ | ⟨b, off, cap, rfl, g1, g2, g3, g4, g5⟩⟩ := h
  · exact .inl ⟨rfl, _, _, rfl⟩
  · exact .inl ⟨rfl, _, _, rfl⟩
  · exact .inr ⟨b, off, cap, rfl, g3, g4, g5⟩
/-- An operation of a row is one, and behind the one ahead of it. -/
def okAt (l : List OpV) (i : Nat) : Bool := if h : i < l.length then opB l[i] && (decide (i = 0) || lessB (l[i - 1]'(by omega)).atN (l[i - 1]'(by omega)).atR l[i].atN l[i].atR) else true
def opsB (l : List OpV) : Bool := decide (l.length ≤ 150) && (List.range l.length).all (okAt l)
theorem opsB_long {l : List OpV} (h : 150 < l.length) : opsB l = false := by unfold opsB; rw [decide_eq_false (by omega)]; rfl
theorem opsB_bad {l : List OpV} {k : Nat} (hk : k < l.length) (h : okAt l k = false) : opsB l = false := by
  unfold opsB
  rw [Bool.and_eq_false_iff]
  right
  rw [List.all_eq_false]
  exact ⟨k, by simpa using hk, by simp [h]⟩
theorem opsB_good {l : List OpV} (hn : l.length ≤ 150) (h : ∀ j, j < l.length → okAt l j = true) : opsB l = true := by
  unfold opsB
  rw [decide_eq_true hn, Bool.true_and, List.all_eq_true]
  intro j hj
  exact h j (by simpa using hj)
theorem okAt_no {l : List OpV} {k : Nat} (hk : k < l.length) (h : opB l[k] = false) : okAt l k = false := by unfold okAt; rw [dif_pos hk, h]; rfl
theorem okAt_0 {l : List OpV} (hk : 0 < l.length) (h : opB l[0] = true) : okAt l 0 = true := by unfold okAt; rw [dif_pos hk, h]; rfl
theorem okAt_s {l : List OpV} {j : Nat} (hk : j + 1 < l.length) (h : opB l[j + 1] = true) : okAt l (j + 1) = lessB (l[j]'(by omega)).atN (l[j]'(by omega)).atR l[j + 1].atN l[j + 1].atR := by
  unfold okAt
  rw [dif_pos hk, h, Bool.true_and]
  rw [decide_eq_false (by omega), Bool.false_or]
  rfl
end Go.Proofs.YtkmmhlimihkgfaaGreat

/- Where an operation's place is among sorted ones. Plain mathematics. -/
namespace Go.Proofs.YtkmmhlimihkgfaaGreat
open Go.RowKit
set_option linter.unusedVariables false

theorem less_trans {a b c d e f : Int} (h : lessB a b c d = true) (k : lessB c d e f = true) : lessB a b e f = true := by
  unfold lessB at *
  simp only [Bool.or_eq_true, decide_eq_true_eq, Bool.and_eq_true, beq_iff_eq] at *
  omega
theorem less_irr (a b : Int) : lessB a b a b = false := by unfold lessB; simp
theorem less_anti {a b c d : Int} (h : lessB a b c d = true) : lessB c d a b = false := by
  cases k : lessB c d a b with
  | false => rfl
  | true => have := less_trans h k; rw [less_irr] at this; cases this
/-- Ahead of the stamp (n, r). -/
def ahead (n r : Int) (p : OpV) : Bool := lessB p.atN p.atR n r
def posO (l : List OpV) (n r : Int) : Nat := (l.takeWhile (ahead n r)).length
theorem opsB_parts {l : List OpV} (h : opsB l = true) : l.length ≤ 150 ∧ ∀ j, j < l.length → okAt l j = true := by
  unfold opsB at h
  rw [Bool.and_eq_true, decide_eq_true_eq, List.all_eq_true] at h
  exact ⟨h.1, fun j hj => h.2 j (by simpa using hj)⟩
theorem opsB_each {l : List OpV} (h : opsB l = true) {j : Nat} (hj : j < l.length) : opB l[j] = true := by
  have := (opsB_parts h).2 j hj
  unfold okAt at this
  rw [dif_pos hj, Bool.and_eq_true] at this
  exact this.1
theorem opsB_next {l : List OpV} (h : opsB l = true) {j : Nat} (hj : j + 1 < l.length) : lessB l[j].atN l[j].atR l[j + 1].atN l[j + 1].atR = true := by
  have h1 := (opsB_parts h).2 (j + 1) hj
  rw [okAt_s hj (opsB_each h hj)] at h1
  exact h1
theorem opsB_sorted {l : List OpV} (h : opsB l = true) {i j : Nat} (hij : i < j) (hj : j < l.length) : lessB l[i].atN l[i].atR l[j].atN l[j].atR = true := by
  obtain ⟨d, rfl⟩ : ∃ d, j = i + 1 + d := ⟨j - i - 1, by omega⟩
  induction d with
  | zero => exact opsB_next h hj
  | succ d ih => exact less_trans (ih (by omega) (by omega)) (opsB_next h (j := i + 1 + d) hj)
/-- What is ahead of a stamp is a head of a sorted row. -/
theorem ahead_down {l : List OpV} (h : opsB l = true) {n r : Int} {i j : Nat} (hij : i ≤ j) (hj : j < l.length) (ha : ahead n r l[j] = true) : ahead n r l[i] = true := by
  rcases Nat.lt_or_eq_of_le hij with hlt | rfl
  · exact less_trans (opsB_sorted h hlt hj) ha
  · exact ha
theorem posO_of {l : List OpV} {n r : Int} {i : Nat} (hi : i ≤ l.length) (h1 : ∀ k (hk : k < l.length), k < i → ahead n r l[k] = true) (h2 : ∀ hk : i < l.length, ahead n r l[i] = false) : posO l n r = i := by
  unfold posO
  induction l generalizing i with
  | nil => simp at hi; subst hi; rfl
  | cons p l ih =>
    cases i with
    | zero =>
      have := h2 (by simp)
      simp only [List.getElem_cons_zero] at this
      rw [List.takeWhile_cons, if_neg (by rw [this]; decide)]
      rfl
    | succ i =>
      have h0 := h1 0 (by simp) (by omega)
      simp only [List.getElem_cons_zero] at h0
      rw [List.takeWhile_cons, if_pos h0, List.length_cons]
      rw [ih (i := i) (by simpa using hi) (fun k hk hki => by have := h1 (k + 1) (by simpa using hk) (by omega); simpa using this) (fun hk => by have := h2 (by simpa using hk); simpa using this)]
theorem posO_le (l : List OpV) (n r : Int) : posO l n r ≤ l.length := by
  unfold posO
  exact (List.takeWhile_prefix _).length_le
/-- An operation with this stamp stands at its place. -/
def there (l : List OpV) (n r : Int) : Bool := if h : posO l n r < l.length then decide (l[posO l n r].atN = n ∧ l[posO l n r].atR = r) else false
end Go.Proofs.YtkmmhlimihkgfaaGreat

/- A region that draws its order, whose operations only read and whose callees leave what was there as it was: one walk, in the order of the text. No program. -/
namespace Go.Proofs.YtkmmhlimihkgfaaGreat
open Go.RowKit
set_option linter.unusedVariables false

/-- A world in which all that was there in w is as it was. -/
structure Gr (w : World) where
  W : World
  h : Below w.heap.size w W
theorem wp_region_gr {P : Program} {id : Nat} {Q : Exit → Act → World → Prop} {a : Act} {w : World} {l : List Oper} (hm : P.follows .mixedOrders = true) (hB : Region.lexB .any l.toArray = true)
    (h : wpQuiet P l.toArray (fun w' => ∃ p : Gr w, w' = p.W) (fun a' => ∀ w', (∃ p : Gr w, w' = p.W) → Q .normal a' w') l a) : (Code.region id l.toArray true).wp P Q a w :=
  wp_region_quiet (C := fun w' => ∃ p : Gr w, w' = p.W) hm hB ⟨⟨w.drew, (Below.refl _ _).drew⟩, rfl⟩ (by simpa using h)
theorem Gr.cell {w : World} {a : Addr} {v : Value} (hb : a.block < w.heap.size) (h : w.cell? a = some v) (p : Gr w) : p.W.cell? a = some v := (p.h.cell hb).trans h
/-- A callee's contract, met in such a world. -/
theorem calls_gr {P : Program} {f : FuncId} {args : Array Value} {w : World} {p : Gr w} {v : Value} (h : Calls P f args p.W fun e w' => e = .returned v ∧ Below p.W.heap.size p.W w') : Calls P f args p.W fun e w'' => e = .returned v ∧ ∃ q : Gr w, w'' = q.W :=
  h.mono fun _ _ ⟨he, hB⟩ => ⟨he, ⟨⟨_, bstep p.h hB⟩, rfl⟩⟩
end Go.Proofs.YtkmmhlimihkgfaaGreat

/- Small laws of the walk. No program. -/
namespace Go.Proofs.YtkmmhlimihkgfaaGreat
open Go.RowKit
set_option linter.unusedVariables false

theorem calls_via {P : Program} {f : FuncId} {args : Array Value} {w : World} {R : Ending → World → Prop} (h : ∀ Q : Ending → World → Prop, Hid (∀ e w', R e w' → Q e w') → Calls P f args w Q) : Calls P f args w R := h R (hide fun _ _ h => h)
theorem setGO (w : World) (g j : Nat) (v : Value) : w.grownBy (w.setCell ⟨g, j, none⟩ v) (some g) := ⟨rfl, rfl, rfl, by simp, fun k _ hk => heap_setCell_other w ⟨g, j, none⟩ k v (fun e => hk (by simp [e]))⟩
theorem set_twelve {w : World} {g : Nat} {T : TypeId} {u0 u1 u2 u3 u4 u5 u6 u7 u8 u9 u10 u11 : Value} (h : Loc w g #[u0, u1, u2, u3, u4, u5, u6, u7, u8, u9, u10, u11] T) (v0 v1 v2 v3 v4 v5 v6 v7 v8 v9 v10 v11 : Value) : Loc ((((((((((((w.setCell ⟨g, 0, none⟩ v0).setCell ⟨g, 1, none⟩ v1).setCell ⟨g, 2, none⟩ v2).setCell ⟨g, 3, none⟩ v3).setCell ⟨g, 4, none⟩ v4).setCell ⟨g, 5, none⟩ v5).setCell ⟨g, 6, none⟩ v6).setCell ⟨g, 7, none⟩ v7).setCell ⟨g, 8, none⟩ v8).setCell ⟨g, 9, none⟩ v9).setCell ⟨g, 10, none⟩ v10).setCell ⟨g, 11, none⟩ v11) g #[v0, v1, v2, v3, v4, v5, v6, v7, v8, v9, v10, v11] T := by
  have h0 : Loc (w.setCell ⟨g, 0, none⟩ v0) g #[v0, u1, u2, u3, u4, u5, u6, u7, u8, u9, u10, u11] T := h.set 0 v0
  have h1 : Loc ((w.setCell ⟨g, 0, none⟩ v0).setCell ⟨g, 1, none⟩ v1) g #[v0, v1, u2, u3, u4, u5, u6, u7, u8, u9, u10, u11] T := h0.set 1 v1
  have h2 : Loc (((w.setCell ⟨g, 0, none⟩ v0).setCell ⟨g, 1, none⟩ v1).setCell ⟨g, 2, none⟩ v2) g #[v0, v1, v2, u3, u4, u5, u6, u7, u8, u9, u10, u11] T := h1.set 2 v2
  have h3 : Loc ((((w.setCell ⟨g, 0, none⟩ v0).setCell ⟨g, 1, none⟩ v1).setCell ⟨g, 2, none⟩ v2).setCell ⟨g, 3, none⟩ v3) g #[v0, v1, v2, v3, u4, u5, u6, u7, u8, u9, u10, u11] T := h2.set 3 v3
  have h4 : Loc (((((w.setCell ⟨g, 0, none⟩ v0).setCell ⟨g, 1, none⟩ v1).setCell ⟨g, 2, none⟩ v2).setCell ⟨g, 3, none⟩ v3).setCell ⟨g, 4, none⟩ v4) g #[v0, v1, v2, v3, v4, u5, u6, u7, u8, u9, u10, u11] T := h3.set 4 v4
  have h5 : Loc ((((((w.setCell ⟨g, 0, none⟩ v0).setCell ⟨g, 1, none⟩ v1).setCell ⟨g, 2, none⟩ v2).setCell ⟨g, 3, none⟩ v3).setCell ⟨g, 4, none⟩ v4).setCell ⟨g, 5, none⟩ v5) g #[v0, v1, v2, v3, v4, v5, u6, u7, u8, u9, u10, u11] T := h4.set 5 v5
  have h6 : Loc (((((((w.setCell ⟨g, 0, none⟩ v0).setCell ⟨g, 1, none⟩ v1).setCell ⟨g, 2, none⟩ v2).setCell ⟨g, 3, none⟩ v3).setCell ⟨g, 4, none⟩ v4).setCell ⟨g, 5, none⟩ v5).setCell ⟨g, 6, none⟩ v6) g #[v0, v1, v2, v3, v4, v5, v6, u7, u8, u9, u10, u11] T := h5.set 6 v6
  have h7 : Loc ((((((((w.setCell ⟨g, 0, none⟩ v0).setCell ⟨g, 1, none⟩ v1).setCell ⟨g, 2, none⟩ v2).setCell ⟨g, 3, none⟩ v3).setCell ⟨g, 4, none⟩ v4).setCell ⟨g, 5, none⟩ v5).setCell ⟨g, 6, none⟩ v6).setCell ⟨g, 7, none⟩ v7) g #[v0, v1, v2, v3, v4, v5, v6, v7, u8, u9, u10, u11] T := h6.set 7 v7
  have h8 : Loc (((((((((w.setCell ⟨g, 0, none⟩ v0).setCell ⟨g, 1, none⟩ v1).setCell ⟨g, 2, none⟩ v2).setCell ⟨g, 3, none⟩ v3).setCell ⟨g, 4, none⟩ v4).setCell ⟨g, 5, none⟩ v5).setCell ⟨g, 6, none⟩ v6).setCell ⟨g, 7, none⟩ v7).setCell ⟨g, 8, none⟩ v8) g #[v0, v1, v2, v3, v4, v5, v6, v7, v8, u9, u10, u11] T := h7.set 8 v8
  have h9 : Loc ((((((((((w.setCell ⟨g, 0, none⟩ v0).setCell ⟨g, 1, none⟩ v1).setCell ⟨g, 2, none⟩ v2).setCell ⟨g, 3, none⟩ v3).setCell ⟨g, 4, none⟩ v4).setCell ⟨g, 5, none⟩ v5).setCell ⟨g, 6, none⟩ v6).setCell ⟨g, 7, none⟩ v7).setCell ⟨g, 8, none⟩ v8).setCell ⟨g, 9, none⟩ v9) g #[v0, v1, v2, v3, v4, v5, v6, v7, v8, v9, u10, u11] T := h8.set 9 v9
  have h10 : Loc (((((((((((w.setCell ⟨g, 0, none⟩ v0).setCell ⟨g, 1, none⟩ v1).setCell ⟨g, 2, none⟩ v2).setCell ⟨g, 3, none⟩ v3).setCell ⟨g, 4, none⟩ v4).setCell ⟨g, 5, none⟩ v5).setCell ⟨g, 6, none⟩ v6).setCell ⟨g, 7, none⟩ v7).setCell ⟨g, 8, none⟩ v8).setCell ⟨g, 9, none⟩ v9).setCell ⟨g, 10, none⟩ v10) g #[v0, v1, v2, v3, v4, v5, v6, v7, v8, v9, v10, u11] T := h9.set 10 v10
  have h11 : Loc ((((((((((((w.setCell ⟨g, 0, none⟩ v0).setCell ⟨g, 1, none⟩ v1).setCell ⟨g, 2, none⟩ v2).setCell ⟨g, 3, none⟩ v3).setCell ⟨g, 4, none⟩ v4).setCell ⟨g, 5, none⟩ v5).setCell ⟨g, 6, none⟩ v6).setCell ⟨g, 7, none⟩ v7).setCell ⟨g, 8, none⟩ v8).setCell ⟨g, 9, none⟩ v9).setCell ⟨g, 10, none⟩ v10).setCell ⟨g, 11, none⟩ v11) g #[v0, v1, v2, v3, v4, v5, v6, v7, v8, v9, v10, v11] T := h10.set 11 v11
  exact h11
theorem grow_twelve (w : World) (g : Nat) (v0 v1 v2 v3 v4 v5 v6 v7 v8 v9 v10 v11 : Value) : w.grownBy ((((((((((((w.setCell ⟨g, 0, none⟩ v0).setCell ⟨g, 1, none⟩ v1).setCell ⟨g, 2, none⟩ v2).setCell ⟨g, 3, none⟩ v3).setCell ⟨g, 4, none⟩ v4).setCell ⟨g, 5, none⟩ v5).setCell ⟨g, 6, none⟩ v6).setCell ⟨g, 7, none⟩ v7).setCell ⟨g, 8, none⟩ v8).setCell ⟨g, 9, none⟩ v9).setCell ⟨g, 10, none⟩ v10).setCell ⟨g, 11, none⟩ v11) (some g) := by
  have h0 : w.grownBy (w.setCell ⟨g, 0, none⟩ v0) (some g) := setGO w g 0 v0
  have h1 : w.grownBy ((w.setCell ⟨g, 0, none⟩ v0).setCell ⟨g, 1, none⟩ v1) (some g) := grown_trans h0 (setGO _ g 1 v1)
  have h2 : w.grownBy (((w.setCell ⟨g, 0, none⟩ v0).setCell ⟨g, 1, none⟩ v1).setCell ⟨g, 2, none⟩ v2) (some g) := grown_trans h1 (setGO _ g 2 v2)
  have h3 : w.grownBy ((((w.setCell ⟨g, 0, none⟩ v0).setCell ⟨g, 1, none⟩ v1).setCell ⟨g, 2, none⟩ v2).setCell ⟨g, 3, none⟩ v3) (some g) := grown_trans h2 (setGO _ g 3 v3)
  have h4 : w.grownBy (((((w.setCell ⟨g, 0, none⟩ v0).setCell ⟨g, 1, none⟩ v1).setCell ⟨g, 2, none⟩ v2).setCell ⟨g, 3, none⟩ v3).setCell ⟨g, 4, none⟩ v4) (some g) := grown_trans h3 (setGO _ g 4 v4)
  have h5 : w.grownBy ((((((w.setCell ⟨g, 0, none⟩ v0).setCell ⟨g, 1, none⟩ v1).setCell ⟨g, 2, none⟩ v2).setCell ⟨g, 3, none⟩ v3).setCell ⟨g, 4, none⟩ v4).setCell ⟨g, 5, none⟩ v5) (some g) := grown_trans h4 (setGO _ g 5 v5)
  have h6 : w.grownBy (((((((w.setCell ⟨g, 0, none⟩ v0).setCell ⟨g, 1, none⟩ v1).setCell ⟨g, 2, none⟩ v2).setCell ⟨g, 3, none⟩ v3).setCell ⟨g, 4, none⟩ v4).setCell ⟨g, 5, none⟩ v5).setCell ⟨g, 6, none⟩ v6) (some g) := grown_trans h5 (setGO _ g 6 v6)
  have h7 : w.grownBy ((((((((w.setCell ⟨g, 0, none⟩ v0).setCell ⟨g, 1, none⟩ v1).setCell ⟨g, 2, none⟩ v2).setCell ⟨g, 3, none⟩ v3).setCell ⟨g, 4, none⟩ v4).setCell ⟨g, 5, none⟩ v5).setCell ⟨g, 6, none⟩ v6).setCell ⟨g, 7, none⟩ v7) (some g) := grown_trans h6 (setGO _ g 7 v7)
  have h8 : w.grownBy (((((((((w.setCell ⟨g, 0, none⟩ v0).setCell ⟨g, 1, none⟩ v1).setCell ⟨g, 2, none⟩ v2).setCell ⟨g, 3, none⟩ v3).setCell ⟨g, 4, none⟩ v4).setCell ⟨g, 5, none⟩ v5).setCell ⟨g, 6, none⟩ v6).setCell ⟨g, 7, none⟩ v7).setCell ⟨g, 8, none⟩ v8) (some g) := grown_trans h7 (setGO _ g 8 v8)
  have h9 : w.grownBy ((((((((((w.setCell ⟨g, 0, none⟩ v0).setCell ⟨g, 1, none⟩ v1).setCell ⟨g, 2, none⟩ v2).setCell ⟨g, 3, none⟩ v3).setCell ⟨g, 4, none⟩ v4).setCell ⟨g, 5, none⟩ v5).setCell ⟨g, 6, none⟩ v6).setCell ⟨g, 7, none⟩ v7).setCell ⟨g, 8, none⟩ v8).setCell ⟨g, 9, none⟩ v9) (some g) := grown_trans h8 (setGO _ g 9 v9)
  have h10 : w.grownBy (((((((((((w.setCell ⟨g, 0, none⟩ v0).setCell ⟨g, 1, none⟩ v1).setCell ⟨g, 2, none⟩ v2).setCell ⟨g, 3, none⟩ v3).setCell ⟨g, 4, none⟩ v4).setCell ⟨g, 5, none⟩ v5).setCell ⟨g, 6, none⟩ v6).setCell ⟨g, 7, none⟩ v7).setCell ⟨g, 8, none⟩ v8).setCell ⟨g, 9, none⟩ v9).setCell ⟨g, 10, none⟩ v10) (some g) := grown_trans h9 (setGO _ g 10 v10)
  have h11 : w.grownBy ((((((((((((w.setCell ⟨g, 0, none⟩ v0).setCell ⟨g, 1, none⟩ v1).setCell ⟨g, 2, none⟩ v2).setCell ⟨g, 3, none⟩ v3).setCell ⟨g, 4, none⟩ v4).setCell ⟨g, 5, none⟩ v5).setCell ⟨g, 6, none⟩ v6).setCell ⟨g, 7, none⟩ v7).setCell ⟨g, 8, none⟩ v8).setCell ⟨g, 9, none⟩ v9).setCell ⟨g, 10, none⟩ v10).setCell ⟨g, 11, none⟩ v11) (some g) := grown_trans h10 (setGO _ g 11 v11)
  exact h11
end Go.Proofs.YtkmmhlimihkgfaaGreat
