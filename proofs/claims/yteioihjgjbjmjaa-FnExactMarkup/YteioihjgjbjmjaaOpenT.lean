/- An argument of a law that can be read as data is bytes, attributes, a tree: what the data's readings open to. No condition. -/
import Derived.Test.YteioihjgjbjmjaaTree
import Derived.Test.YteioihjgjbjmjaaProg
import Derived.ChangeArms
import Derived.ChangeSlices
import Derived.WideShapes
namespace Go.Proofs.Yteioihjgjbjmjaa
open Go.RowKit Go.ChangeShapes
set_option linter.unusedVariables false
set_option maxRecDepth 100000

variable {H : Type} {enc : TypeId × Value → H} {W : World} {held : Bool}

theorem open_bytes {fuel : Nat} {cs : List Value} {x : DataW H × List MemPlace} (h : DataW.trod enc Try.prog W 0 (fun _ => true) held fuel 22 cs = some x) :
    ∃ v l, cs = [v] ∧ Byt W v l := by
  rcases open_ints Try.underlying22 Try.underlying5 (by kernel_rfl) h with ⟨hcs, _⟩ | ⟨a, len, cap, zs, hcs, _, hl, hm, hz, _, hcell, hwz⟩
  · exact ⟨_, _, hcs, byt_of_row (zs := []) (.inl ⟨rfl, rfl, rfl, rfl⟩)⟩
  · exact ⟨_, _, hcs, byt_of_row (.inr ⟨_, rfl, hl, hm, by simpa using hz, hcell, hwz⟩)⟩

theorem list_of {α : Type} {Q : Nat → α → Prop} : ∀ n : Nat, (∀ i, i < n → ∃ a, Q i a) → ∃ l : List α, l.length = n ∧ ∀ i (hi : i < l.length), Q i l[i]
  | 0, _ => ⟨[], rfl, fun i hi => by cases hi⟩
  | n + 1, h => by
    obtain ⟨l, hl, hq⟩ := list_of n (fun i hi => h i (by omega))
    obtain ⟨a, ha⟩ := h n (by omega)
    refine ⟨l ++ [a], by simp [hl], fun i hi => ?_⟩
    by_cases hi' : i < l.length
    · rw [List.getElem_append_left hi']; exact hq i hi'
    · have : i = l.length := by simp at hi; omega
      subst this
      simp only [List.getElem_append_right (Nat.le_refl _), Nat.sub_self, List.getElem_cons_zero]
      rw [hl]; exact ha

theorem open_elems {α : Type} {t e : TypeId} {sz fuel : Nat} {cs : List Value} {x : DataW H × List MemPlace} {R : List Value → α → Prop} (ht : Try.prog.underlying t = some (.slice e)) (hc : Try.prog.cellsOf e = sz) (hs : 0 < sz)
    (hR : ∀ n C y, fuel = n + 1 → DataW.trod enc Try.prog W 0 (fun _ => true) held n e C = some y → ∃ a : α, R C a)
    (h : DataW.trod enc Try.prog W 0 (fun _ => true) held fuel t cs = some x) : ∃ v l, cs = [v] ∧ Elems W sz v l R := by
  rcases DataW.trod_slice ht h with ⟨rfl, _⟩ | ⟨a, len, cap, elems, rest, n, hf, rfl, _, _, hl, hm, hlen, hel, _, _⟩
  · exact ⟨_, [], rfl, by simp [maxLen], .inl ⟨rfl, rfl⟩⟩
  rw [hc] at hel
  have hall : ∀ i, i < len → ∃ b : α, ∃ C : List Value, C.length = sz ∧ (∀ j, j < sz → W.cell? ((a.add (i * sz)).add j) = C[j]?) ∧ R C b := by
    intro i hi
    have h1 := hel i hi
    rw [List.getElem?_eq_getElem (by omega)] at h1
    obtain ⟨C, hC, hy⟩ := Option.bind_eq_some_iff.1 h1
    obtain ⟨_, hCl, hcell⟩ := World.cells?_some hC
    obtain ⟨b, hb⟩ := hR n C _ hf hy
    exact ⟨b, C, hCl, hcell, hb⟩
  obtain ⟨l, hll, hq⟩ := list_of (Q := fun i b => ∃ C : List Value, C.length = sz ∧ (∀ j, j < sz → W.cell? ((a.add (i * sz)).add j) = C[j]?) ∧ R C b) len hall
  refine ⟨_, l, rfl, by omega, ?_⟩
  by_cases h0 : len = 0
  · have hl0 : l = [] := List.eq_nil_of_length_eq_zero (by omega)
    subst h0
    exact .inr (.inl ⟨a, cap, rfl, hm, hl0⟩)
  · obtain ⟨b, off, spot⟩ := a
    obtain ⟨C, hCl, hcell, _⟩ := hq 0 (by omega)
    have hc0 := hcell 0 hs
    rw [List.getElem?_eq_getElem (by omega)] at hc0
    have hspot : spot = none := by simpa [Addr.add] using World.cell?_spot hc0
    subst hspot
    refine .inr (.inr ⟨b, off, cap, by rw [hll], by omega, hm, fun h => by subst h; simp at hll; omega, ?_, fun i hi => ?_⟩)
    · have := lt_of_cell hc0; simpa [Addr.add] using this
    · obtain ⟨C, hCl, hcell, hr⟩ := hq i hi
      refine ⟨C, hCl, fun j hj => ?_, hr⟩
      have := hcell j hj
      rw [add_plain, add_plain] at this
      exact this

theorem some_at {α : Type} {l : List α} {n i : Nat} (h : l.length = n) (hi : i < n) : ∃ y, l[i]? = some y := ⟨l[i]'(by omega), List.getElem?_eq_getElem (by omega)⟩

theorem open_attr {fuel : Nat} {cs : List Value} {x : DataW H × List MemPlace} (h : DataW.trod enc Try.prog W 0 (fun _ => true) held fuel 85 cs = some x) : ∃ a, RdAttr W cs a := by
  obtain ⟨xs, n, _, _, hlen, hxs, hf⟩ := DataW.trod_struct Try.underlying85 h
  have hlen2 : cs.length = 2 := hlen.trans (by kernel_rfl)
  match cs, hlen2 with
  | [c0, c1], _ =>
    obtain ⟨y0, e0⟩ := some_at (i := 0) hxs (by simp)
    obtain ⟨y1, e1⟩ := some_at (i := 1) hxs (by simp)
    have h0 : DataW.trod enc Try.prog W 0 (fun _ => true) held n 22 (([c0, c1].drop 0).take (Try.prog.cellsOf 22)) = some y0 := (hf 0 _ rfl).trans e0
    have h1 : DataW.trod enc Try.prog W 0 (fun _ => true) held n 22 (([c0, c1].drop 1).take (Try.prog.cellsOf 22)) = some y1 := (hf 1 _ rfl).trans e1
    have k1 : Try.prog.cellsOf 22 = 1 := by kernel_rfl
    simp only [k1, List.drop, List.take] at h0 h1
    obtain ⟨v0, l0, g0, b0⟩ := open_bytes h0
    obtain ⟨v1, l1, g1, b1⟩ := open_bytes h1
    simp at g0 g1
    subst g0; subst g1
    exact ⟨(l0, l1), _, _, rfl, b0, b1⟩

theorem open_node : ∀ (m : Nat) {fuel : Nat} {cs : List Value} {x : DataW H × List MemPlace}, fuel ≤ 2 * m → DataW.trod enc Try.prog W 0 (fun _ => true) held fuel 26 cs = some x → ∃ t, RdNode m W cs t
  | 0, fuel, cs, x, hm, h => by
    obtain rfl : fuel = 0 := by omega
    simp [DataW.trod] at h
  | m + 1, fuel, cs, x, hm, h => by
    obtain ⟨xs, n, hn, _, hlen, hxs, hf⟩ := DataW.trod_struct Try.underlying26 h
    have hlen5 : cs.length = 5 := hlen.trans (by kernel_rfl)
    match cs, hlen5 with
    | [c0, c1, c2, c3, c4], _ =>
      obtain ⟨y0, e0⟩ := some_at (i := 0) hxs (by simp)
      obtain ⟨y1, e1⟩ := some_at (i := 1) hxs (by simp)
      obtain ⟨y2, e2⟩ := some_at (i := 2) hxs (by simp)
      obtain ⟨y3, e3⟩ := some_at (i := 3) hxs (by simp)
      obtain ⟨y4, e4⟩ := some_at (i := 4) hxs (by simp)
      have h0 : DataW.trod enc Try.prog W 0 (fun _ => true) held n 3 (([c0, c1, c2, c3, c4].drop 0).take (Try.prog.cellsOf 3)) = some y0 := (hf 0 _ rfl).trans e0
      have h1 : DataW.trod enc Try.prog W 0 (fun _ => true) held n 22 (([c0, c1, c2, c3, c4].drop 1).take (Try.prog.cellsOf 22)) = some y1 := (hf 1 _ rfl).trans e1
      have h2 : DataW.trod enc Try.prog W 0 (fun _ => true) held n 22 (([c0, c1, c2, c3, c4].drop 2).take (Try.prog.cellsOf 22)) = some y2 := (hf 2 _ rfl).trans e2
      have h3 : DataW.trod enc Try.prog W 0 (fun _ => true) held n 23 (([c0, c1, c2, c3, c4].drop 3).take (Try.prog.cellsOf 23)) = some y3 := (hf 3 _ rfl).trans e3
      have h4 : DataW.trod enc Try.prog W 0 (fun _ => true) held n 24 (([c0, c1, c2, c3, c4].drop 4).take (Try.prog.cellsOf 24)) = some y4 := (hf 4 _ rfl).trans e4
      have ki : Try.prog.cellsOf 3 = 1 := by kernel_rfl
      have k1 : Try.prog.cellsOf 22 = 1 := by kernel_rfl
      have k2 : Try.prog.cellsOf 23 = 1 := by kernel_rfl
      have k3 : Try.prog.cellsOf 24 = 1 := by kernel_rfl
      simp only [ki, k1, k2, k3, List.drop, List.take] at h0 h1 h2 h3 h4
      obtain ⟨k, g0, _, hk⟩ := DataW.trod_int Try.underlying3 h0
      obtain ⟨v1, l1, g1, b1⟩ := open_bytes h1
      obtain ⟨v2, l2, g2, b2⟩ := open_bytes h2
      obtain ⟨v3, l3, g3, b3⟩ := open_elems (sz := 2) Try.underlying23 (by kernel_rfl) (by omega) (fun n C y _ hy => open_attr hy) h3
      obtain ⟨v4, l4, g4, b4⟩ := open_elems (sz := 5) Try.underlying24 (by kernel_rfl) (by omega) (fun n' C y hn' hy => open_node m (by omega) hy) h4
      simp at g0 g1 g2 g3 g4
      subst g0; subst g1; subst g2; subst g3; subst g4
      obtain ⟨q1, q2⟩ := bounds_i64 hk
      exact ⟨(⟨k, l1, l2, l3, l4⟩ : Nd (Tr m)), _, _, _, _, rfl, q1, q2, b1, b2, b3, b4⟩

/-- An argument that is a row of bytes. -/
theorem arg_bytes {r : Reach} {base : Nat} {v : Value} {d : DataW H} {p : List MemPlace} (hv : Value.okWide Try.prog W r base 22 v) (h : DataW.Trod enc Try.prog W 0 (fun _ => true) held 22 v d p) : ∃ l, Byt W v l := by
  obtain ⟨a, len, cap, rfl⟩ := WideShapes.okWide_slice Try.underlying22 hv
  obtain ⟨fuel, hf⟩ := h
  obtain ⟨u, l, hu, hb⟩ := open_bytes hf
  simp [Value.cells] at hu
  subst hu
  exact ⟨l, hb⟩

/-- An argument that is a node. -/
theorem arg_node {r : Reach} {base : Nat} {v : Value} {x : DataW H} {p : List MemPlace} (hv : Value.okWide Try.prog W r base 26 v) (h : DataW.Trod enc Try.prog W 0 (fun _ => true) held 26 v x p) :
    ∃ (a b c d e : Value) (m : Nat) (t : Tr (m + 1)), v = .agg #[a, b, c, d, e] ∧ RdNode (m + 1) W [a, b, c, d, e] t := by
  obtain ⟨cs, rfl, hsz⟩ := WideShapes.okWide_struct Try.underlying26 hv
  obtain ⟨fuel, hf⟩ := h
  have h5 : Try.prog.cellsOf 26 = 5 := by kernel_rfl
  rw [h5] at hsz
  obtain ⟨t, ht⟩ := open_node (fuel + 1) (by omega) hf
  obtain ⟨l⟩ := cs
  match l, hsz with
  | [a, b, c, d, e], _ => exact ⟨a, b, c, d, e, fuel, t, rfl, ht⟩
/-- An argument that is a node: a tree at every depth from some depth on. -/
theorem arg_nodeM {r : Reach} {base : Nat} {v : Value} {x : DataW H} {p : List MemPlace} (hv : Value.okWide Try.prog W r base 26 v) (h : DataW.Trod enc Try.prog W 0 (fun _ => true) held 26 v x p) :
    ∃ (a b c d e : Value) (M : Nat), v = .agg #[a, b, c, d, e] ∧ ∀ m, M ≤ m → ∃ t : Tr (m + 1), RdNode (m + 1) W [a, b, c, d, e] t := by
  obtain ⟨cs, rfl, hsz⟩ := WideShapes.okWide_struct Try.underlying26 hv
  obtain ⟨fuel, hf⟩ := h
  have h5 : Try.prog.cellsOf 26 = 5 := by kernel_rfl
  rw [h5] at hsz
  obtain ⟨l⟩ := cs
  match l, hsz with
  | [a, b, c, d, e], _ => exact ⟨a, b, c, d, e, fuel, rfl, fun m hm => open_node (m + 1) (by omega) hf⟩
end Go.Proofs.Yteioihjgjbjmjaa
