/- An argument of a law that can be read as data is an operation: what the data's reading opens to. No condition. -/
import Derived.Test.YtcabolcfoijglaaOpenO
import Derived.Test.YtcabolcfoijglaaOpS
namespace Go.Proofs.Ytcabolcfoijglaa
open Go.RowKit Go.ChangeShapes
set_option linter.unusedVariables false
set_option maxRecDepth 100000

variable {H : Type} {enc : TypeId × Value → H} {W : World} {held : Bool}

theorem open_op {fuel : Nat} {cs : List Value} {x : DataW H × List MemPlace} (h : DataW.trod enc Try.prog W 0 (fun _ => true) held fuel 82 cs = some x) : ∃ o, RdOp W (.agg cs.toArray) o := by
  obtain ⟨xs, n, _, _, hlen, hxs, hf⟩ := DataW.trod_struct Try.underlying82 h
  have hlen2 : cs.length = 12 := hlen.trans (by kernel_rfl)
  match cs, hlen2 with
  | [c0, c1, c2, c3, c4, c5, c6, c7, c8, c9, c10, c11], _ =>
    obtain ⟨y0, e0⟩ := some_atO (i := 0) hxs (by simp)
    obtain ⟨y1, e1⟩ := some_atO (i := 1) hxs (by simp)
    obtain ⟨y2, e2⟩ := some_atO (i := 2) hxs (by simp)
    obtain ⟨y3, e3⟩ := some_atO (i := 3) hxs (by simp)
    obtain ⟨y4, e4⟩ := some_atO (i := 4) hxs (by simp)
    obtain ⟨y5, e5⟩ := some_atO (i := 5) hxs (by simp)
    obtain ⟨y6, e6⟩ := some_atO (i := 6) hxs (by simp)
    obtain ⟨y7, e7⟩ := some_atO (i := 7) hxs (by simp)
    obtain ⟨y8, e8⟩ := some_atO (i := 8) hxs (by simp)
    have h0 : DataW.trod enc Try.prog W 0 (fun _ => true) held n 3 (([c0, c1, c2, c3, c4, c5, c6, c7, c8, c9, c10, c11].drop 0).take (Try.prog.cellsOf 3)) = some y0 := (hf 0 _ rfl).trans e0
    have h1 : DataW.trod enc Try.prog W 0 (fun _ => true) held n 80 (([c0, c1, c2, c3, c4, c5, c6, c7, c8, c9, c10, c11].drop 1).take (Try.prog.cellsOf 80)) = some y1 := (hf 1 _ rfl).trans e1
    have h2 : DataW.trod enc Try.prog W 0 (fun _ => true) held n 80 (([c0, c1, c2, c3, c4, c5, c6, c7, c8, c9, c10, c11].drop 3).take (Try.prog.cellsOf 80)) = some y2 := (hf 2 _ rfl).trans e2
    have h3 : DataW.trod enc Try.prog W 0 (fun _ => true) held n 80 (([c0, c1, c2, c3, c4, c5, c6, c7, c8, c9, c10, c11].drop 5).take (Try.prog.cellsOf 80)) = some y3 := (hf 3 _ rfl).trans e3
    have h4 : DataW.trod enc Try.prog W 0 (fun _ => true) held n 25 (([c0, c1, c2, c3, c4, c5, c6, c7, c8, c9, c10, c11].drop 7).take (Try.prog.cellsOf 25)) = some y4 := (hf 4 _ rfl).trans e4
    have h5 : DataW.trod enc Try.prog W 0 (fun _ => true) held n 3 (([c0, c1, c2, c3, c4, c5, c6, c7, c8, c9, c10, c11].drop 8).take (Try.prog.cellsOf 3)) = some y5 := (hf 5 _ rfl).trans e5
    have h6 : DataW.trod enc Try.prog W 0 (fun _ => true) held n 22 (([c0, c1, c2, c3, c4, c5, c6, c7, c8, c9, c10, c11].drop 9).take (Try.prog.cellsOf 22)) = some y6 := (hf 6 _ rfl).trans e6
    have h7 : DataW.trod enc Try.prog W 0 (fun _ => true) held n 22 (([c0, c1, c2, c3, c4, c5, c6, c7, c8, c9, c10, c11].drop 10).take (Try.prog.cellsOf 22)) = some y7 := (hf 7 _ rfl).trans e7
    have h8 : DataW.trod enc Try.prog W 0 (fun _ => true) held n 4 (([c0, c1, c2, c3, c4, c5, c6, c7, c8, c9, c10, c11].drop 11).take (Try.prog.cellsOf 4)) = some y8 := (hf 8 _ rfl).trans e8
    have ki : Try.prog.cellsOf 3 = 1 := by kernel_rfl
    have k1 : Try.prog.cellsOf 22 = 1 := by kernel_rfl
    have k2 : Try.prog.cellsOf 25 = 1 := by kernel_rfl
    have k3 : Try.prog.cellsOf 80 = 2 := by kernel_rfl
    have k4 : Try.prog.cellsOf 4 = 1 := by kernel_rfl
    simp only [ki, k1, k2, k3, k4, List.drop, List.take] at h0 h1 h2 h3 h4 h5 h6 h7 h8
    obtain ⟨z0, g0, _, _⟩ := DataW.trod_int Try.underlying3 h0
    obtain ⟨z1, z2, g1⟩ := open_id h1
    obtain ⟨z3, z4, g2⟩ := open_id h2
    obtain ⟨z5, z6, g3⟩ := open_id h3
    obtain ⟨v7, l7, g4, b7⟩ := open_intsO h4
    obtain ⟨z8, g5, _, _⟩ := DataW.trod_int Try.underlying3 h5
    obtain ⟨v9, l9, g6, b9⟩ := open_bytesO h6
    obtain ⟨v10, l10, g7, b10⟩ := open_bytesO h7
    obtain ⟨z11, g8, _⟩ := DataW.trod_bool Try.underlying4 h8
    simp at g0 g1 g2 g3 g4 g5 g6 g7 g8
    obtain ⟨rfl, rfl⟩ := g1
    obtain ⟨rfl, rfl⟩ := g2
    obtain ⟨rfl, rfl⟩ := g3
    subst g0; subst g4; subst g5; subst g6; subst g7; subst g8
    exact ⟨⟨z0, z1, z2, z3, z4, z5, z6, l7, z8, l9, l10, z11⟩, _, _, _, rfl, b7, b9, b10⟩
/-- An argument that is an operation. -/
theorem arg_op {r : Reach} {base : Nat} {v : Value} {x : DataW H} {p : List MemPlace} (hv : Value.okWide Try.prog W r base 82 v) (h : DataW.Trod enc Try.prog W 0 (fun _ => true) held 82 v x p) :
    ∃ o, RdOp W v o := by
  obtain ⟨cs, rfl, hsz⟩ := WideShapes.okWide_struct Try.underlying82 hv
  obtain ⟨fuel, hf⟩ := h
  obtain ⟨l⟩ := cs
  exact open_op hf
end Go.Proofs.Ytcabolcfoijglaa
