/- laws.eqEdit, laws.eqAction of two that read the same. -/
import Derived.Test.YtkmmhlimihkgfaaAcT
import Derived.Test.YtkmmhlimihkgfaaEqJ
import Derived.Test.YtkmmhlimihkgfaaLocB
namespace Go.Proofs.Ytkmmhlimihkgfaa
open Go.RowKit
set_option linter.unusedVariables false
set_option maxRecDepth 100000

set_option maxHeartbeats 3200000 in
theorem eqEd_same (w : World) (u v : Value) (e : EdV) (hu : RdEd w u e) (hv : RdEd w v e) :
    Calls Try.prog 16 #[u, v] w fun r w' => r = .returned (.bool true) ∧ Below w.heap.size w w' := by
  obtain ⟨vn, vt, rfl, hn1, ht1⟩ := hu
  obtain ⟨vn2, vt2, rfl, hn2, ht2⟩ := hv
  obtain ⟨n1, d1, rfl, _, _⟩ := hn1.shape
  obtain ⟨t1, f1, rfl, _, _⟩ := ht1.shape
  obtain ⟨n2, d2, rfl, _, _⟩ := hn2.shape
  obtain ⟨t2, f2, rfl, _, _⟩ := ht2.shape
  have H := hide (And.intro hn1 (And.intro ht1 (And.intro hn2 ht2)))
  clear hn1 ht1 hn2 ht2
  unfold edVal
  have hA : Below w.heap.size w ((w.alloc (.cells #[.int .i64 e.kind, .int .i64 e.nodeN, .int .i64 e.nodeR, .int .i64 e.toN, .int .i64 e.toR, .int .i64 e.i, .int .i64 e.elem, .slice n1 e.name.length d1, .slice t1 e.text.length f1, .bool e.gone] 33)).alloc (.cells #[.int .i64 e.kind, .int .i64 e.nodeN, .int .i64 e.nodeR, .int .i64 e.toN, .int .i64 e.toR, .int .i64 e.i, .int .i64 e.elem, .slice n2 e.name.length d2, .slice t2 e.text.length f2, .bool e.gone] 33)) := ((Below.refl _ _).alloc (Nat.le_refl _) _).alloc (by simp) _
  have l0 := (Loc.made w #[.int .i64 e.kind, .int .i64 e.nodeN, .int .i64 e.nodeR, .int .i64 e.toN, .int .i64 e.toR, .int .i64 e.i, .int .i64 e.elem, .slice n1 e.name.length d1, .slice t1 e.text.length f1, .bool e.gone] 33).alloc (.cells #[.int .i64 e.kind, .int .i64 e.nodeN, .int .i64 e.nodeR, .int .i64 e.toN, .int .i64 e.toR, .int .i64 e.i, .int .i64 e.elem, .slice n2 e.name.length d2, .slice t2 e.text.length f2, .bool e.gone] 33)
  have l1 := Loc.made (w.alloc (.cells #[.int .i64 e.kind, .int .i64 e.nodeN, .int .i64 e.nodeR, .int .i64 e.toN, .int .i64 e.toR, .int .i64 e.i, .int .i64 e.elem, .slice n1 e.name.length d1, .slice t1 e.text.length f1, .bool e.gone] 33)) #[.int .i64 e.kind, .int .i64 e.nodeN, .int .i64 e.nodeR, .int .i64 e.toN, .int .i64 e.toR, .int .i64 e.i, .int .i64 e.elem, .slice n2 e.name.length d2, .slice t2 e.text.length f2, .bool e.gone] 33
  simp only [World.size_alloc] at l1
  go_enter Try.func16, Try.ntmps16
  go_wp2_with fail
  generalize ((w.alloc (.cells #[.int .i64 e.kind, .int .i64 e.nodeN, .int .i64 e.nodeR, .int .i64 e.toN, .int .i64 e.toR, .int .i64 e.i, .int .i64 e.elem, .slice n1 e.name.length d1, .slice t1 e.text.length f1, .bool e.gone] 33)).alloc (.cells #[.int .i64 e.kind, .int .i64 e.nodeN, .int .i64 e.nodeR, .int .i64 e.toN, .int .i64 e.toR, .int .i64 e.i, .int .i64 e.elem, .slice n2 e.name.length d2, .slice t2 e.text.length f2, .bool e.gone] 33)) = W at *
  refine (eqId_true _ e.nodeN e.nodeR).mono ?_
  rintro e w1 ⟨rfl, hB⟩
  replace hA := bstep hA hB
  replace l0 := l0.all hB
  replace l1 := l1.all hB
  clear hB
  have x3 := l0.cell 3
  have y3 := l1.cell 3
  have x4 := l0.cell 4
  have y4 := l1.cell 4
  simp at x3 y3 x4 y4
  go_wp2_with fail
  clear x3 y3 x4 y4
  refine (eqId_true _ e.toN e.toR).mono ?_
  rintro e w2 ⟨rfl, hB⟩
  replace hA := bstep hA hB
  replace l0 := l0.all hB
  replace l1 := l1.all hB
  clear hB
  have x5 := l0.cell 5
  have y5 := l1.cell 5
  have x6 := l0.cell 6
  have y6 := l1.cell 6
  have x7 := l0.cell 7
  have y7 := l1.cell 7
  simp at x5 y5 x6 y6 x7 y7
  go_wp2_with fail
  clear x5 y5 x6 y6 x7 y7
  refine (eqB4_true _ _ _ e.name ((unhide H).1.keep hA) ((unhide H).2.2.1.keep hA)).mono ?_
  rintro e w3 ⟨rfl, hB⟩
  replace hA := bstep hA hB
  replace l0 := l0.all hB
  replace l1 := l1.all hB
  clear hB
  have x8 := l0.cell 8
  have y8 := l1.cell 8
  simp at x8 y8
  go_wp2_with fail
  clear x8 y8
  refine (eqB4_true _ _ _ e.text ((unhide H).2.1.keep hA) ((unhide H).2.2.2.keep hA)).mono ?_
  rintro e w4 ⟨rfl, hB⟩
  replace hA := bstep hA hB
  replace l0 := l0.all hB
  replace l1 := l1.all hB
  clear hB
  have x9 := l0.cell 9
  have y9 := l1.cell 9
  simp at x9 y9
  go_wp2_with fail
  go_ret
  exact ⟨rfl, hA⟩

set_option maxHeartbeats 3200000 in
theorem eqAc_same (w : World) (u v : Value) (c : AcV) (hu : RdAc w u c) (hv : RdAc w v c) :
    Calls Try.prog 8 #[u, v] w fun r w' => r = .returned (.bool true) ∧ Below w.heap.size w w' := by
  obtain ⟨vn, vt, rfl, hn1, ht1⟩ := hu
  obtain ⟨vn2, vt2, rfl, hn2, ht2⟩ := hv
  obtain ⟨n1, d1, rfl, _, _⟩ := hn1.shape
  obtain ⟨t1, f1, rfl, _, _⟩ := ht1.shape
  obtain ⟨n2, d2, rfl, _, _⟩ := hn2.shape
  obtain ⟨t2, f2, rfl, _, _⟩ := ht2.shape
  have hA : Below w.heap.size w ((w.alloc (.cells #[.int .i64 c.kind, .int .i64 c.a, .int .i64 c.b, .int .i64 c.e.kind, .int .i64 c.e.nodeN, .int .i64 c.e.nodeR, .int .i64 c.e.toN, .int .i64 c.e.toR, .int .i64 c.e.i, .int .i64 c.e.elem, .slice n1 c.e.name.length d1, .slice t1 c.e.text.length f1, .bool c.e.gone] 35)).alloc (.cells #[.int .i64 c.kind, .int .i64 c.a, .int .i64 c.b, .int .i64 c.e.kind, .int .i64 c.e.nodeN, .int .i64 c.e.nodeR, .int .i64 c.e.toN, .int .i64 c.e.toR, .int .i64 c.e.i, .int .i64 c.e.elem, .slice n2 c.e.name.length d2, .slice t2 c.e.text.length f2, .bool c.e.gone] 35)) := ((Below.refl _ _).alloc (Nat.le_refl _) _).alloc (by simp) _
  have HE := hide (eqEd_same _ _ _ c.e ⟨_, _, rfl, hn1.keep hA, ht1.keep hA⟩ ⟨_, _, rfl, hn2.keep hA, ht2.keep hA⟩)
  clear hn1 ht1 hn2 ht2
  unfold edVal at HE
  unfold acVal
  go_enter Try.func8, Try.ntmps8
  go_wp2_with fail
  refine (unhide HE).mono ?_
  rintro e w1 ⟨rfl, hB⟩
  have hB' := bstep hA hB
  clear hA hB HE
  go_wp2_with fail
  go_ret
  exact ⟨rfl, hB'⟩
end Go.Proofs.Ytkmmhlimihkgfaa
