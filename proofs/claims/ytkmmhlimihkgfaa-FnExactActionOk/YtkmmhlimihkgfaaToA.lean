/- laws.toEdit, laws.toAction: the copy reads the same, in blocks of its own. -/
import Derived.Test.YtkmmhlimihkgfaaAcT
import Derived.Test.YtkmmhlimihkgfaaEqI
import Derived.Test.YtkmmhlimihkgfaaLocB
import Derived.Test.YtkmmhlimihkgfaaTo
namespace Go.Proofs.Ytkmmhlimihkgfaa
open Go.RowKit
set_option linter.unusedVariables false
set_option maxRecDepth 100000

theorem Loc.be {w : World} {g : Nat} {cs ds : Array Value} {T : TypeId} (h : Loc w g cs T) (e : cs = ds) : Loc w g ds T := e ▸ h

set_option maxHeartbeats 6400000 in
theorem toEd_any (w : World) (v : Value) (e : EdV) (h : RdEd w v e) (hs : e.name.length + e.text.length ≤ 2097152) :
    Calls Try.prog 12 #[v] w fun r w' => ∃ n t, r = .returned (edVal e n t) ∧ Own w' w.heap.size n e.name ∧ Own w' w.heap.size t e.text ∧ (FB n ++ FB t).Nodup ∧ Below w.heap.size w w' := by
  obtain ⟨n, t, rfl, hn, ht⟩ := h
  obtain ⟨pn, cn, rfl, _, _⟩ := hn.shape
  obtain ⟨pt, ct, rfl, _, _⟩ := ht.shape
  have H := hide (And.intro hn ht)
  clear hn ht
  have HS := hide hs
  clear hs
  unfold edVal
  have l0 := (((Loc.made w #[.int .i64 e.kind, .int .i64 e.nodeN, .int .i64 e.nodeR, .int .i64 e.toN, .int .i64 e.toR, .int .i64 e.i, .int .i64 e.elem, .slice pn e.name.length cn, .slice pt e.text.length ct, .bool e.gone] 26).alloc (.cells #[.int .i64 0, .int .i64 0, .int .i64 0, .int .i64 0, .int .i64 0, .int .i64 0, .int .i64 0, .slice none 0 0, .slice none 0 0, .bool false] 33)).alloc (.cells #[.int .i64 e.kind, .int .i64 0, .int .i64 0, .int .i64 0, .int .i64 0, .int .i64 0, .int .i64 0, .slice none 0 0, .slice none 0 0, .bool false] 33))
  have l1 := (Loc.made (w.alloc (.cells #[.int .i64 e.kind, .int .i64 e.nodeN, .int .i64 e.nodeR, .int .i64 e.toN, .int .i64 e.toR, .int .i64 e.i, .int .i64 e.elem, .slice pn e.name.length cn, .slice pt e.text.length ct, .bool e.gone] 26)) #[.int .i64 0, .int .i64 0, .int .i64 0, .int .i64 0, .int .i64 0, .int .i64 0, .int .i64 0, .slice none 0 0, .slice none 0 0, .bool false] 33).alloc (.cells #[.int .i64 e.kind, .int .i64 0, .int .i64 0, .int .i64 0, .int .i64 0, .int .i64 0, .int .i64 0, .slice none 0 0, .slice none 0 0, .bool false] 33)
  have l2 := Loc.made ((w.alloc (.cells #[.int .i64 e.kind, .int .i64 e.nodeN, .int .i64 e.nodeR, .int .i64 e.toN, .int .i64 e.toR, .int .i64 e.i, .int .i64 e.elem, .slice pn e.name.length cn, .slice pt e.text.length ct, .bool e.gone] 26)).alloc (.cells #[.int .i64 0, .int .i64 0, .int .i64 0, .int .i64 0, .int .i64 0, .int .i64 0, .int .i64 0, .slice none 0 0, .slice none 0 0, .bool false] 33)) #[.int .i64 e.kind, .int .i64 0, .int .i64 0, .int .i64 0, .int .i64 0, .int .i64 0, .int .i64 0, .slice none 0 0, .slice none 0 0, .bool false] 33
  have hA : Below w.heap.size w (((w.alloc (.cells #[.int .i64 e.kind, .int .i64 e.nodeN, .int .i64 e.nodeR, .int .i64 e.toN, .int .i64 e.toR, .int .i64 e.i, .int .i64 e.elem, .slice pn e.name.length cn, .slice pt e.text.length ct, .bool e.gone] 26)).alloc (.cells #[.int .i64 0, .int .i64 0, .int .i64 0, .int .i64 0, .int .i64 0, .int .i64 0, .int .i64 0, .slice none 0 0, .slice none 0 0, .bool false] 33)).alloc (.cells #[.int .i64 e.kind, .int .i64 0, .int .i64 0, .int .i64 0, .int .i64 0, .int .i64 0, .int .i64 0, .slice none 0 0, .slice none 0 0, .bool false] 33)) := (((Below.refl _ _).alloc (Nat.le_refl _) _).alloc (by simp) _).alloc (by simp; omega) _
  simp only [World.size_alloc] at l1 l2
  have L := hide (And.intro l0 (And.intro l1 (And.intro l2 hA)))
  clear l0 l1 l2 hA
  go_enter Try.func12, Try.ntmps12
  go_wp2_with fail
  obtain ⟨l0, l1, l2, hA⟩ := unhide L
  clear L
  generalize (((w.alloc (.cells #[.int .i64 e.kind, .int .i64 e.nodeN, .int .i64 e.nodeR, .int .i64 e.toN, .int .i64 e.toR, .int .i64 e.i, .int .i64 e.elem, .slice pn e.name.length cn, .slice pt e.text.length ct, .bool e.gone] 26)).alloc (.cells #[.int .i64 0, .int .i64 0, .int .i64 0, .int .i64 0, .int .i64 0, .int .i64 0, .int .i64 0, .slice none 0 0, .slice none 0 0, .bool false] 33)).alloc (.cells #[.int .i64 e.kind, .int .i64 0, .int .i64 0, .int .i64 0, .int .i64 0, .int .i64 0, .int .i64 0, .slice none 0 0, .slice none 0 0, .bool false] 33)) = W at *
  refine (toId_any _ e.nodeN e.nodeR).mono ?_
  rintro e w1 ⟨rfl, hB⟩
  replace l0 := l0.all hB
  replace l1 := l1.all hB
  replace l2 := l2.all hB
  replace hA := bstep hA hB
  clear hB
  have e0_3 := l0.cell 3
  have e0_4 := l0.cell 4
  have e2_1 := l2.cell 1
  have f2_1 := l2.frozen 1
  have e2_2 := l2.cell 2
  have f2_2 := l2.frozen 2
  simp at e0_3 e0_4 e2_1 e2_2
  have m0 : Loc ((w1.setCell ⟨w.heap.size + 1 + 1, 1, none⟩ (.int .i64 e.nodeN)).setCell ⟨w.heap.size + 1 + 1, 2, none⟩ (.int .i64 e.nodeR)) w.heap.size #[.int .i64 e.kind, .int .i64 e.nodeN, .int .i64 e.nodeR, .int .i64 e.toN, .int .i64 e.toR, .int .i64 e.i, .int .i64 e.elem, .slice pn e.name.length cn, .slice pt e.text.length ct, .bool e.gone] 26 := ((l0.other _ _ _ (by omega)).other _ _ _ (by omega))
  have m1 : Loc ((w1.setCell ⟨w.heap.size + 1 + 1, 1, none⟩ (.int .i64 e.nodeN)).setCell ⟨w.heap.size + 1 + 1, 2, none⟩ (.int .i64 e.nodeR)) (w.heap.size + 1) #[.int .i64 0, .int .i64 0, .int .i64 0, .int .i64 0, .int .i64 0, .int .i64 0, .int .i64 0, .slice none 0 0, .slice none 0 0, .bool false] 33 := ((l1.other _ _ _ (by omega)).other _ _ _ (by omega))
  have m2 : Loc ((w1.setCell ⟨w.heap.size + 1 + 1, 1, none⟩ (.int .i64 e.nodeN)).setCell ⟨w.heap.size + 1 + 1, 2, none⟩ (.int .i64 e.nodeR)) (w.heap.size + 1 + 1) #[.int .i64 e.kind, .int .i64 e.nodeN, .int .i64 e.nodeR, .int .i64 0, .int .i64 0, .int .i64 0, .int .i64 0, .slice none 0 0, .slice none 0 0, .bool false] 33 := ((l2.set 1 (.int .i64 e.nodeN)).set 2 (.int .i64 e.nodeR)).be (by simp)
  have hf : Frm w1 ((w1.setCell ⟨w.heap.size + 1 + 1, 1, none⟩ (.int .i64 e.nodeN)).setCell ⟨w.heap.size + 1 + 1, 2, none⟩ (.int .i64 e.nodeR)) [w.heap.size + 1 + 1] := ((set_frm _ _ _ _).trans (set_frm _ _ _ _))
  have hA2 : Below w.heap.size w ((w1.setCell ⟨w.heap.size + 1 + 1, 1, none⟩ (.int .i64 e.nodeN)).setCell ⟨w.heap.size + 1 + 1, 2, none⟩ (.int .i64 e.nodeR)) := hA.trans (hf.below hA.size (fun g hg => by simp at hg; omega))
  have L := hide (And.intro m0 (And.intro m1 (And.intro m2 hA2)))
  clear m0 m1 m2 hf hA2 l0 l1 l2 hA
  go_wp2_with fail
  obtain ⟨l0, l1, l2, hA⟩ := unhide L
  clear L
  clear e0_3 e0_4 e2_1 f2_1 e2_2 f2_2
  refine (toId_any _ e.toN e.toR).mono ?_
  rintro e w2 ⟨rfl, hB⟩
  replace l0 := l0.all hB
  replace l1 := l1.all hB
  replace l2 := l2.all hB
  replace hA := bstep hA hB
  clear hB
  have e0_5 := l0.cell 5
  have e0_6 := l0.cell 6
  have e0_7 := l0.cell 7
  have e2_3 := l2.cell 3
  have f2_3 := l2.frozen 3
  have e2_4 := l2.cell 4
  have f2_4 := l2.frozen 4
  have e2_5 := l2.cell 5
  have f2_5 := l2.frozen 5
  have e2_6 := l2.cell 6
  have f2_6 := l2.frozen 6
  simp at e0_5 e0_6 e0_7 e2_3 e2_4 e2_5 e2_6
  have m0 : Loc ((((w2.setCell ⟨w.heap.size + 1 + 1, 3, none⟩ (.int .i64 e.toN)).setCell ⟨w.heap.size + 1 + 1, 4, none⟩ (.int .i64 e.toR)).setCell ⟨w.heap.size + 1 + 1, 5, none⟩ (.int .i64 e.i)).setCell ⟨w.heap.size + 1 + 1, 6, none⟩ (.int .i64 e.elem)) w.heap.size #[.int .i64 e.kind, .int .i64 e.nodeN, .int .i64 e.nodeR, .int .i64 e.toN, .int .i64 e.toR, .int .i64 e.i, .int .i64 e.elem, .slice pn e.name.length cn, .slice pt e.text.length ct, .bool e.gone] 26 := ((((l0.other _ _ _ (by omega)).other _ _ _ (by omega)).other _ _ _ (by omega)).other _ _ _ (by omega))
  have m1 : Loc ((((w2.setCell ⟨w.heap.size + 1 + 1, 3, none⟩ (.int .i64 e.toN)).setCell ⟨w.heap.size + 1 + 1, 4, none⟩ (.int .i64 e.toR)).setCell ⟨w.heap.size + 1 + 1, 5, none⟩ (.int .i64 e.i)).setCell ⟨w.heap.size + 1 + 1, 6, none⟩ (.int .i64 e.elem)) (w.heap.size + 1) #[.int .i64 0, .int .i64 0, .int .i64 0, .int .i64 0, .int .i64 0, .int .i64 0, .int .i64 0, .slice none 0 0, .slice none 0 0, .bool false] 33 := ((((l1.other _ _ _ (by omega)).other _ _ _ (by omega)).other _ _ _ (by omega)).other _ _ _ (by omega))
  have m2 : Loc ((((w2.setCell ⟨w.heap.size + 1 + 1, 3, none⟩ (.int .i64 e.toN)).setCell ⟨w.heap.size + 1 + 1, 4, none⟩ (.int .i64 e.toR)).setCell ⟨w.heap.size + 1 + 1, 5, none⟩ (.int .i64 e.i)).setCell ⟨w.heap.size + 1 + 1, 6, none⟩ (.int .i64 e.elem)) (w.heap.size + 1 + 1) #[.int .i64 e.kind, .int .i64 e.nodeN, .int .i64 e.nodeR, .int .i64 e.toN, .int .i64 e.toR, .int .i64 e.i, .int .i64 e.elem, .slice none 0 0, .slice none 0 0, .bool false] 33 := ((((l2.set 3 (.int .i64 e.toN)).set 4 (.int .i64 e.toR)).set 5 (.int .i64 e.i)).set 6 (.int .i64 e.elem)).be (by simp)
  have hf : Frm w2 ((((w2.setCell ⟨w.heap.size + 1 + 1, 3, none⟩ (.int .i64 e.toN)).setCell ⟨w.heap.size + 1 + 1, 4, none⟩ (.int .i64 e.toR)).setCell ⟨w.heap.size + 1 + 1, 5, none⟩ (.int .i64 e.i)).setCell ⟨w.heap.size + 1 + 1, 6, none⟩ (.int .i64 e.elem)) [w.heap.size + 1 + 1] := ((((set_frm _ _ _ _).trans (set_frm _ _ _ _)).trans (set_frm _ _ _ _)).trans (set_frm _ _ _ _))
  have hA2 : Below w.heap.size w ((((w2.setCell ⟨w.heap.size + 1 + 1, 3, none⟩ (.int .i64 e.toN)).setCell ⟨w.heap.size + 1 + 1, 4, none⟩ (.int .i64 e.toR)).setCell ⟨w.heap.size + 1 + 1, 5, none⟩ (.int .i64 e.i)).setCell ⟨w.heap.size + 1 + 1, 6, none⟩ (.int .i64 e.elem)) := hA.trans (hf.below hA.size (fun g hg => by simp at hg; omega))
  have L := hide (And.intro m0 (And.intro m1 (And.intro m2 hA2)))
  clear m0 m1 m2 hf hA2 l0 l1 l2 hA
  go_wp2_with fail
  obtain ⟨l0, l1, l2, hA⟩ := unhide L
  clear L
  clear e0_5 e0_6 e0_7 e2_3 f2_3 e2_4 f2_4 e2_5 f2_5 e2_6 f2_6
  have zn := l2.lt
  refine (toB_any _ _ e.name ((unhide H).1.keep hA) (by have := unhide HS; omega)).mono ?_
  rintro e w3 ⟨vn, rfl, on, _, hB⟩
  obtain ⟨an, dn, hvn, _, _⟩ := on.byt.shape
  subst hvn
  have rn := on.rng
  have sn := hB.size
  replace l0 := l0.all hB
  replace l1 := l1.all hB
  replace l2 := l2.all hB
  replace hA := bstep hA hB
  clear hB
  have e0_8 := l0.cell 8
  have e2_7 := l2.cell 7
  have f2_7 := l2.frozen 7
  simp at e0_8 e2_7
  have m0 : Loc (w3.setCell ⟨w.heap.size + 1 + 1, 7, none⟩ (.slice an e.name.length dn)) w.heap.size #[.int .i64 e.kind, .int .i64 e.nodeN, .int .i64 e.nodeR, .int .i64 e.toN, .int .i64 e.toR, .int .i64 e.i, .int .i64 e.elem, .slice pn e.name.length cn, .slice pt e.text.length ct, .bool e.gone] 26 := (l0.other _ _ _ (by omega))
  have m1 : Loc (w3.setCell ⟨w.heap.size + 1 + 1, 7, none⟩ (.slice an e.name.length dn)) (w.heap.size + 1) #[.int .i64 0, .int .i64 0, .int .i64 0, .int .i64 0, .int .i64 0, .int .i64 0, .int .i64 0, .slice none 0 0, .slice none 0 0, .bool false] 33 := (l1.other _ _ _ (by omega))
  have m2 : Loc (w3.setCell ⟨w.heap.size + 1 + 1, 7, none⟩ (.slice an e.name.length dn)) (w.heap.size + 1 + 1) #[.int .i64 e.kind, .int .i64 e.nodeN, .int .i64 e.nodeR, .int .i64 e.toN, .int .i64 e.toR, .int .i64 e.i, .int .i64 e.elem, .slice an e.name.length dn, .slice none 0 0, .bool false] 33 := (l2.set 7 (.slice an e.name.length dn)).be (by simp)
  have hf : Frm w3 (w3.setCell ⟨w.heap.size + 1 + 1, 7, none⟩ (.slice an e.name.length dn)) [w.heap.size + 1 + 1] := (set_frm _ _ _ _)
  have hA2 : Below w.heap.size w (w3.setCell ⟨w.heap.size + 1 + 1, 7, none⟩ (.slice an e.name.length dn)) := hA.trans (hf.below hA.size (fun g hg => by simp at hg; omega))
  have qn := on.frm hf (fun g hg => by have := rn g hg; simp; omega)
  have L := hide (And.intro qn (And.intro m0 (And.intro m1 (And.intro m2 hA2))))
  clear m0 m1 m2 hf hA2 l0 l1 l2 hA qn on
  go_wp2_with fail
  obtain ⟨on, l0, l1, l2, hA⟩ := unhide L
  clear L
  clear e0_8 e2_7 f2_7
  have zt := l2.lt
  refine (toB_any _ _ e.text ((unhide H).2.keep hA) (by have := unhide HS; omega)).mono ?_
  rintro e w4 ⟨vt, rfl, ot, _, hB⟩
  obtain ⟨at1, dt, hvt, _, _⟩ := ot.byt.shape
  subst hvt
  have rt := ot.rng
  replace on := on.keep hB
  have st := hB.size
  replace l0 := l0.all hB
  replace l1 := l1.all hB
  replace l2 := l2.all hB
  replace hA := bstep hA hB
  clear hB
  have e0_9 := l0.cell 9
  have e2_8 := l2.cell 8
  have f2_8 := l2.frozen 8
  have e2_9 := l2.cell 9
  have f2_9 := l2.frozen 9
  simp at e0_9 e2_8 e2_9
  have e2_0 := l2.cell 0
  have e2_1 := l2.cell 1
  have e2_2 := l2.cell 2
  have e2_3 := l2.cell 3
  have e2_4 := l2.cell 4
  have e2_5 := l2.cell 5
  have e2_6 := l2.cell 6
  have e2_7 := l2.cell 7
  have e1_0 := l1.cell 0
  have f1_0 := l1.frozen 0
  have e1_1 := l1.cell 1
  have f1_1 := l1.frozen 1
  have e1_2 := l1.cell 2
  have f1_2 := l1.frozen 2
  have e1_3 := l1.cell 3
  have f1_3 := l1.frozen 3
  have e1_4 := l1.cell 4
  have f1_4 := l1.frozen 4
  have e1_5 := l1.cell 5
  have f1_5 := l1.frozen 5
  have e1_6 := l1.cell 6
  have f1_6 := l1.frozen 6
  have e1_7 := l1.cell 7
  have f1_7 := l1.frozen 7
  have e1_8 := l1.cell 8
  have f1_8 := l1.frozen 8
  have e1_9 := l1.cell 9
  have f1_9 := l1.frozen 9
  simp at e2_0 e2_1 e2_2 e2_3 e2_4 e2_5 e2_6 e2_7 e1_0 e1_1 e1_2 e1_3 e1_4 e1_5 e1_6 e1_7 e1_8 e1_9
  have hf : Frm w4 ((((((((((((w4.setCell ⟨w.heap.size + 1 + 1, 8, none⟩ (.slice at1 e.text.length dt)).setCell ⟨w.heap.size + 1 + 1, 9, none⟩ (.bool e.gone)).setCell ⟨w.heap.size + 1, 0, none⟩ (.int .i64 e.kind)).setCell ⟨w.heap.size + 1, 1, none⟩ (.int .i64 e.nodeN)).setCell ⟨w.heap.size + 1, 2, none⟩ (.int .i64 e.nodeR)).setCell ⟨w.heap.size + 1, 3, none⟩ (.int .i64 e.toN)).setCell ⟨w.heap.size + 1, 4, none⟩ (.int .i64 e.toR)).setCell ⟨w.heap.size + 1, 5, none⟩ (.int .i64 e.i)).setCell ⟨w.heap.size + 1, 6, none⟩ (.int .i64 e.elem)).setCell ⟨w.heap.size + 1, 7, none⟩ (.slice an e.name.length dn)).setCell ⟨w.heap.size + 1, 8, none⟩ (.slice at1 e.text.length dt)).setCell ⟨w.heap.size + 1, 9, none⟩ (.bool e.gone)) [w.heap.size + 1 + 1, w.heap.size + 1] := (((((((((((((set_frm _ _ _ _).mono (by simp)).trans ((set_frm _ _ _ _).mono (by simp))).trans ((set_frm _ _ _ _).mono (by simp))).trans ((set_frm _ _ _ _).mono (by simp))).trans ((set_frm _ _ _ _).mono (by simp))).trans ((set_frm _ _ _ _).mono (by simp))).trans ((set_frm _ _ _ _).mono (by simp))).trans ((set_frm _ _ _ _).mono (by simp))).trans ((set_frm _ _ _ _).mono (by simp))).trans ((set_frm _ _ _ _).mono (by simp))).trans ((set_frm _ _ _ _).mono (by simp))).trans ((set_frm _ _ _ _).mono (by simp)))
  have hA2 : Below w.heap.size w ((((((((((((w4.setCell ⟨w.heap.size + 1 + 1, 8, none⟩ (.slice at1 e.text.length dt)).setCell ⟨w.heap.size + 1 + 1, 9, none⟩ (.bool e.gone)).setCell ⟨w.heap.size + 1, 0, none⟩ (.int .i64 e.kind)).setCell ⟨w.heap.size + 1, 1, none⟩ (.int .i64 e.nodeN)).setCell ⟨w.heap.size + 1, 2, none⟩ (.int .i64 e.nodeR)).setCell ⟨w.heap.size + 1, 3, none⟩ (.int .i64 e.toN)).setCell ⟨w.heap.size + 1, 4, none⟩ (.int .i64 e.toR)).setCell ⟨w.heap.size + 1, 5, none⟩ (.int .i64 e.i)).setCell ⟨w.heap.size + 1, 6, none⟩ (.int .i64 e.elem)).setCell ⟨w.heap.size + 1, 7, none⟩ (.slice an e.name.length dn)).setCell ⟨w.heap.size + 1, 8, none⟩ (.slice at1 e.text.length dt)).setCell ⟨w.heap.size + 1, 9, none⟩ (.bool e.gone)) := hA.trans (hf.below hA.size (fun g hg => by simp at hg; omega))
  have qn := (on.frm hf (fun g hg => by have := rn g hg; simp; omega)).mono (show w.heap.size ≤ _ by omega)
  have qt := (ot.frm hf (fun g hg => by have := rt g hg; simp; omega)).mono (show w.heap.size ≤ _ by omega)
  have hnd : (FB (.slice an e.name.length dn) ++ FB (.slice at1 e.text.length dt)).Nodup := by
    simp at sn st zn zt
    exact nodup_app (lo := 0) (FB_nodup _) (FB_nodup _) (rn.mono (Nat.zero_le _) (Nat.le_refl _)) (rt.mono (by simp) (Nat.le_refl _))
  have L := hide (And.intro qn (And.intro qt (And.intro hnd hA2)))
  clear hnd hA2 hf l0 l1 l2 hA qn on rn qt ot rt H
  go_wp2_with fail
  obtain ⟨qn, qt, hnd, hA2⟩ := unhide L
  exact bodyPost_ret (v := edVal e (.slice an e.name.length dn) (.slice at1 e.text.length dt)) (by simp [results, Try.results12, go_sem, edVal, e1_0, e1_1, e1_2, e1_3, e1_4, e1_5, e1_6, e1_7, e1_8, e1_9]) rfl ⟨_, _, rfl, qn, qt, hnd, hA2⟩

set_option maxHeartbeats 12800000 in
theorem toAc_any (w : World) (v : Value) (c : AcV) (h : RdAc w v c) (hs : c.e.name.length + c.e.text.length ≤ 2097152) :
    Calls Try.prog 6 #[v] w fun r w' => ∃ n t, r = .returned (acVal c n t) ∧ Own w' w.heap.size n c.e.name ∧ Own w' w.heap.size t c.e.text ∧ (FB n ++ FB t).Nodup ∧ Below w.heap.size w w' := by
  obtain ⟨n, t, rfl, hn, ht⟩ := h
  obtain ⟨pn, cn, rfl, _, _⟩ := hn.shape
  obtain ⟨pt, ct, rfl, _, _⟩ := ht.shape
  have HT := hide (fun W (hW : Below w.heap.size w W) => toEd_any W (edVal c.e (.slice pn c.e.name.length cn) (.slice pt c.e.text.length ct)) c.e ⟨_, _, rfl, hn.keep hW, ht.keep hW⟩ hs)
  clear hn ht
  unfold edVal at HT
  unfold acVal
  have l0 := (((Loc.made w #[.int .i64 c.kind, .int .i64 c.a, .int .i64 c.b, .int .i64 c.e.kind, .int .i64 c.e.nodeN, .int .i64 c.e.nodeR, .int .i64 c.e.toN, .int .i64 c.e.toR, .int .i64 c.e.i, .int .i64 c.e.elem, .slice pn c.e.name.length cn, .slice pt c.e.text.length ct, .bool c.e.gone] 28).alloc (.cells #[.int .i64 0, .int .i64 0, .int .i64 0, .int .i64 0, .int .i64 0, .int .i64 0, .int .i64 0, .int .i64 0, .int .i64 0, .int .i64 0, .slice none 0 0, .slice none 0 0, .bool false] 35)).alloc (.cells #[.int .i64 c.kind, .int .i64 c.a, .int .i64 c.b, .int .i64 0, .int .i64 0, .int .i64 0, .int .i64 0, .int .i64 0, .int .i64 0, .int .i64 0, .slice none 0 0, .slice none 0 0, .bool false] 35))
  have l1 := (Loc.made (w.alloc (.cells #[.int .i64 c.kind, .int .i64 c.a, .int .i64 c.b, .int .i64 c.e.kind, .int .i64 c.e.nodeN, .int .i64 c.e.nodeR, .int .i64 c.e.toN, .int .i64 c.e.toR, .int .i64 c.e.i, .int .i64 c.e.elem, .slice pn c.e.name.length cn, .slice pt c.e.text.length ct, .bool c.e.gone] 28)) #[.int .i64 0, .int .i64 0, .int .i64 0, .int .i64 0, .int .i64 0, .int .i64 0, .int .i64 0, .int .i64 0, .int .i64 0, .int .i64 0, .slice none 0 0, .slice none 0 0, .bool false] 35).alloc (.cells #[.int .i64 c.kind, .int .i64 c.a, .int .i64 c.b, .int .i64 0, .int .i64 0, .int .i64 0, .int .i64 0, .int .i64 0, .int .i64 0, .int .i64 0, .slice none 0 0, .slice none 0 0, .bool false] 35)
  have l2 := Loc.made ((w.alloc (.cells #[.int .i64 c.kind, .int .i64 c.a, .int .i64 c.b, .int .i64 c.e.kind, .int .i64 c.e.nodeN, .int .i64 c.e.nodeR, .int .i64 c.e.toN, .int .i64 c.e.toR, .int .i64 c.e.i, .int .i64 c.e.elem, .slice pn c.e.name.length cn, .slice pt c.e.text.length ct, .bool c.e.gone] 28)).alloc (.cells #[.int .i64 0, .int .i64 0, .int .i64 0, .int .i64 0, .int .i64 0, .int .i64 0, .int .i64 0, .int .i64 0, .int .i64 0, .int .i64 0, .slice none 0 0, .slice none 0 0, .bool false] 35)) #[.int .i64 c.kind, .int .i64 c.a, .int .i64 c.b, .int .i64 0, .int .i64 0, .int .i64 0, .int .i64 0, .int .i64 0, .int .i64 0, .int .i64 0, .slice none 0 0, .slice none 0 0, .bool false] 35
  have hA : Below w.heap.size w (((w.alloc (.cells #[.int .i64 c.kind, .int .i64 c.a, .int .i64 c.b, .int .i64 c.e.kind, .int .i64 c.e.nodeN, .int .i64 c.e.nodeR, .int .i64 c.e.toN, .int .i64 c.e.toR, .int .i64 c.e.i, .int .i64 c.e.elem, .slice pn c.e.name.length cn, .slice pt c.e.text.length ct, .bool c.e.gone] 28)).alloc (.cells #[.int .i64 0, .int .i64 0, .int .i64 0, .int .i64 0, .int .i64 0, .int .i64 0, .int .i64 0, .int .i64 0, .int .i64 0, .int .i64 0, .slice none 0 0, .slice none 0 0, .bool false] 35)).alloc (.cells #[.int .i64 c.kind, .int .i64 c.a, .int .i64 c.b, .int .i64 0, .int .i64 0, .int .i64 0, .int .i64 0, .int .i64 0, .int .i64 0, .int .i64 0, .slice none 0 0, .slice none 0 0, .bool false] 35)) := (((Below.refl _ _).alloc (Nat.le_refl _) _).alloc (by simp) _).alloc (by simp; omega) _
  simp only [World.size_alloc] at l1 l2
  have L := hide (And.intro l0 (And.intro l1 (And.intro l2 hA)))
  clear l0 l1 l2 hA
  go_enter Try.func6, Try.ntmps6
  go_wp2_with fail
  obtain ⟨l0, l1, l2, hA⟩ := unhide L
  clear L
  generalize (((w.alloc (.cells #[.int .i64 c.kind, .int .i64 c.a, .int .i64 c.b, .int .i64 c.e.kind, .int .i64 c.e.nodeN, .int .i64 c.e.nodeR, .int .i64 c.e.toN, .int .i64 c.e.toR, .int .i64 c.e.i, .int .i64 c.e.elem, .slice pn c.e.name.length cn, .slice pt c.e.text.length ct, .bool c.e.gone] 28)).alloc (.cells #[.int .i64 0, .int .i64 0, .int .i64 0, .int .i64 0, .int .i64 0, .int .i64 0, .int .i64 0, .int .i64 0, .int .i64 0, .int .i64 0, .slice none 0 0, .slice none 0 0, .bool false] 35)).alloc (.cells #[.int .i64 c.kind, .int .i64 c.a, .int .i64 c.b, .int .i64 0, .int .i64 0, .int .i64 0, .int .i64 0, .int .i64 0, .int .i64 0, .int .i64 0, .slice none 0 0, .slice none 0 0, .bool false] 35)) = W at *
  have zz := l2.lt
  refine (unhide HT _ hA).mono ?_
  rintro e w1 ⟨vn, vt, rfl, on, ot, hnd, hB⟩
  obtain ⟨an, dn, hvn, _, _⟩ := on.byt.shape
  subst hvn
  obtain ⟨at1, dt, hvt, _, _⟩ := ot.byt.shape
  subst hvt
  have rn := on.rng
  have rt := ot.rng
  replace l0 := l0.all hB
  replace l1 := l1.all hB
  replace l2 := l2.all hB
  replace hA := bstep hA hB
  clear hB HT
  have e2_3 := l2.cell 3
  have f2_3 := l2.frozen 3
  have e2_4 := l2.cell 4
  have f2_4 := l2.frozen 4
  have e2_5 := l2.cell 5
  have f2_5 := l2.frozen 5
  have e2_6 := l2.cell 6
  have f2_6 := l2.frozen 6
  have e2_7 := l2.cell 7
  have f2_7 := l2.frozen 7
  have e2_8 := l2.cell 8
  have f2_8 := l2.frozen 8
  have e2_9 := l2.cell 9
  have f2_9 := l2.frozen 9
  have e2_10 := l2.cell 10
  have f2_10 := l2.frozen 10
  have e2_11 := l2.cell 11
  have f2_11 := l2.frozen 11
  have e2_12 := l2.cell 12
  have f2_12 := l2.frozen 12
  simp at e2_3 e2_4 e2_5 e2_6 e2_7 e2_8 e2_9 e2_10 e2_11 e2_12
  have e2_0 := l2.cell 0
  have e2_1 := l2.cell 1
  have e2_2 := l2.cell 2
  have e1_0 := l1.cell 0
  have f1_0 := l1.frozen 0
  have e1_1 := l1.cell 1
  have f1_1 := l1.frozen 1
  have e1_2 := l1.cell 2
  have f1_2 := l1.frozen 2
  have e1_3 := l1.cell 3
  have f1_3 := l1.frozen 3
  have e1_4 := l1.cell 4
  have f1_4 := l1.frozen 4
  have e1_5 := l1.cell 5
  have f1_5 := l1.frozen 5
  have e1_6 := l1.cell 6
  have f1_6 := l1.frozen 6
  have e1_7 := l1.cell 7
  have f1_7 := l1.frozen 7
  have e1_8 := l1.cell 8
  have f1_8 := l1.frozen 8
  have e1_9 := l1.cell 9
  have f1_9 := l1.frozen 9
  have e1_10 := l1.cell 10
  have f1_10 := l1.frozen 10
  have e1_11 := l1.cell 11
  have f1_11 := l1.frozen 11
  have e1_12 := l1.cell 12
  have f1_12 := l1.frozen 12
  simp at e2_0 e2_1 e2_2 e1_0 e1_1 e1_2 e1_3 e1_4 e1_5 e1_6 e1_7 e1_8 e1_9 e1_10 e1_11 e1_12
  have hf : Frm w1 (((((((((((((((((((((((w1.setCell ⟨w.heap.size + 1 + 1, 3, none⟩ (.int .i64 c.e.kind)).setCell ⟨w.heap.size + 1 + 1, 4, none⟩ (.int .i64 c.e.nodeN)).setCell ⟨w.heap.size + 1 + 1, 5, none⟩ (.int .i64 c.e.nodeR)).setCell ⟨w.heap.size + 1 + 1, 6, none⟩ (.int .i64 c.e.toN)).setCell ⟨w.heap.size + 1 + 1, 7, none⟩ (.int .i64 c.e.toR)).setCell ⟨w.heap.size + 1 + 1, 8, none⟩ (.int .i64 c.e.i)).setCell ⟨w.heap.size + 1 + 1, 9, none⟩ (.int .i64 c.e.elem)).setCell ⟨w.heap.size + 1 + 1, 10, none⟩ (.slice an c.e.name.length dn)).setCell ⟨w.heap.size + 1 + 1, 11, none⟩ (.slice at1 c.e.text.length dt)).setCell ⟨w.heap.size + 1 + 1, 12, none⟩ (.bool c.e.gone)).setCell ⟨w.heap.size + 1, 0, none⟩ (.int .i64 c.kind)).setCell ⟨w.heap.size + 1, 1, none⟩ (.int .i64 c.a)).setCell ⟨w.heap.size + 1, 2, none⟩ (.int .i64 c.b)).setCell ⟨w.heap.size + 1, 3, none⟩ (.int .i64 c.e.kind)).setCell ⟨w.heap.size + 1, 4, none⟩ (.int .i64 c.e.nodeN)).setCell ⟨w.heap.size + 1, 5, none⟩ (.int .i64 c.e.nodeR)).setCell ⟨w.heap.size + 1, 6, none⟩ (.int .i64 c.e.toN)).setCell ⟨w.heap.size + 1, 7, none⟩ (.int .i64 c.e.toR)).setCell ⟨w.heap.size + 1, 8, none⟩ (.int .i64 c.e.i)).setCell ⟨w.heap.size + 1, 9, none⟩ (.int .i64 c.e.elem)).setCell ⟨w.heap.size + 1, 10, none⟩ (.slice an c.e.name.length dn)).setCell ⟨w.heap.size + 1, 11, none⟩ (.slice at1 c.e.text.length dt)).setCell ⟨w.heap.size + 1, 12, none⟩ (.bool c.e.gone)) [w.heap.size + 1 + 1, w.heap.size + 1] := ((((((((((((((((((((((((set_frm _ _ _ _).mono (by simp)).trans ((set_frm _ _ _ _).mono (by simp))).trans ((set_frm _ _ _ _).mono (by simp))).trans ((set_frm _ _ _ _).mono (by simp))).trans ((set_frm _ _ _ _).mono (by simp))).trans ((set_frm _ _ _ _).mono (by simp))).trans ((set_frm _ _ _ _).mono (by simp))).trans ((set_frm _ _ _ _).mono (by simp))).trans ((set_frm _ _ _ _).mono (by simp))).trans ((set_frm _ _ _ _).mono (by simp))).trans ((set_frm _ _ _ _).mono (by simp))).trans ((set_frm _ _ _ _).mono (by simp))).trans ((set_frm _ _ _ _).mono (by simp))).trans ((set_frm _ _ _ _).mono (by simp))).trans ((set_frm _ _ _ _).mono (by simp))).trans ((set_frm _ _ _ _).mono (by simp))).trans ((set_frm _ _ _ _).mono (by simp))).trans ((set_frm _ _ _ _).mono (by simp))).trans ((set_frm _ _ _ _).mono (by simp))).trans ((set_frm _ _ _ _).mono (by simp))).trans ((set_frm _ _ _ _).mono (by simp))).trans ((set_frm _ _ _ _).mono (by simp))).trans ((set_frm _ _ _ _).mono (by simp)))
  have hA2 : Below w.heap.size w (((((((((((((((((((((((w1.setCell ⟨w.heap.size + 1 + 1, 3, none⟩ (.int .i64 c.e.kind)).setCell ⟨w.heap.size + 1 + 1, 4, none⟩ (.int .i64 c.e.nodeN)).setCell ⟨w.heap.size + 1 + 1, 5, none⟩ (.int .i64 c.e.nodeR)).setCell ⟨w.heap.size + 1 + 1, 6, none⟩ (.int .i64 c.e.toN)).setCell ⟨w.heap.size + 1 + 1, 7, none⟩ (.int .i64 c.e.toR)).setCell ⟨w.heap.size + 1 + 1, 8, none⟩ (.int .i64 c.e.i)).setCell ⟨w.heap.size + 1 + 1, 9, none⟩ (.int .i64 c.e.elem)).setCell ⟨w.heap.size + 1 + 1, 10, none⟩ (.slice an c.e.name.length dn)).setCell ⟨w.heap.size + 1 + 1, 11, none⟩ (.slice at1 c.e.text.length dt)).setCell ⟨w.heap.size + 1 + 1, 12, none⟩ (.bool c.e.gone)).setCell ⟨w.heap.size + 1, 0, none⟩ (.int .i64 c.kind)).setCell ⟨w.heap.size + 1, 1, none⟩ (.int .i64 c.a)).setCell ⟨w.heap.size + 1, 2, none⟩ (.int .i64 c.b)).setCell ⟨w.heap.size + 1, 3, none⟩ (.int .i64 c.e.kind)).setCell ⟨w.heap.size + 1, 4, none⟩ (.int .i64 c.e.nodeN)).setCell ⟨w.heap.size + 1, 5, none⟩ (.int .i64 c.e.nodeR)).setCell ⟨w.heap.size + 1, 6, none⟩ (.int .i64 c.e.toN)).setCell ⟨w.heap.size + 1, 7, none⟩ (.int .i64 c.e.toR)).setCell ⟨w.heap.size + 1, 8, none⟩ (.int .i64 c.e.i)).setCell ⟨w.heap.size + 1, 9, none⟩ (.int .i64 c.e.elem)).setCell ⟨w.heap.size + 1, 10, none⟩ (.slice an c.e.name.length dn)).setCell ⟨w.heap.size + 1, 11, none⟩ (.slice at1 c.e.text.length dt)).setCell ⟨w.heap.size + 1, 12, none⟩ (.bool c.e.gone)) := hA.trans (hf.below hA.size (fun g hg => by simp at hg; omega))
  have qn := (on.frm hf (fun g hg => by have := rn g hg; simp; omega)).mono (show w.heap.size ≤ _ by omega)
  have qt := (ot.frm hf (fun g hg => by have := rt g hg; simp; omega)).mono (show w.heap.size ≤ _ by omega)
  have L := hide (And.intro qn (And.intro qt (And.intro hnd hA2)))
  clear hnd hA2 hf l0 l1 l2 hA qn on rn qt ot rt
  go_wp2_with fail
  obtain ⟨qn, qt, hnd, hA2⟩ := unhide L
  exact bodyPost_ret (v := acVal c (.slice an c.e.name.length dn) (.slice at1 c.e.text.length dt)) (by simp [results, Try.results6, go_sem, acVal, e1_0, e1_1, e1_2, e1_3, e1_4, e1_5, e1_6, e1_7, e1_8, e1_9, e1_10, e1_11, e1_12]) rfl ⟨_, _, rfl, qn, qt, hnd, hA2⟩

end Go.Proofs.Ytkmmhlimihkgfaa
