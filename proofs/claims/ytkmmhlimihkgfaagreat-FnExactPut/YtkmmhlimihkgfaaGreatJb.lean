/- Own texts joined: ToO, OwO, OpsT, LesI, OpsM, PutV, QGr, Via, BsI, OwnT, HalfT, OwOs, ShO, SetSh, App, AppSh, KlM, Str. -/
import Derived.Test.YtkmmhlimihkgfaaGreatJa
import Derived.Deep.RegionHeld3
import Derived.BigQuiet

/- laws.toOp: the copy reads the same, in blocks of its own. -/
namespace Go.Proofs.YtkmmhlimihkgfaaGreat
open Go.RowKit
set_option linter.unusedVariables false
set_option maxRecDepth 100000

theorem OwnZ.frm {w w' : World} {base : Nat} {v : Value} {l : List Int} {S : List Nat} (h : OwnZ w base v l) (f : Frm w w' S) (hd : ∀ g ∈ FB v, g ∉ S) : OwnZ w' base v l := ⟨h.1, ownsRow_frm h.2 f hd⟩
theorem OwnZ.rng {w : World} {base : Nat} {v : Value} {l : List Int} (h : OwnZ w base v l) : Rng (FB v) base w.heap.size := fun g hg => h.lt g (by simpa [FB] using hg)
theorem Loc.be {w : World} {g : Nat} {cs ds : Array Value} {T : TypeId} (h : Loc w g cs T) (e : cs = ds) : Loc w g ds T := e ▸ h

set_option maxHeartbeats 6400000 in
theorem toOp_any (w : World) (v : Value) (o : OpV) (h : RdOp w v o) (hs : o.key.length + o.name.length + o.text.length ≤ 2097152) :
    Calls Tryz.prog 16 #[v] w fun e w' => ∃ k n t, e = .returned (opVal o k n t) ∧ OwnZ w' w.heap.size k o.key ∧ Own w' w.heap.size n o.name ∧ Own w' w.heap.size t o.text ∧ (FB k ++ FB n ++ FB t).Nodup ∧ Below w.heap.size w w' := by
  obtain ⟨k, n, t, rfl, hk, hn, ht⟩ := h
  obtain ⟨pk, ck, rfl, _, _⟩ := hk.shape
  obtain ⟨pn, cn, rfl, _, _⟩ := hn.shape
  obtain ⟨pt, ct, rfl, _, _⟩ := ht.shape
  have H := hide (And.intro hk (And.intro hn ht))
  clear hk hn ht
  have HS := hide hs
  clear hs
  unfold opVal
  have l0 := (((Loc.made w #[.int .i64 o.kind, .int .i64 o.atN, .int .i64 o.atR, .int .i64 o.nodeN, .int .i64 o.nodeR, .int .i64 o.parN, .int .i64 o.parR, .slice pk o.key.length ck, .int .i64 o.elem, .slice pn o.name.length cn, .slice pt o.text.length ct, .bool o.gone] 41).alloc (.cells #[.int .i64 0, .int .i64 0, .int .i64 0, .int .i64 0, .int .i64 0, .int .i64 0, .int .i64 0, .slice none 0 0, .int .i64 0, .slice none 0 0, .slice none 0 0, .bool false] 28)).alloc (.cells #[.int .i64 o.kind, .int .i64 0, .int .i64 0, .int .i64 0, .int .i64 0, .int .i64 0, .int .i64 0, .slice none 0 0, .int .i64 0, .slice none 0 0, .slice none 0 0, .bool false] 28))
  have l1 := (Loc.made (w.alloc (.cells #[.int .i64 o.kind, .int .i64 o.atN, .int .i64 o.atR, .int .i64 o.nodeN, .int .i64 o.nodeR, .int .i64 o.parN, .int .i64 o.parR, .slice pk o.key.length ck, .int .i64 o.elem, .slice pn o.name.length cn, .slice pt o.text.length ct, .bool o.gone] 41)) #[.int .i64 0, .int .i64 0, .int .i64 0, .int .i64 0, .int .i64 0, .int .i64 0, .int .i64 0, .slice none 0 0, .int .i64 0, .slice none 0 0, .slice none 0 0, .bool false] 28).alloc (.cells #[.int .i64 o.kind, .int .i64 0, .int .i64 0, .int .i64 0, .int .i64 0, .int .i64 0, .int .i64 0, .slice none 0 0, .int .i64 0, .slice none 0 0, .slice none 0 0, .bool false] 28)
  have l2 := Loc.made ((w.alloc (.cells #[.int .i64 o.kind, .int .i64 o.atN, .int .i64 o.atR, .int .i64 o.nodeN, .int .i64 o.nodeR, .int .i64 o.parN, .int .i64 o.parR, .slice pk o.key.length ck, .int .i64 o.elem, .slice pn o.name.length cn, .slice pt o.text.length ct, .bool o.gone] 41)).alloc (.cells #[.int .i64 0, .int .i64 0, .int .i64 0, .int .i64 0, .int .i64 0, .int .i64 0, .int .i64 0, .slice none 0 0, .int .i64 0, .slice none 0 0, .slice none 0 0, .bool false] 28)) #[.int .i64 o.kind, .int .i64 0, .int .i64 0, .int .i64 0, .int .i64 0, .int .i64 0, .int .i64 0, .slice none 0 0, .int .i64 0, .slice none 0 0, .slice none 0 0, .bool false] 28
  have hA : Below w.heap.size w (((w.alloc (.cells #[.int .i64 o.kind, .int .i64 o.atN, .int .i64 o.atR, .int .i64 o.nodeN, .int .i64 o.nodeR, .int .i64 o.parN, .int .i64 o.parR, .slice pk o.key.length ck, .int .i64 o.elem, .slice pn o.name.length cn, .slice pt o.text.length ct, .bool o.gone] 41)).alloc (.cells #[.int .i64 0, .int .i64 0, .int .i64 0, .int .i64 0, .int .i64 0, .int .i64 0, .int .i64 0, .slice none 0 0, .int .i64 0, .slice none 0 0, .slice none 0 0, .bool false] 28)).alloc (.cells #[.int .i64 o.kind, .int .i64 0, .int .i64 0, .int .i64 0, .int .i64 0, .int .i64 0, .int .i64 0, .slice none 0 0, .int .i64 0, .slice none 0 0, .slice none 0 0, .bool false] 28)) := (((Below.refl _ _).alloc (Nat.le_refl _) _).alloc (by simp) _).alloc (by simp; omega) _
  simp only [World.size_alloc] at l1 l2
  have L := hide (And.intro l0 (And.intro l1 (And.intro l2 hA)))
  clear l0 l1 l2 hA
  go_enter Tryz.func16, Tryz.ntmps16
  go_wp2_with fail
  obtain ⟨l0, l1, l2, hA⟩ := unhide L
  clear L
  generalize (((w.alloc (.cells #[.int .i64 o.kind, .int .i64 o.atN, .int .i64 o.atR, .int .i64 o.nodeN, .int .i64 o.nodeR, .int .i64 o.parN, .int .i64 o.parR, .slice pk o.key.length ck, .int .i64 o.elem, .slice pn o.name.length cn, .slice pt o.text.length ct, .bool o.gone] 41)).alloc (.cells #[.int .i64 0, .int .i64 0, .int .i64 0, .int .i64 0, .int .i64 0, .int .i64 0, .int .i64 0, .slice none 0 0, .int .i64 0, .slice none 0 0, .slice none 0 0, .bool false] 28)).alloc (.cells #[.int .i64 o.kind, .int .i64 0, .int .i64 0, .int .i64 0, .int .i64 0, .int .i64 0, .int .i64 0, .slice none 0 0, .int .i64 0, .slice none 0 0, .slice none 0 0, .bool false] 28)) = W at *
  refine (toId_any _ o.atN o.atR).mono ?_
  rintro e w1 ⟨rfl, hB⟩
  replace l0 := l0.all hB
  replace l1 := l1.all hB
  replace l2 := l2.all hB
  replace hA := bstep hA hB
  clear hB
  have e0_3 := l0.cell 3
  have e0_4 := l0.cell 4
  have e2_1 := l2.cell 1
  have f2_1 := l2.frozen 1
  have e2_2 := l2.cell 2
  have f2_2 := l2.frozen 2
  simp at e0_3 e0_4 e2_1 e2_2
  have m0 : Loc ((w1.setCell ⟨w.heap.size + 1 + 1, 1, none⟩ (.int .i64 o.atN)).setCell ⟨w.heap.size + 1 + 1, 2, none⟩ (.int .i64 o.atR)) w.heap.size #[.int .i64 o.kind, .int .i64 o.atN, .int .i64 o.atR, .int .i64 o.nodeN, .int .i64 o.nodeR, .int .i64 o.parN, .int .i64 o.parR, .slice pk o.key.length ck, .int .i64 o.elem, .slice pn o.name.length cn, .slice pt o.text.length ct, .bool o.gone] 41 := ((l0.other _ _ _ (by omega)).other _ _ _ (by omega))
  have m1 : Loc ((w1.setCell ⟨w.heap.size + 1 + 1, 1, none⟩ (.int .i64 o.atN)).setCell ⟨w.heap.size + 1 + 1, 2, none⟩ (.int .i64 o.atR)) (w.heap.size + 1) #[.int .i64 0, .int .i64 0, .int .i64 0, .int .i64 0, .int .i64 0, .int .i64 0, .int .i64 0, .slice none 0 0, .int .i64 0, .slice none 0 0, .slice none 0 0, .bool false] 28 := ((l1.other _ _ _ (by omega)).other _ _ _ (by omega))
  have m2 : Loc ((w1.setCell ⟨w.heap.size + 1 + 1, 1, none⟩ (.int .i64 o.atN)).setCell ⟨w.heap.size + 1 + 1, 2, none⟩ (.int .i64 o.atR)) (w.heap.size + 1 + 1) #[.int .i64 o.kind, .int .i64 o.atN, .int .i64 o.atR, .int .i64 0, .int .i64 0, .int .i64 0, .int .i64 0, .slice none 0 0, .int .i64 0, .slice none 0 0, .slice none 0 0, .bool false] 28 := ((l2.set 1 (.int .i64 o.atN)).set 2 (.int .i64 o.atR)).be (by simp)
  have hf : Frm w1 ((w1.setCell ⟨w.heap.size + 1 + 1, 1, none⟩ (.int .i64 o.atN)).setCell ⟨w.heap.size + 1 + 1, 2, none⟩ (.int .i64 o.atR)) [w.heap.size + 1 + 1] := ((set_frm _ _ _ _).trans (set_frm _ _ _ _))
  have hA2 : Below w.heap.size w ((w1.setCell ⟨w.heap.size + 1 + 1, 1, none⟩ (.int .i64 o.atN)).setCell ⟨w.heap.size + 1 + 1, 2, none⟩ (.int .i64 o.atR)) := hA.trans (hf.below hA.size (fun g hg => by simp at hg; omega))
  have L := hide (And.intro m0 (And.intro m1 (And.intro m2 hA2)))
  clear m0 m1 m2 hf hA2 l0 l1 l2 hA
  go_wp2_with fail
  obtain ⟨l0, l1, l2, hA⟩ := unhide L
  clear L
  clear e0_3 e0_4 e2_1 f2_1 e2_2 f2_2
  refine (toId_any _ o.nodeN o.nodeR).mono ?_
  rintro e w2 ⟨rfl, hB⟩
  replace l0 := l0.all hB
  replace l1 := l1.all hB
  replace l2 := l2.all hB
  replace hA := bstep hA hB
  clear hB
  have e0_5 := l0.cell 5
  have e0_6 := l0.cell 6
  have e2_3 := l2.cell 3
  have f2_3 := l2.frozen 3
  have e2_4 := l2.cell 4
  have f2_4 := l2.frozen 4
  simp at e0_5 e0_6 e2_3 e2_4
  have m0 : Loc ((w2.setCell ⟨w.heap.size + 1 + 1, 3, none⟩ (.int .i64 o.nodeN)).setCell ⟨w.heap.size + 1 + 1, 4, none⟩ (.int .i64 o.nodeR)) w.heap.size #[.int .i64 o.kind, .int .i64 o.atN, .int .i64 o.atR, .int .i64 o.nodeN, .int .i64 o.nodeR, .int .i64 o.parN, .int .i64 o.parR, .slice pk o.key.length ck, .int .i64 o.elem, .slice pn o.name.length cn, .slice pt o.text.length ct, .bool o.gone] 41 := ((l0.other _ _ _ (by omega)).other _ _ _ (by omega))
  have m1 : Loc ((w2.setCell ⟨w.heap.size + 1 + 1, 3, none⟩ (.int .i64 o.nodeN)).setCell ⟨w.heap.size + 1 + 1, 4, none⟩ (.int .i64 o.nodeR)) (w.heap.size + 1) #[.int .i64 0, .int .i64 0, .int .i64 0, .int .i64 0, .int .i64 0, .int .i64 0, .int .i64 0, .slice none 0 0, .int .i64 0, .slice none 0 0, .slice none 0 0, .bool false] 28 := ((l1.other _ _ _ (by omega)).other _ _ _ (by omega))
  have m2 : Loc ((w2.setCell ⟨w.heap.size + 1 + 1, 3, none⟩ (.int .i64 o.nodeN)).setCell ⟨w.heap.size + 1 + 1, 4, none⟩ (.int .i64 o.nodeR)) (w.heap.size + 1 + 1) #[.int .i64 o.kind, .int .i64 o.atN, .int .i64 o.atR, .int .i64 o.nodeN, .int .i64 o.nodeR, .int .i64 0, .int .i64 0, .slice none 0 0, .int .i64 0, .slice none 0 0, .slice none 0 0, .bool false] 28 := ((l2.set 3 (.int .i64 o.nodeN)).set 4 (.int .i64 o.nodeR)).be (by simp)
  have hf : Frm w2 ((w2.setCell ⟨w.heap.size + 1 + 1, 3, none⟩ (.int .i64 o.nodeN)).setCell ⟨w.heap.size + 1 + 1, 4, none⟩ (.int .i64 o.nodeR)) [w.heap.size + 1 + 1] := ((set_frm _ _ _ _).trans (set_frm _ _ _ _))
  have hA2 : Below w.heap.size w ((w2.setCell ⟨w.heap.size + 1 + 1, 3, none⟩ (.int .i64 o.nodeN)).setCell ⟨w.heap.size + 1 + 1, 4, none⟩ (.int .i64 o.nodeR)) := hA.trans (hf.below hA.size (fun g hg => by simp at hg; omega))
  have L := hide (And.intro m0 (And.intro m1 (And.intro m2 hA2)))
  clear m0 m1 m2 hf hA2 l0 l1 l2 hA
  go_wp2_with fail
  obtain ⟨l0, l1, l2, hA⟩ := unhide L
  clear L
  clear e0_5 e0_6 e2_3 f2_3 e2_4 f2_4
  refine (toId_any _ o.parN o.parR).mono ?_
  rintro e w3 ⟨rfl, hB⟩
  replace l0 := l0.all hB
  replace l1 := l1.all hB
  replace l2 := l2.all hB
  replace hA := bstep hA hB
  clear hB
  have e0_7 := l0.cell 7
  have e2_5 := l2.cell 5
  have f2_5 := l2.frozen 5
  have e2_6 := l2.cell 6
  have f2_6 := l2.frozen 6
  simp at e0_7 e2_5 e2_6
  have m0 : Loc ((w3.setCell ⟨w.heap.size + 1 + 1, 5, none⟩ (.int .i64 o.parN)).setCell ⟨w.heap.size + 1 + 1, 6, none⟩ (.int .i64 o.parR)) w.heap.size #[.int .i64 o.kind, .int .i64 o.atN, .int .i64 o.atR, .int .i64 o.nodeN, .int .i64 o.nodeR, .int .i64 o.parN, .int .i64 o.parR, .slice pk o.key.length ck, .int .i64 o.elem, .slice pn o.name.length cn, .slice pt o.text.length ct, .bool o.gone] 41 := ((l0.other _ _ _ (by omega)).other _ _ _ (by omega))
  have m1 : Loc ((w3.setCell ⟨w.heap.size + 1 + 1, 5, none⟩ (.int .i64 o.parN)).setCell ⟨w.heap.size + 1 + 1, 6, none⟩ (.int .i64 o.parR)) (w.heap.size + 1) #[.int .i64 0, .int .i64 0, .int .i64 0, .int .i64 0, .int .i64 0, .int .i64 0, .int .i64 0, .slice none 0 0, .int .i64 0, .slice none 0 0, .slice none 0 0, .bool false] 28 := ((l1.other _ _ _ (by omega)).other _ _ _ (by omega))
  have m2 : Loc ((w3.setCell ⟨w.heap.size + 1 + 1, 5, none⟩ (.int .i64 o.parN)).setCell ⟨w.heap.size + 1 + 1, 6, none⟩ (.int .i64 o.parR)) (w.heap.size + 1 + 1) #[.int .i64 o.kind, .int .i64 o.atN, .int .i64 o.atR, .int .i64 o.nodeN, .int .i64 o.nodeR, .int .i64 o.parN, .int .i64 o.parR, .slice none 0 0, .int .i64 0, .slice none 0 0, .slice none 0 0, .bool false] 28 := ((l2.set 5 (.int .i64 o.parN)).set 6 (.int .i64 o.parR)).be (by simp)
  have hf : Frm w3 ((w3.setCell ⟨w.heap.size + 1 + 1, 5, none⟩ (.int .i64 o.parN)).setCell ⟨w.heap.size + 1 + 1, 6, none⟩ (.int .i64 o.parR)) [w.heap.size + 1 + 1] := ((set_frm _ _ _ _).trans (set_frm _ _ _ _))
  have hA2 : Below w.heap.size w ((w3.setCell ⟨w.heap.size + 1 + 1, 5, none⟩ (.int .i64 o.parN)).setCell ⟨w.heap.size + 1 + 1, 6, none⟩ (.int .i64 o.parR)) := hA.trans (hf.below hA.size (fun g hg => by simp at hg; omega))
  have L := hide (And.intro m0 (And.intro m1 (And.intro m2 hA2)))
  clear m0 m1 m2 hf hA2 l0 l1 l2 hA
  go_wp2_with fail
  obtain ⟨l0, l1, l2, hA⟩ := unhide L
  clear L
  clear e0_7 e2_5 f2_5 e2_6 f2_6
  have zk := l2.lt
  refine (toZ_any _ _ o.key ((unhide H).1.keep hA) (by have := unhide HS; omega)).mono ?_
  rintro e w4 ⟨vk, rfl, ok, _, hB⟩
  obtain ⟨ak, dk, hvk, _, _⟩ := ok.ints.shape
  subst hvk
  have rk := ok.rng
  have sk := hB.size
  replace l0 := l0.all hB
  replace l1 := l1.all hB
  replace l2 := l2.all hB
  replace hA := bstep hA hB
  clear hB
  have e0_8 := l0.cell 8
  have e0_9 := l0.cell 9
  have e2_7 := l2.cell 7
  have f2_7 := l2.frozen 7
  have e2_8 := l2.cell 8
  have f2_8 := l2.frozen 8
  simp at e0_8 e0_9 e2_7 e2_8
  have m0 : Loc ((w4.setCell ⟨w.heap.size + 1 + 1, 7, none⟩ (.slice ak o.key.length dk)).setCell ⟨w.heap.size + 1 + 1, 8, none⟩ (.int .i64 o.elem)) w.heap.size #[.int .i64 o.kind, .int .i64 o.atN, .int .i64 o.atR, .int .i64 o.nodeN, .int .i64 o.nodeR, .int .i64 o.parN, .int .i64 o.parR, .slice pk o.key.length ck, .int .i64 o.elem, .slice pn o.name.length cn, .slice pt o.text.length ct, .bool o.gone] 41 := ((l0.other _ _ _ (by omega)).other _ _ _ (by omega))
  have m1 : Loc ((w4.setCell ⟨w.heap.size + 1 + 1, 7, none⟩ (.slice ak o.key.length dk)).setCell ⟨w.heap.size + 1 + 1, 8, none⟩ (.int .i64 o.elem)) (w.heap.size + 1) #[.int .i64 0, .int .i64 0, .int .i64 0, .int .i64 0, .int .i64 0, .int .i64 0, .int .i64 0, .slice none 0 0, .int .i64 0, .slice none 0 0, .slice none 0 0, .bool false] 28 := ((l1.other _ _ _ (by omega)).other _ _ _ (by omega))
  have m2 : Loc ((w4.setCell ⟨w.heap.size + 1 + 1, 7, none⟩ (.slice ak o.key.length dk)).setCell ⟨w.heap.size + 1 + 1, 8, none⟩ (.int .i64 o.elem)) (w.heap.size + 1 + 1) #[.int .i64 o.kind, .int .i64 o.atN, .int .i64 o.atR, .int .i64 o.nodeN, .int .i64 o.nodeR, .int .i64 o.parN, .int .i64 o.parR, .slice ak o.key.length dk, .int .i64 o.elem, .slice none 0 0, .slice none 0 0, .bool false] 28 := ((l2.set 7 (.slice ak o.key.length dk)).set 8 (.int .i64 o.elem)).be (by simp)
  have hf : Frm w4 ((w4.setCell ⟨w.heap.size + 1 + 1, 7, none⟩ (.slice ak o.key.length dk)).setCell ⟨w.heap.size + 1 + 1, 8, none⟩ (.int .i64 o.elem)) [w.heap.size + 1 + 1] := ((set_frm _ _ _ _).trans (set_frm _ _ _ _))
  have hA2 : Below w.heap.size w ((w4.setCell ⟨w.heap.size + 1 + 1, 7, none⟩ (.slice ak o.key.length dk)).setCell ⟨w.heap.size + 1 + 1, 8, none⟩ (.int .i64 o.elem)) := hA.trans (hf.below hA.size (fun g hg => by simp at hg; omega))
  have qk := ok.frm hf (fun g hg => by have := rk g hg; simp; omega)
  have L := hide (And.intro qk (And.intro m0 (And.intro m1 (And.intro m2 hA2))))
  clear m0 m1 m2 hf hA2 l0 l1 l2 hA qk ok
  go_wp2_with fail
  obtain ⟨ok, l0, l1, l2, hA⟩ := unhide L
  clear L
  clear e0_8 e0_9 e2_7 f2_7 e2_8 f2_8
  have zn := l2.lt
  refine (toB_any _ _ o.name ((unhide H).2.1.keep hA) (by have := unhide HS; omega)).mono ?_
  rintro e w5 ⟨vn, rfl, on, _, hB⟩
  obtain ⟨an, dn, hvn, _, _⟩ := on.byt.shape
  subst hvn
  have rn := on.rng
  replace ok := ok.keep hB
  have sn := hB.size
  replace l0 := l0.all hB
  replace l1 := l1.all hB
  replace l2 := l2.all hB
  replace hA := bstep hA hB
  clear hB
  have e0_10 := l0.cell 10
  have e2_9 := l2.cell 9
  have f2_9 := l2.frozen 9
  simp at e0_10 e2_9
  have m0 : Loc (w5.setCell ⟨w.heap.size + 1 + 1, 9, none⟩ (.slice an o.name.length dn)) w.heap.size #[.int .i64 o.kind, .int .i64 o.atN, .int .i64 o.atR, .int .i64 o.nodeN, .int .i64 o.nodeR, .int .i64 o.parN, .int .i64 o.parR, .slice pk o.key.length ck, .int .i64 o.elem, .slice pn o.name.length cn, .slice pt o.text.length ct, .bool o.gone] 41 := (l0.other _ _ _ (by omega))
  have m1 : Loc (w5.setCell ⟨w.heap.size + 1 + 1, 9, none⟩ (.slice an o.name.length dn)) (w.heap.size + 1) #[.int .i64 0, .int .i64 0, .int .i64 0, .int .i64 0, .int .i64 0, .int .i64 0, .int .i64 0, .slice none 0 0, .int .i64 0, .slice none 0 0, .slice none 0 0, .bool false] 28 := (l1.other _ _ _ (by omega))
  have m2 : Loc (w5.setCell ⟨w.heap.size + 1 + 1, 9, none⟩ (.slice an o.name.length dn)) (w.heap.size + 1 + 1) #[.int .i64 o.kind, .int .i64 o.atN, .int .i64 o.atR, .int .i64 o.nodeN, .int .i64 o.nodeR, .int .i64 o.parN, .int .i64 o.parR, .slice ak o.key.length dk, .int .i64 o.elem, .slice an o.name.length dn, .slice none 0 0, .bool false] 28 := (l2.set 9 (.slice an o.name.length dn)).be (by simp)
  have hf : Frm w5 (w5.setCell ⟨w.heap.size + 1 + 1, 9, none⟩ (.slice an o.name.length dn)) [w.heap.size + 1 + 1] := (set_frm _ _ _ _)
  have hA2 : Below w.heap.size w (w5.setCell ⟨w.heap.size + 1 + 1, 9, none⟩ (.slice an o.name.length dn)) := hA.trans (hf.below hA.size (fun g hg => by simp at hg; omega))
  have qk := ok.frm hf (fun g hg => by have := rk g hg; simp; omega)
  have qn := on.frm hf (fun g hg => by have := rn g hg; simp; omega)
  have L := hide (And.intro qn (And.intro qk (And.intro m0 (And.intro m1 (And.intro m2 hA2)))))
  clear m0 m1 m2 hf hA2 l0 l1 l2 hA qk ok qn on
  go_wp2_with fail
  obtain ⟨on, ok, l0, l1, l2, hA⟩ := unhide L
  clear L
  clear e0_10 e2_9 f2_9
  have zt := l2.lt
  refine (toB_any _ _ o.text ((unhide H).2.2.keep hA) (by have := unhide HS; omega)).mono ?_
  rintro e w6 ⟨vt, rfl, ot, _, hB⟩
  obtain ⟨at1, dt, hvt, _, _⟩ := ot.byt.shape
  subst hvt
  have rt := ot.rng
  replace ok := ok.keep hB
  replace on := on.keep hB
  have st := hB.size
  replace l0 := l0.all hB
  replace l1 := l1.all hB
  replace l2 := l2.all hB
  replace hA := bstep hA hB
  clear hB
  have e0_11 := l0.cell 11
  have e2_10 := l2.cell 10
  have f2_10 := l2.frozen 10
  have e2_11 := l2.cell 11
  have f2_11 := l2.frozen 11
  simp at e0_11 e2_10 e2_11
  have e2_0 := l2.cell 0
  have e2_1 := l2.cell 1
  have e2_2 := l2.cell 2
  have e2_3 := l2.cell 3
  have e2_4 := l2.cell 4
  have e2_5 := l2.cell 5
  have e2_6 := l2.cell 6
  have e2_7 := l2.cell 7
  have e2_8 := l2.cell 8
  have e2_9 := l2.cell 9
  have e1_0 := l1.cell 0
  have f1_0 := l1.frozen 0
  have e1_1 := l1.cell 1
  have f1_1 := l1.frozen 1
  have e1_2 := l1.cell 2
  have f1_2 := l1.frozen 2
  have e1_3 := l1.cell 3
  have f1_3 := l1.frozen 3
  have e1_4 := l1.cell 4
  have f1_4 := l1.frozen 4
  have e1_5 := l1.cell 5
  have f1_5 := l1.frozen 5
  have e1_6 := l1.cell 6
  have f1_6 := l1.frozen 6
  have e1_7 := l1.cell 7
  have f1_7 := l1.frozen 7
  have e1_8 := l1.cell 8
  have f1_8 := l1.frozen 8
  have e1_9 := l1.cell 9
  have f1_9 := l1.frozen 9
  have e1_10 := l1.cell 10
  have f1_10 := l1.frozen 10
  have e1_11 := l1.cell 11
  have f1_11 := l1.frozen 11
  simp at e2_0 e2_1 e2_2 e2_3 e2_4 e2_5 e2_6 e2_7 e2_8 e2_9 e1_0 e1_1 e1_2 e1_3 e1_4 e1_5 e1_6 e1_7 e1_8 e1_9 e1_10 e1_11
  have hf : Frm w6 ((((((((((((((w6.setCell ⟨w.heap.size + 1 + 1, 10, none⟩ (.slice at1 o.text.length dt)).setCell ⟨w.heap.size + 1 + 1, 11, none⟩ (.bool o.gone)).setCell ⟨w.heap.size + 1, 0, none⟩ (.int .i64 o.kind)).setCell ⟨w.heap.size + 1, 1, none⟩ (.int .i64 o.atN)).setCell ⟨w.heap.size + 1, 2, none⟩ (.int .i64 o.atR)).setCell ⟨w.heap.size + 1, 3, none⟩ (.int .i64 o.nodeN)).setCell ⟨w.heap.size + 1, 4, none⟩ (.int .i64 o.nodeR)).setCell ⟨w.heap.size + 1, 5, none⟩ (.int .i64 o.parN)).setCell ⟨w.heap.size + 1, 6, none⟩ (.int .i64 o.parR)).setCell ⟨w.heap.size + 1, 7, none⟩ (.slice ak o.key.length dk)).setCell ⟨w.heap.size + 1, 8, none⟩ (.int .i64 o.elem)).setCell ⟨w.heap.size + 1, 9, none⟩ (.slice an o.name.length dn)).setCell ⟨w.heap.size + 1, 10, none⟩ (.slice at1 o.text.length dt)).setCell ⟨w.heap.size + 1, 11, none⟩ (.bool o.gone)) [w.heap.size + 1 + 1, w.heap.size + 1] := (((((((((((((((set_frm _ _ _ _).mono (by simp)).trans ((set_frm _ _ _ _).mono (by simp))).trans ((set_frm _ _ _ _).mono (by simp))).trans ((set_frm _ _ _ _).mono (by simp))).trans ((set_frm _ _ _ _).mono (by simp))).trans ((set_frm _ _ _ _).mono (by simp))).trans ((set_frm _ _ _ _).mono (by simp))).trans ((set_frm _ _ _ _).mono (by simp))).trans ((set_frm _ _ _ _).mono (by simp))).trans ((set_frm _ _ _ _).mono (by simp))).trans ((set_frm _ _ _ _).mono (by simp))).trans ((set_frm _ _ _ _).mono (by simp))).trans ((set_frm _ _ _ _).mono (by simp))).trans ((set_frm _ _ _ _).mono (by simp)))
  have hA2 : Below w.heap.size w ((((((((((((((w6.setCell ⟨w.heap.size + 1 + 1, 10, none⟩ (.slice at1 o.text.length dt)).setCell ⟨w.heap.size + 1 + 1, 11, none⟩ (.bool o.gone)).setCell ⟨w.heap.size + 1, 0, none⟩ (.int .i64 o.kind)).setCell ⟨w.heap.size + 1, 1, none⟩ (.int .i64 o.atN)).setCell ⟨w.heap.size + 1, 2, none⟩ (.int .i64 o.atR)).setCell ⟨w.heap.size + 1, 3, none⟩ (.int .i64 o.nodeN)).setCell ⟨w.heap.size + 1, 4, none⟩ (.int .i64 o.nodeR)).setCell ⟨w.heap.size + 1, 5, none⟩ (.int .i64 o.parN)).setCell ⟨w.heap.size + 1, 6, none⟩ (.int .i64 o.parR)).setCell ⟨w.heap.size + 1, 7, none⟩ (.slice ak o.key.length dk)).setCell ⟨w.heap.size + 1, 8, none⟩ (.int .i64 o.elem)).setCell ⟨w.heap.size + 1, 9, none⟩ (.slice an o.name.length dn)).setCell ⟨w.heap.size + 1, 10, none⟩ (.slice at1 o.text.length dt)).setCell ⟨w.heap.size + 1, 11, none⟩ (.bool o.gone)) := hA.trans (hf.below hA.size (fun g hg => by simp at hg; omega))
  have qk := (ok.frm hf (fun g hg => by have := rk g hg; simp; omega)).mono (show w.heap.size ≤ _ by omega)
  have qn := (on.frm hf (fun g hg => by have := rn g hg; simp; omega)).mono (show w.heap.size ≤ _ by omega)
  have qt := (ot.frm hf (fun g hg => by have := rt g hg; simp; omega)).mono (show w.heap.size ≤ _ by omega)
  have hnd : (FB (.slice ak o.key.length dk) ++ FB (.slice an o.name.length dn) ++ FB (.slice at1 o.text.length dt)).Nodup := by
    simp at sn st zn zt
    refine nodup_app (lo := 0) (nodup_app (FB_nodup _) (FB_nodup _) rk (rn.mono (by simp) (Nat.le_refl _))) (FB_nodup _) ((rk.mono (Nat.zero_le _) (by omega)).app (rn.mono (Nat.zero_le _) (Nat.le_refl _))) (rt.mono (by simp) (Nat.le_refl _))
  have L := hide (And.intro qk (And.intro qn (And.intro qt (And.intro hnd hA2))))
  clear qk qn qt hnd hA2 hf l0 l1 l2 hA ok on ot rk rn rt H
  go_wp2_with fail
  obtain ⟨qk, qn, qt, hnd, hA2⟩ := unhide L
  exact bodyPost_ret (v := opVal o (.slice ak o.key.length dk) (.slice an o.name.length dn) (.slice at1 o.text.length dt)) (by simp [results, Tryz.results16, go_sem, opVal, e1_0, e1_1, e1_2, e1_3, e1_4, e1_5, e1_6, e1_7, e1_8, e1_9, e1_10, e1_11]) rfl ⟨_, _, _, rfl, qk, qn, qt, hnd, hA2⟩

end Go.Proofs.YtkmmhlimihkgfaaGreat

/- Operations in blocks of their own. -/
namespace Go.Proofs.YtkmmhlimihkgfaaGreat
open Go.RowKit
set_option linter.unusedVariables false
set_option maxRecDepth 100000

theorem Loc.twelve {w : World} {g : Nat} {v0 v1 v2 v3 v4 v5 v6 v7 v8 v9 v10 v11 : Value} {T : TypeId} (h : Loc w g #[v0, v1, v2, v3, v4, v5, v6, v7, v8, v9, v10, v11] T) :
    w.cell? ⟨g, 0, none⟩ = some v0 ∧ w.cell? ⟨g, 1, none⟩ = some v1 ∧ w.cell? ⟨g, 2, none⟩ = some v2 ∧ w.cell? ⟨g, 3, none⟩ = some v3 ∧ w.cell? ⟨g, 4, none⟩ = some v4 ∧ w.cell? ⟨g, 5, none⟩ = some v5 ∧ w.cell? ⟨g, 6, none⟩ = some v6 ∧ w.cell? ⟨g, 7, none⟩ = some v7 ∧ w.cell? ⟨g, 8, none⟩ = some v8 ∧ w.cell? ⟨g, 9, none⟩ = some v9 ∧ w.cell? ⟨g, 10, none⟩ = some v10 ∧ w.cell? ⟨g, 11, none⟩ = some v11 :=
  ⟨h.cell 0, h.cell 1, h.cell 2, h.cell 3, h.cell 4, h.cell 5, h.cell 6, h.cell 7, h.cell 8, h.cell 9, h.cell 10, h.cell 11⟩

theorem RdOp.keep {w w' : World} {v : Value} {o : OpV} (h : RdOp w v o) (hb : Below w.heap.size w w') : RdOp w' v o := by
  obtain ⟨k, n, t, rfl, h1, h2, h3⟩ := h
  exact ⟨k, n, t, rfl, h1.keep hb, h2.keep hb, h3.keep hb⟩
/-- An operation in blocks of its own, from 'base' on. -/
def OwOp (w : World) (base : Nat) (o : OpV) (k n t : Value) : Prop := OwnZ w base k o.key ∧ Own w base n o.name ∧ Own w base t o.text ∧ (FB k ++ FB n ++ FB t).Nodup
theorem OwOp.keep {w w' : World} {base : Nat} {o : OpV} {k n t : Value} (h : OwOp w base o k n t) (hb : Below w.heap.size w w') : OwOp w' base o k n t := ⟨h.1.keep hb, h.2.1.keep hb, h.2.2.1.keep hb, h.2.2.2⟩
theorem OwOp.rd {w : World} {base : Nat} {o : OpV} {k n t : Value} (h : OwOp w base o k n t) : RdOp w (opVal o k n t) o := ⟨k, n, t, rfl, h.1.ints, h.2.1.byt, h.2.2.1.byt⟩

/-- What the law asks of impl's OpOk. -/
def OpISaid : Prop := ∀ (w : World) (o : OpV) (base : Nat) (k n t : Value), OwOp w base o k n t → o.key.length + o.name.length + o.text.length ≤ 2097152 →
    Calls Tryz.prog 38 #[opVal o k n t] w fun e w' => e = .returned (.bool (opB o)) ∧ Below w.heap.size w w'

/-- toOp, its rows by their parts. -/
theorem toOp_own (w : World) (v : Value) (o : OpV) (h : RdOp w v o) (hs : o.key.length + o.name.length + o.text.length ≤ 2097152) :
    Calls Tryz.prog 16 #[v] w fun e w' => ∃ a1 c1 a2 c2 a3 c3, e = .returned (opVal o (.slice a1 o.key.length c1) (.slice a2 o.name.length c2) (.slice a3 o.text.length c3)) ∧ OwOp w' w.heap.size o (.slice a1 o.key.length c1) (.slice a2 o.name.length c2) (.slice a3 o.text.length c3) ∧ Below w.heap.size w w' := by
  refine (toOp_any w v o h hs).mono ?_
  rintro e w' ⟨k, n, t, rfl, h1, h2, h3, h4, h5⟩
  obtain ⟨a1, c1, rfl, _, _⟩ := h1.ints.shape
  obtain ⟨a2, c2, rfl, _, _⟩ := h2.byt.shape
  obtain ⟨a3, c3, rfl, _, _⟩ := h3.byt.shape
  exact ⟨a1, c1, a2, c2, a3, c3, rfl, ⟨h1, h2, h3, h4⟩, h5⟩

end Go.Proofs.YtkmmhlimihkgfaaGreat

/- Rows of operations: what it is for one to be readable in memory. -/
namespace Go.Proofs.YtkmmhlimihkgfaaGreat
open Go.RowKit
set_option linter.unusedVariables false

/-- The twelve cells of an operation. -/
def RdOpC (w : World) (C : List Value) (o : OpV) : Prop := ∃ k n t, C = [.int .i64 o.kind, .int .i64 o.atN, .int .i64 o.atR, .int .i64 o.nodeN, .int .i64 o.nodeR, .int .i64 o.parN, .int .i64 o.parR, k, .int .i64 o.elem, n, t, .bool o.gone] ∧ Ints w k o.key ∧ Byt w n o.name ∧ Byt w t o.text
def RdOps (w : World) (v : Value) (l : List OpV) : Prop := Elems w 12 v l (RdOpC w)
theorem RdOps.keep {w w' : World} {v : Value} {l : List OpV} (h : RdOps w v l) (hb : Below w.heap.size w w') : RdOps w' v l :=
  Elems.keep h hb (fun C x _ ⟨k, n, t, e, h1, h2, h3⟩ => ⟨k, n, t, e, h1.keep hb, h2.keep hb, h3.keep hb⟩)

/-- An element, cell by cell, its rows by their parts. -/
theorem opc_at {w W : World} {b off i : Nat} {o : OpV} (hW : Below w.heap.size w W) (hb : b < w.heap.size) (h : ∃ C : List Value, C.length = 12 ∧ (∀ j, j < 12 → w.cell? ⟨b, off + i * 12 + j, none⟩ = C[j]?) ∧ RdOpC w C o) :
    ∃ a1 c1 a2 c2 a3 c3, W.cell? ⟨b, off + i * 12, none⟩ = some (.int .i64 o.kind) ∧ W.cell? ⟨b, off + i * 12 + 1, none⟩ = some (.int .i64 o.atN) ∧ W.cell? ⟨b, off + i * 12 + 2, none⟩ = some (.int .i64 o.atR) ∧ W.cell? ⟨b, off + i * 12 + 3, none⟩ = some (.int .i64 o.nodeN) ∧ W.cell? ⟨b, off + i * 12 + 4, none⟩ = some (.int .i64 o.nodeR) ∧ W.cell? ⟨b, off + i * 12 + 5, none⟩ = some (.int .i64 o.parN) ∧ W.cell? ⟨b, off + i * 12 + 6, none⟩ = some (.int .i64 o.parR) ∧ W.cell? ⟨b, off + i * 12 + 7, none⟩ = some (.slice a1 o.key.length c1) ∧ W.cell? ⟨b, off + i * 12 + 8, none⟩ = some (.int .i64 o.elem) ∧ W.cell? ⟨b, off + i * 12 + 9, none⟩ = some (.slice a2 o.name.length c2) ∧ W.cell? ⟨b, off + i * 12 + 10, none⟩ = some (.slice a3 o.text.length c3) ∧ W.cell? ⟨b, off + i * 12 + 11, none⟩ = some (.bool o.gone) ∧
      RdOp W (opVal o (.slice a1 o.key.length c1) (.slice a2 o.name.length c2) (.slice a3 o.text.length c3)) o := by
  obtain ⟨C, _, hc, k, n, t, rfl, hk, hn, ht⟩ := h
  obtain ⟨a1, c1, rfl, _, _⟩ := hk.shape
  obtain ⟨a2, c2, rfl, _, _⟩ := hn.shape
  obtain ⟨a3, c3, rfl, _, _⟩ := ht.shape
  have cc : ∀ j, j < 12 → W.cell? ⟨b, off + i * 12 + j, none⟩ = w.cell? ⟨b, off + i * 12 + j, none⟩ := fun j hj => hW.cell (p := ⟨b, off + i * 12 + j, none⟩) hb
  exact ⟨a1, c1, a2, c2, a3, c3, (cc 0 (by omega)).trans (hc 0 (by omega)), (cc 1 (by omega)).trans (hc 1 (by omega)), (cc 2 (by omega)).trans (hc 2 (by omega)), (cc 3 (by omega)).trans (hc 3 (by omega)), (cc 4 (by omega)).trans (hc 4 (by omega)), (cc 5 (by omega)).trans (hc 5 (by omega)), (cc 6 (by omega)).trans (hc 6 (by omega)), (cc 7 (by omega)).trans (hc 7 (by omega)), (cc 8 (by omega)).trans (hc 8 (by omega)), (cc 9 (by omega)).trans (hc 9 (by omega)), (cc 10 (by omega)).trans (hc 10 (by omega)), (cc 11 (by omega)).trans (hc 11 (by omega)), _, _, _, rfl, hk.keep hW, hn.keep hW, ht.keep hW⟩

/-- How great. -/
def szO (o : OpV) : Nat := o.key.length + o.name.length + o.text.length
def szOs (l : List OpV) : Nat := l.length + (l.map szO).sum
def sumO (l : List OpV) (k : Nat) : Nat := ((l.take k).map szO).sum
theorem sumO_step (l : List OpV) (k : Nat) (h : k < l.length) : sumO l (k + 1) = sumO l k + szO l[k] := by
  unfold sumO
  rw [List.take_succ_eq_append_getElem h]
  simp only [List.map_append, List.sum_append, List.map_cons, List.map_nil, List.sum_cons, List.sum_nil, Nat.add_zero]
theorem sumO_all (l : List OpV) : sumO l l.length = (l.map szO).sum := by simp [sumO]
theorem sumO_le (l : List OpV) (k : Nat) : sumO l k ≤ (l.map szO).sum := by
  have h : (l.map szO).sum = sumO l k + ((l.drop k).map szO).sum := by
    unfold sumO
    rw [← List.sum_append, ← List.map_append, List.take_append_drop]
  omega
theorem szO_le (l : List OpV) (i : Nat) (h : i < l.length) : szO l[i] ≤ (l.map szO).sum := by
  have h1 := sumO_step l i h
  have h2 := sumO_le l (i + 1)
  omega
end Go.Proofs.YtkmmhlimihkgfaaGreat

/- spec.Less and impl.Less answer what the plain order says; the law on Less. -/
namespace Go.Proofs.YtkmmhlimihkgfaaGreat
open Go.RowKit
set_option linter.unusedVariables false
set_option maxRecDepth 100000

def lessB (n r n' r' : Int) : Bool := decide (n < n') || (n == n' && decide (r < r'))

theorem lessB_cases (n r n' r' : Int) :
    (lessB n r n' r' = true ∧ decide (n < n') = true ∧ (n == n') = false ∧ n ≠ n') ∨
    (lessB n r n' r' = false ∧ decide (n < n') = false ∧ (n == n') = false ∧ n ≠ n') ∨
    (n = n' ∧ lessB n r n' r' = true ∧ decide (n < n') = false ∧ decide (r < r') = true ∧ r ≠ r') ∨
    (n = n' ∧ lessB n r n' r' = false ∧ decide (n < n') = false ∧ decide (r < r') = false) := by
  unfold lessB
  simp only [Bool.or_eq_true, Bool.or_eq_false_iff, Bool.and_eq_true, Bool.and_eq_false_iff, beq_iff_eq, beq_eq_false_iff_ne, decide_eq_true_eq, decide_eq_false_iff_not]
  omega

set_option maxHeartbeats 1600000 in
theorem lessS_any (w : World) (n r n' r' : Int) :
    Calls Tryz.prog 32 #[.agg #[.int .i64 n, .int .i64 r], .agg #[.int .i64 n', .int .i64 r']] w fun e w' => e = .returned (.bool (lessB n r n' r')) ∧ Below w.heap.size w w' := by
  have HB := hide (((Below.refl w.heap.size w).alloc (Nat.le_refl _) (.cells #[.int .i64 n, .int .i64 r] 25)).alloc (by simp) (.cells #[.int .i64 n', .int .i64 r'] 25))
  rcases lessB_cases n r n' r' with ⟨h, q1, q2, q3⟩ | ⟨h, q1, q2, q3⟩ | ⟨rfl, h, q1, q2, q3⟩ | ⟨rfl, h, q1, q2⟩
  all_goals
    have HE := hide h
    clear h
    go_enter Tryz.func32, Tryz.ntmps32
    go_wp2
    go_ret
    exact ⟨by rw [unhide HE]; rfl, unhide HB⟩

theorem Loc.two {w : World} {g : Nat} {v0 v1 : Value} {T : TypeId} (h : Loc w g #[v0, v1] T) : w.cell? ⟨g, 0, none⟩ = some v0 ∧ w.cell? ⟨g, 1, none⟩ = some v1 := ⟨h.cell 0, h.cell 1⟩

/-- Below 0, 0 or above 0. -/
def ordI (n r n' r' : Int) : Int := if n = n' ∧ r = r' then 0 else if lessB n r n' r' then -1 else 1
theorem ordI_lt (n r n' r' : Int) : decide (ordI n r n' r' < 0) = lessB n r n' r' := by
  unfold ordI
  split
  · rename_i h
    obtain ⟨rfl, rfl⟩ := h
    unfold lessB
    simp
  · split <;> simp [*]

set_option maxHeartbeats 1600000 in
theorem orderI_any (w : World) (n r n' r' : Int) :
    Calls Tryz.prog 121 #[.agg #[.int .i64 n, .int .i64 r], .agg #[.int .i64 n', .int .i64 r']] w fun e w' => e = .returned (.int .i64 (ordI n r n' r')) ∧ Below w.heap.size w w' := by
  have HB := hide (((Below.refl w.heap.size w).alloc (Nat.le_refl _) (.cells #[.int .i64 n, .int .i64 r] 25)).alloc (by simp) (.cells #[.int .i64 n', .int .i64 r'] 25))
  rcases lessB_cases n r n' r' with ⟨h, q1, q2, q3⟩ | ⟨h, q1, q2, q3⟩ | ⟨rfl, h, q1, q2, q3⟩ | ⟨rfl, h, q1, q2⟩
  · have HE := hide (show ordI n r n' r' = -1 by unfold ordI; rw [if_neg (fun k => q3 k.1), h]; rfl)
    clear h
    go_enter Tryz.func121, Tryz.ntmps121
    go_wp2
    go_ret
    exact ⟨by rw [unhide HE]; rfl, unhide HB⟩
  · have HE := hide (show ordI n r n' r' = 1 by unfold ordI; rw [if_neg (fun k => q3 k.1), h]; rfl)
    clear h
    go_enter Tryz.func121, Tryz.ntmps121
    go_wp2
    go_ret
    exact ⟨by rw [unhide HE]; rfl, unhide HB⟩
  · have HE := hide (show ordI n r n r' = -1 by unfold ordI; rw [if_neg (fun k => q3 k.2), h]; rfl)
    have q4 : (r == r') = false := by simpa using q3
    clear h
    go_enter Tryz.func121, Tryz.ntmps121
    go_wp2
    go_ret
    exact ⟨by rw [unhide HE]; rfl, unhide HB⟩
  · by_cases h2 : r = r'
    · subst h2
      have HE := hide (show ordI n r n r = 0 by unfold ordI; rw [if_pos ⟨rfl, rfl⟩])
      clear h
      go_enter Tryz.func121, Tryz.ntmps121
      go_wp2
      go_ret
      exact ⟨by rw [unhide HE]; rfl, unhide HB⟩
    · have HE := hide (show ordI n r n r' = 1 by unfold ordI; rw [if_neg (fun k => h2 k.2), h]; rfl)
      have q4 : (r == r') = false := by simpa using h2
      clear h
      go_enter Tryz.func121, Tryz.ntmps121
      go_wp2
      go_ret
      exact ⟨by rw [unhide HE]; rfl, unhide HB⟩

set_option maxHeartbeats 1600000 in
theorem lessI_any (w : World) (n r n' r' : Int) :
    Calls Tryz.prog 87 #[.agg #[.int .i64 n, .int .i64 r], .agg #[.int .i64 n', .int .i64 r']] w fun e w' => e = .returned (.bool (lessB n r n' r')) ∧ Below w.heap.size w w' := by
  have hB := (((Below.refl w.heap.size w).alloc (Nat.le_refl _) (.cells #[.int .i64 n, .int .i64 r] 25)).alloc (by simp) (.cells #[.int .i64 n', .int .i64 r'] 25))
  go_enter Tryz.func87, Tryz.ntmps87
  go_wp2_with fail
  refine (orderI_any _ n r n' r').mono ?_
  rintro e w1 ⟨rfl, hB1⟩
  have hB2 := bstep hB hB1
  have hl := ordI_lt n r n' r'
  generalize ordI n r n' r' = z at *
  go_wp2
  go_ret
  exact ⟨by rw [← hl]; rfl, hB2⟩

end Go.Proofs.YtkmmhlimihkgfaaGreat

/- Rows of operations: empty, or in a block. -/
namespace Go.Proofs.YtkmmhlimihkgfaaGreat
open Go.RowKit
set_option linter.unusedVariables false
set_option maxRecDepth 100000

theorem RdOps.cases {w : World} {v : Value} {l : List OpV} (h : RdOps w v l) : (l = [] ∧ ∃ a cap, v = .slice a 0 cap) ∨ (∃ b off cap, v = .slice (some ⟨b, off, none⟩) l.length cap ∧ l ≠ [] ∧ b < w.heap.size ∧ ∀ i (hi : i < l.length), ∃ C : List Value, C.length = 12 ∧ (∀ j, j < 12 → w.cell? ⟨b, off + i * 12 + j, none⟩ = C[j]?) ∧ RdOpC w C l[i]) := by
  obtain ⟨_, ⟨rfl, rfl⟩ | ⟨x, cap, rfl, hc, rfl⟩ | ⟨b, off, cap, rfl, g1, g2, g3, g4, g5⟩⟩ := h
  · exact .inl ⟨rfl, _, _, rfl⟩
  · exact .inl ⟨rfl, _, _, rfl⟩
  · exact .inr ⟨b, off, cap, rfl, g3, g4, g5⟩
/-- An operation of a row is one, and behind the one ahead of it. -/
def okAt (l : List OpV) (i : Nat) : Bool := if h : i < l.length then opB l[i] && (decide (i = 0) || lessB (l[i - 1]'(by omega)).atN (l[i - 1]'(by omega)).atR l[i].atN l[i].atR) else true
def opsB (l : List OpV) : Bool := decide (l.length ≤ 150) && (List.range l.length).all (okAt l)
theorem opsB_long {l : List OpV} (h : 150 < l.length) : opsB l = false := by unfold opsB; rw [decide_eq_false (by omega)]; rfl
theorem opsB_bad {l : List OpV} {k : Nat} (hk : k < l.length) (h : okAt l k = false) : opsB l = false := by
  unfold opsB
  rw [Bool.and_eq_false_iff]
  right
  rw [List.all_eq_false]
  exact ⟨k, by simpa using hk, by simp [h]⟩
theorem opsB_good {l : List OpV} (hn : l.length ≤ 150) (h : ∀ j, j < l.length → okAt l j = true) : opsB l = true := by
  unfold opsB
  rw [decide_eq_true hn, Bool.true_and, List.all_eq_true]
  intro j hj
  exact h j (by simpa using hj)
theorem okAt_no {l : List OpV} {k : Nat} (hk : k < l.length) (h : opB l[k] = false) : okAt l k = false := by unfold okAt; rw [dif_pos hk, h]; rfl
theorem okAt_0 {l : List OpV} (hk : 0 < l.length) (h : opB l[0] = true) : okAt l 0 = true := by unfold okAt; rw [dif_pos hk, h]; rfl
theorem okAt_s {l : List OpV} {j : Nat} (hk : j + 1 < l.length) (h : opB l[j + 1] = true) : okAt l (j + 1) = lessB (l[j]'(by omega)).atN (l[j]'(by omega)).atR l[j + 1].atN l[j + 1].atR := by
  unfold okAt
  rw [dif_pos hk, h, Bool.true_and]
  rw [decide_eq_false (by omega), Bool.false_or]
  rfl
end Go.Proofs.YtkmmhlimihkgfaaGreat

/- Where an operation's place is among sorted ones. Plain mathematics. -/
namespace Go.Proofs.YtkmmhlimihkgfaaGreat
open Go.RowKit
set_option linter.unusedVariables false

theorem less_trans {a b c d e f : Int} (h : lessB a b c d = true) (k : lessB c d e f = true) : lessB a b e f = true := by
  unfold lessB at *
  simp only [Bool.or_eq_true, decide_eq_true_eq, Bool.and_eq_true, beq_iff_eq] at *
  omega
theorem less_irr (a b : Int) : lessB a b a b = false := by unfold lessB; simp
theorem less_anti {a b c d : Int} (h : lessB a b c d = true) : lessB c d a b = false := by
  cases k : lessB c d a b with
  | false => rfl
  | true => have := less_trans h k; rw [less_irr] at this; cases this
/-- Ahead of the stamp (n, r). -/
def ahead (n r : Int) (p : OpV) : Bool := lessB p.atN p.atR n r
def posO (l : List OpV) (n r : Int) : Nat := (l.takeWhile (ahead n r)).length
theorem opsB_parts {l : List OpV} (h : opsB l = true) : l.length ≤ 150 ∧ ∀ j, j < l.length → okAt l j = true := by
  unfold opsB at h
  rw [Bool.and_eq_true, decide_eq_true_eq, List.all_eq_true] at h
  exact ⟨h.1, fun j hj => h.2 j (by simpa using hj)⟩
theorem opsB_each {l : List OpV} (h : opsB l = true) {j : Nat} (hj : j < l.length) : opB l[j] = true := by
  have := (opsB_parts h).2 j hj
  unfold okAt at this
  rw [dif_pos hj, Bool.and_eq_true] at this
  exact this.1
theorem opsB_next {l : List OpV} (h : opsB l = true) {j : Nat} (hj : j + 1 < l.length) : lessB l[j].atN l[j].atR l[j + 1].atN l[j + 1].atR = true := by
  have h1 := (opsB_parts h).2 (j + 1) hj
  rw [okAt_s hj (opsB_each h hj)] at h1
  exact h1
theorem opsB_sorted {l : List OpV} (h : opsB l = true) {i j : Nat} (hij : i < j) (hj : j < l.length) : lessB l[i].atN l[i].atR l[j].atN l[j].atR = true := by
  obtain ⟨d, rfl⟩ : ∃ d, j = i + 1 + d := ⟨j - i - 1, by omega⟩
  induction d with
  | zero => exact opsB_next h hj
  | succ d ih => exact less_trans (ih (by omega) (by omega)) (opsB_next h (j := i + 1 + d) hj)
/-- What is ahead of a stamp is a head of a sorted row. -/
theorem ahead_down {l : List OpV} (h : opsB l = true) {n r : Int} {i j : Nat} (hij : i ≤ j) (hj : j < l.length) (ha : ahead n r l[j] = true) : ahead n r l[i] = true := by
  rcases Nat.lt_or_eq_of_le hij with hlt | rfl
  · exact less_trans (opsB_sorted h hlt hj) ha
  · exact ha
theorem posO_of {l : List OpV} {n r : Int} {i : Nat} (hi : i ≤ l.length) (h1 : ∀ k (hk : k < l.length), k < i → ahead n r l[k] = true) (h2 : ∀ hk : i < l.length, ahead n r l[i] = false) : posO l n r = i := by
  unfold posO
  induction l generalizing i with
  | nil => simp at hi; subst hi; rfl
  | cons p l ih =>
    cases i with
    | zero =>
      have := h2 (by simp)
      simp only [List.getElem_cons_zero] at this
      rw [List.takeWhile_cons, if_neg (by rw [this]; decide)]
      rfl
    | succ i =>
      have h0 := h1 0 (by simp) (by omega)
      simp only [List.getElem_cons_zero] at h0
      rw [List.takeWhile_cons, if_pos h0, List.length_cons]
      rw [ih (i := i) (by simpa using hi) (fun k hk hki => by have := h1 (k + 1) (by simpa using hk) (by omega); simpa using this) (fun hk => by have := h2 (by simpa using hk); simpa using this)]
theorem posO_le (l : List OpV) (n r : Int) : posO l n r ≤ l.length := by
  unfold posO
  exact (List.takeWhile_prefix _).length_le
/-- An operation with this stamp stands at its place. -/
def there (l : List OpV) (n r : Int) : Bool := if h : posO l n r < l.length then decide (l[posO l n r].atN = n ∧ l[posO l n r].atR = r) else false
end Go.Proofs.YtkmmhlimihkgfaaGreat

/- A region that draws its order, whose operations only read and whose callees leave what was there as it was: one walk, in the order of the text. No program. -/
namespace Go.Proofs.YtkmmhlimihkgfaaGreat
open Go.RowKit
set_option linter.unusedVariables false

/-- A world in which all that was there in w is as it was. -/
structure Gr (w : World) where
  W : World
  h : Below w.heap.size w W
theorem wp_region_gr {P : Program} {id : Nat} {Q : Exit → Act → World → Prop} {a : Act} {w : World} {l : List Oper} (hm : P.follows .mixedOrders = true) (hB : Region.lexB .any l.toArray = true)
    (h : wpQuiet P l.toArray (fun w' => ∃ p : Gr w, w' = p.W) (fun a' => ∀ w', (∃ p : Gr w, w' = p.W) → Q .normal a' w') l a) : (Code.region id l.toArray true).wp P Q a w :=
  wp_region_quiet (C := fun w' => ∃ p : Gr w, w' = p.W) hm hB ⟨⟨w.drew, (Below.refl _ _).drew⟩, rfl⟩ (by simpa using h)
theorem Gr.cell {w : World} {a : Addr} {v : Value} (hb : a.block < w.heap.size) (h : w.cell? a = some v) (p : Gr w) : p.W.cell? a = some v := (p.h.cell hb).trans h
/-- A callee's contract, met in such a world. -/
theorem calls_gr {P : Program} {f : FuncId} {args : Array Value} {w : World} {p : Gr w} {v : Value} (h : Calls P f args p.W fun e w' => e = .returned v ∧ Below p.W.heap.size p.W w') : Calls P f args p.W fun e w'' => e = .returned v ∧ ∃ q : Gr w, w'' = q.W :=
  h.mono fun _ _ ⟨he, hB⟩ => ⟨he, ⟨⟨_, bstep p.h hB⟩, rfl⟩⟩
end Go.Proofs.YtkmmhlimihkgfaaGreat

/- Small laws of the walk. No program. -/
namespace Go.Proofs.YtkmmhlimihkgfaaGreat
open Go.RowKit
set_option linter.unusedVariables false

theorem calls_via {P : Program} {f : FuncId} {args : Array Value} {w : World} {R : Ending → World → Prop} (h : ∀ Q : Ending → World → Prop, Hid (∀ e w', R e w' → Q e w') → Calls P f args w Q) : Calls P f args w R := h R (hide fun _ _ h => h)
theorem setGO (w : World) (g j : Nat) (v : Value) : w.grownBy (w.setCell ⟨g, j, none⟩ v) (some g) := ⟨rfl, rfl, rfl, by simp, fun k _ hk => heap_setCell_other w ⟨g, j, none⟩ k v (fun e => hk (by simp [e]))⟩
theorem set_twelve {w : World} {g : Nat} {T : TypeId} {u0 u1 u2 u3 u4 u5 u6 u7 u8 u9 u10 u11 : Value} (h : Loc w g #[u0, u1, u2, u3, u4, u5, u6, u7, u8, u9, u10, u11] T) (v0 v1 v2 v3 v4 v5 v6 v7 v8 v9 v10 v11 : Value) : Loc ((((((((((((w.setCell ⟨g, 0, none⟩ v0).setCell ⟨g, 1, none⟩ v1).setCell ⟨g, 2, none⟩ v2).setCell ⟨g, 3, none⟩ v3).setCell ⟨g, 4, none⟩ v4).setCell ⟨g, 5, none⟩ v5).setCell ⟨g, 6, none⟩ v6).setCell ⟨g, 7, none⟩ v7).setCell ⟨g, 8, none⟩ v8).setCell ⟨g, 9, none⟩ v9).setCell ⟨g, 10, none⟩ v10).setCell ⟨g, 11, none⟩ v11) g #[v0, v1, v2, v3, v4, v5, v6, v7, v8, v9, v10, v11] T := by
  have h0 : Loc (w.setCell ⟨g, 0, none⟩ v0) g #[v0, u1, u2, u3, u4, u5, u6, u7, u8, u9, u10, u11] T := h.set 0 v0
  have h1 : Loc ((w.setCell ⟨g, 0, none⟩ v0).setCell ⟨g, 1, none⟩ v1) g #[v0, v1, u2, u3, u4, u5, u6, u7, u8, u9, u10, u11] T := h0.set 1 v1
  have h2 : Loc (((w.setCell ⟨g, 0, none⟩ v0).setCell ⟨g, 1, none⟩ v1).setCell ⟨g, 2, none⟩ v2) g #[v0, v1, v2, u3, u4, u5, u6, u7, u8, u9, u10, u11] T := h1.set 2 v2
  have h3 : Loc ((((w.setCell ⟨g, 0, none⟩ v0).setCell ⟨g, 1, none⟩ v1).setCell ⟨g, 2, none⟩ v2).setCell ⟨g, 3, none⟩ v3) g #[v0, v1, v2, v3, u4, u5, u6, u7, u8, u9, u10, u11] T := h2.set 3 v3
  have h4 : Loc (((((w.setCell ⟨g, 0, none⟩ v0).setCell ⟨g, 1, none⟩ v1).setCell ⟨g, 2, none⟩ v2).setCell ⟨g, 3, none⟩ v3).setCell ⟨g, 4, none⟩ v4) g #[v0, v1, v2, v3, v4, u5, u6, u7, u8, u9, u10, u11] T := h3.set 4 v4
  have h5 : Loc ((((((w.setCell ⟨g, 0, none⟩ v0).setCell ⟨g, 1, none⟩ v1).setCell ⟨g, 2, none⟩ v2).setCell ⟨g, 3, none⟩ v3).setCell ⟨g, 4, none⟩ v4).setCell ⟨g, 5, none⟩ v5) g #[v0, v1, v2, v3, v4, v5, u6, u7, u8, u9, u10, u11] T := h4.set 5 v5
  have h6 : Loc (((((((w.setCell ⟨g, 0, none⟩ v0).setCell ⟨g, 1, none⟩ v1).setCell ⟨g, 2, none⟩ v2).setCell ⟨g, 3, none⟩ v3).setCell ⟨g, 4, none⟩ v4).setCell ⟨g, 5, none⟩ v5).setCell ⟨g, 6, none⟩ v6) g #[v0, v1, v2, v3, v4, v5, v6, u7, u8, u9, u10, u11] T := h5.set 6 v6
  have h7 : Loc ((((((((w.setCell ⟨g, 0, none⟩ v0).setCell ⟨g, 1, none⟩ v1).setCell ⟨g, 2, none⟩ v2).setCell ⟨g, 3, none⟩ v3).setCell ⟨g, 4, none⟩ v4).setCell ⟨g, 5, none⟩ v5).setCell ⟨g, 6, none⟩ v6).setCell ⟨g, 7, none⟩ v7) g #[v0, v1, v2, v3, v4, v5, v6, v7, u8, u9, u10, u11] T := h6.set 7 v7
  have h8 : Loc (((((((((w.setCell ⟨g, 0, none⟩ v0).setCell ⟨g, 1, none⟩ v1).setCell ⟨g, 2, none⟩ v2).setCell ⟨g, 3, none⟩ v3).setCell ⟨g, 4, none⟩ v4).setCell ⟨g, 5, none⟩ v5).setCell ⟨g, 6, none⟩ v6).setCell ⟨g, 7, none⟩ v7).setCell ⟨g, 8, none⟩ v8) g #[v0, v1, v2, v3, v4, v5, v6, v7, v8, u9, u10, u11] T := h7.set 8 v8
  have h9 : Loc ((((((((((w.setCell ⟨g, 0, none⟩ v0).setCell ⟨g, 1, none⟩ v1).setCell ⟨g, 2, none⟩ v2).setCell ⟨g, 3, none⟩ v3).setCell ⟨g, 4, none⟩ v4).setCell ⟨g, 5, none⟩ v5).setCell ⟨g, 6, none⟩ v6).setCell ⟨g, 7, none⟩ v7).setCell ⟨g, 8, none⟩ v8).setCell ⟨g, 9, none⟩ v9) g #[v0, v1, v2, v3, v4, v5, v6, v7, v8, v9, u10, u11] T := h8.set 9 v9
  have h10 : Loc (((((((((((w.setCell ⟨g, 0, none⟩ v0).setCell ⟨g, 1, none⟩ v1).setCell ⟨g, 2, none⟩ v2).setCell ⟨g, 3, none⟩ v3).setCell ⟨g, 4, none⟩ v4).setCell ⟨g, 5, none⟩ v5).setCell ⟨g, 6, none⟩ v6).setCell ⟨g, 7, none⟩ v7).setCell ⟨g, 8, none⟩ v8).setCell ⟨g, 9, none⟩ v9).setCell ⟨g, 10, none⟩ v10) g #[v0, v1, v2, v3, v4, v5, v6, v7, v8, v9, v10, u11] T := h9.set 10 v10
  have h11 : Loc ((((((((((((w.setCell ⟨g, 0, none⟩ v0).setCell ⟨g, 1, none⟩ v1).setCell ⟨g, 2, none⟩ v2).setCell ⟨g, 3, none⟩ v3).setCell ⟨g, 4, none⟩ v4).setCell ⟨g, 5, none⟩ v5).setCell ⟨g, 6, none⟩ v6).setCell ⟨g, 7, none⟩ v7).setCell ⟨g, 8, none⟩ v8).setCell ⟨g, 9, none⟩ v9).setCell ⟨g, 10, none⟩ v10).setCell ⟨g, 11, none⟩ v11) g #[v0, v1, v2, v3, v4, v5, v6, v7, v8, v9, v10, v11] T := h10.set 11 v11
  exact h11
theorem grow_twelve (w : World) (g : Nat) (v0 v1 v2 v3 v4 v5 v6 v7 v8 v9 v10 v11 : Value) : w.grownBy ((((((((((((w.setCell ⟨g, 0, none⟩ v0).setCell ⟨g, 1, none⟩ v1).setCell ⟨g, 2, none⟩ v2).setCell ⟨g, 3, none⟩ v3).setCell ⟨g, 4, none⟩ v4).setCell ⟨g, 5, none⟩ v5).setCell ⟨g, 6, none⟩ v6).setCell ⟨g, 7, none⟩ v7).setCell ⟨g, 8, none⟩ v8).setCell ⟨g, 9, none⟩ v9).setCell ⟨g, 10, none⟩ v10).setCell ⟨g, 11, none⟩ v11) (some g) := by
  have h0 : w.grownBy (w.setCell ⟨g, 0, none⟩ v0) (some g) := setGO w g 0 v0
  have h1 : w.grownBy ((w.setCell ⟨g, 0, none⟩ v0).setCell ⟨g, 1, none⟩ v1) (some g) := grown_trans h0 (setGO _ g 1 v1)
  have h2 : w.grownBy (((w.setCell ⟨g, 0, none⟩ v0).setCell ⟨g, 1, none⟩ v1).setCell ⟨g, 2, none⟩ v2) (some g) := grown_trans h1 (setGO _ g 2 v2)
  have h3 : w.grownBy ((((w.setCell ⟨g, 0, none⟩ v0).setCell ⟨g, 1, none⟩ v1).setCell ⟨g, 2, none⟩ v2).setCell ⟨g, 3, none⟩ v3) (some g) := grown_trans h2 (setGO _ g 3 v3)
  have h4 : w.grownBy (((((w.setCell ⟨g, 0, none⟩ v0).setCell ⟨g, 1, none⟩ v1).setCell ⟨g, 2, none⟩ v2).setCell ⟨g, 3, none⟩ v3).setCell ⟨g, 4, none⟩ v4) (some g) := grown_trans h3 (setGO _ g 4 v4)
  have h5 : w.grownBy ((((((w.setCell ⟨g, 0, none⟩ v0).setCell ⟨g, 1, none⟩ v1).setCell ⟨g, 2, none⟩ v2).setCell ⟨g, 3, none⟩ v3).setCell ⟨g, 4, none⟩ v4).setCell ⟨g, 5, none⟩ v5) (some g) := grown_trans h4 (setGO _ g 5 v5)
  have h6 : w.grownBy (((((((w.setCell ⟨g, 0, none⟩ v0).setCell ⟨g, 1, none⟩ v1).setCell ⟨g, 2, none⟩ v2).setCell ⟨g, 3, none⟩ v3).setCell ⟨g, 4, none⟩ v4).setCell ⟨g, 5, none⟩ v5).setCell ⟨g, 6, none⟩ v6) (some g) := grown_trans h5 (setGO _ g 6 v6)
  have h7 : w.grownBy ((((((((w.setCell ⟨g, 0, none⟩ v0).setCell ⟨g, 1, none⟩ v1).setCell ⟨g, 2, none⟩ v2).setCell ⟨g, 3, none⟩ v3).setCell ⟨g, 4, none⟩ v4).setCell ⟨g, 5, none⟩ v5).setCell ⟨g, 6, none⟩ v6).setCell ⟨g, 7, none⟩ v7) (some g) := grown_trans h6 (setGO _ g 7 v7)
  have h8 : w.grownBy (((((((((w.setCell ⟨g, 0, none⟩ v0).setCell ⟨g, 1, none⟩ v1).setCell ⟨g, 2, none⟩ v2).setCell ⟨g, 3, none⟩ v3).setCell ⟨g, 4, none⟩ v4).setCell ⟨g, 5, none⟩ v5).setCell ⟨g, 6, none⟩ v6).setCell ⟨g, 7, none⟩ v7).setCell ⟨g, 8, none⟩ v8) (some g) := grown_trans h7 (setGO _ g 8 v8)
  have h9 : w.grownBy ((((((((((w.setCell ⟨g, 0, none⟩ v0).setCell ⟨g, 1, none⟩ v1).setCell ⟨g, 2, none⟩ v2).setCell ⟨g, 3, none⟩ v3).setCell ⟨g, 4, none⟩ v4).setCell ⟨g, 5, none⟩ v5).setCell ⟨g, 6, none⟩ v6).setCell ⟨g, 7, none⟩ v7).setCell ⟨g, 8, none⟩ v8).setCell ⟨g, 9, none⟩ v9) (some g) := grown_trans h8 (setGO _ g 9 v9)
  have h10 : w.grownBy (((((((((((w.setCell ⟨g, 0, none⟩ v0).setCell ⟨g, 1, none⟩ v1).setCell ⟨g, 2, none⟩ v2).setCell ⟨g, 3, none⟩ v3).setCell ⟨g, 4, none⟩ v4).setCell ⟨g, 5, none⟩ v5).setCell ⟨g, 6, none⟩ v6).setCell ⟨g, 7, none⟩ v7).setCell ⟨g, 8, none⟩ v8).setCell ⟨g, 9, none⟩ v9).setCell ⟨g, 10, none⟩ v10) (some g) := grown_trans h9 (setGO _ g 10 v10)
  have h11 : w.grownBy ((((((((((((w.setCell ⟨g, 0, none⟩ v0).setCell ⟨g, 1, none⟩ v1).setCell ⟨g, 2, none⟩ v2).setCell ⟨g, 3, none⟩ v3).setCell ⟨g, 4, none⟩ v4).setCell ⟨g, 5, none⟩ v5).setCell ⟨g, 6, none⟩ v6).setCell ⟨g, 7, none⟩ v7).setCell ⟨g, 8, none⟩ v8).setCell ⟨g, 9, none⟩ v9).setCell ⟨g, 10, none⟩ v10).setCell ⟨g, 11, none⟩ v11) (some g) := grown_trans h10 (setGO _ g 11 v11)
  exact h11
end Go.Proofs.YtkmmhlimihkgfaaGreat

/- slices.BinarySearchFunc over operations, by their stamps. -/
namespace Go.Proofs.YtkmmhlimihkgfaaGreat
open Go.RowKit
set_option linter.unusedVariables false
set_option maxRecDepth 100000

set_option maxHeartbeats 3200000 in
theorem byStamp_any (w : World) (o : OpV) (a1 a2 a3 : Option Addr) (c1 c2 c3 : Nat) (n r : Int) :
    Calls Tryz.prog 89 #[opVal o (.slice a1 o.key.length c1) (.slice a2 o.name.length c2) (.slice a3 o.text.length c3), .agg #[.int .i64 n, .int .i64 r]] w fun e w' => e = .returned (.int .i64 (ordI o.atN o.atR n r)) ∧ Below w.heap.size w w' := by
  have hB := ((Below.refl w.heap.size w).alloc (Nat.le_refl _) (.cells #[.int .i64 o.kind, .int .i64 o.atN, .int .i64 o.atR, .int .i64 o.nodeN, .int .i64 o.nodeR, .int .i64 o.parN, .int .i64 o.parR, .slice a1 o.key.length c1, .int .i64 o.elem, .slice a2 o.name.length c2, .slice a3 o.text.length c3, .bool o.gone] 28)).alloc (by simp) (.cells #[.int .i64 n, .int .i64 r] 25)
  have HH := hide (orderI_any ((w.alloc (.cells #[.int .i64 o.kind, .int .i64 o.atN, .int .i64 o.atR, .int .i64 o.nodeN, .int .i64 o.nodeR, .int .i64 o.parN, .int .i64 o.parR, .slice a1 o.key.length c1, .int .i64 o.elem, .slice a2 o.name.length c2, .slice a3 o.text.length c3, .bool o.gone] 28)).alloc (.cells #[.int .i64 n, .int .i64 r] 25)) o.atN o.atR n r)
  have HB := hide hB
  clear hB
  unfold opVal
  generalize ordI o.atN o.atR n r = z at *
  go_enter Tryz.func89, Tryz.ntmps89
  go_wp2_with fail
  refine (unhide HH).mono ?_
  rintro e w1 ⟨rfl, hB1⟩
  have hB2 := bstep (unhide HB) hB1
  clear hB1 HB HH
  go_wp2_with fail
  go_ret
  exact ⟨rfl, hB2⟩
theorem ord_zero (a b c d : Int) : (ordI a b c d == 0) = decide (a = c ∧ b = d) := by
  unfold ordI
  split
  · rename_i h; simp [h]
  · rename_i h
    split <;> simp [h]
theorem ord_neg (n r : Int) (p : OpV) : decide (ordI p.atN p.atR n r < 0) = ahead n r p := ordI_lt _ _ _ _

set_option maxHeartbeats 6400000 in
theorem search_any (w : World) (v : Value) (l : List OpV) (n r : Int) (h : RdOps w v l) (hs : opsB l = true) :
    Calls Tryz.prog 88 #[v, .agg #[.int .i64 n, .int .i64 r], .func (.func 89) #[] #[]] w fun e w' => e = .returned (.tuple #[.int .i64 (posO l n r), .bool (there l n r)]) ∧ Below w.heap.size w w' := by
  obtain ⟨hl, _⟩ := opsB_parts hs
  have HS := hide hs
  have hA := (Below.refl w.heap.size w).alloc (Nat.le_refl _) (.cells #[.int .i64 n, .int .i64 r] 25)
  have lt := Loc.made w #[.int .i64 n, .int .i64 r] 25
  have hR := h.keep hA
  obtain ⟨av, cv, rfl, _, _⟩ := Elems.shape h
  have HAT := hide (fun j (hj : j < l.length) => (show ∃ b off cap, (Value.slice av l.length cv) = .slice (some ⟨b, off, none⟩) l.length cap ∧ b < (w.alloc (.cells #[.int .i64 n, .int .i64 r] 25)).heap.size ∧ ∃ C : List Value, C.length = 12 ∧ (∀ i, i < 12 → (w.alloc (.cells #[.int .i64 n, .int .i64 r] 25)).cell? ⟨b, off + j * 12 + i, none⟩ = C[i]?) ∧ RdOpC (w.alloc (.cells #[.int .i64 n, .int .i64 r] 25)) C l[j] by
    obtain ⟨_, ⟨_, e⟩ | ⟨_, _, _, _, e⟩ | ⟨b, off, cap, ev, g1, g2, g3, g4, g5⟩⟩ := hR
    · subst e; simp at hj
    · subst e; simp at hj
    · exact ⟨b, off, cap, ev, g4, g5 j hj⟩))
  have LL := hide (And.intro hA lt)
  clear hs hA lt hR h
  go_enter Tryz.func88, Tryz.ntmps88
  go_wp2_with fail
  obtain ⟨hA, lt⟩ := unhide LL
  clear LL
  generalize (w.alloc (.cells #[.int .i64 n, .int .i64 r] 25)) = wa at *
  generalize hSS : w.heap.size = S at *
  have hSl := lt.lt
  have HA := hide hA
  clear hA
  go_loopw [9, 10, 11] (fun i j _ wr => ∃ a b : Nat, a ≤ b ∧ b ≤ l.length ∧ i = .int .i64 a ∧ j = .int .i64 b ∧ Hid ((∀ k (hk : k < l.length), k < a → ahead n r l[k] = true) ∧ (∀ k (hk : k < l.length), b ≤ k → ahead n r l[k] = false)) ∧ Below wa.heap.size wa wr) (fun i j _ _ => (intOf j).toNat - (intOf i).toNat)
  case atStart => exact ⟨0, l.length, Nat.zero_le _, Nat.le_refl _, rfl, rfl, hide ⟨fun k _ hk => by omega, fun k hk hb => by omega⟩, Below.refl _ _⟩
  case round =>
    obtain ⟨a, b, hab, hbl, rfl, rfl, HI, hB⟩ := hrel
    by_cases hlt : a < b
    · have hlt' : (a : Int) < (b : Int) := by omega
      obtain ⟨m, hm⟩ : ∃ m : Nat, m = (a + b) / 2 := ⟨_, rfl⟩
      have hml : m < l.length := by omega
      have hma : a ≤ m := by omega
      have hmb : m < b := by omega
      have hmz : ((a : Int) + (b : Int)) / 2 = (m : Int) := by omega
      have HMZ := hide (And.intro hmz (And.intro hml (And.intro hma hmb)))
      clear hmz hml hma hmb hm
      go_wp2_with fail
      obtain ⟨hmz, hml, hma, hmb⟩ := unhide HMZ
      clear HMZ
      rw [hmz]
      clear hmz
      have hm0 : (0 : Int) ≤ (m : Int) := by omega
      have hml' : (m : Int) < (l.length : Int) := by omega
      obtain ⟨pb, poff, pcap, epv, hpl, hel⟩ := unhide HAT m hml
      cases epv
      obtain ⟨a1, c1, a2, c2, a3, c3, e0, e1, e2, e3, e4, e5, e6, e7, e8, e9, e10, e11, hro⟩ := opc_at (w := wa) (W := wr) hB hpl hel
      have HC := hide (fun W => byStamp_any W l[m] a1 a2 a3 c1 c2 c3 n r)
      have hzz := ord_neg n r l[m]
      have hz0 := ord_zero l[m].atN l[m].atR n r
      unfold opVal at HC
      have lt1 := lt.all hB
      have t0 : wr.cell? ⟨S, 0, none⟩ = some (.int .i64 n) := lt1.cell 0
      have t1 : wr.cell? ⟨S, 1, none⟩ = some (.int .i64 r) := lt1.cell 1
      have hSr : S < wr.heap.size := lt1.lt
      have hpr : pb < wr.heap.size := Nat.lt_of_lt_of_le hpl hB.size
      replace e0 := Gr.cell hpr e0
      replace e1 := Gr.cell hpr e1
      replace e2 := Gr.cell hpr e2
      replace e3 := Gr.cell hpr e3
      replace e4 := Gr.cell hpr e4
      replace e5 := Gr.cell hpr e5
      replace e6 := Gr.cell hpr e6
      replace e7 := Gr.cell hpr e7
      replace e8 := Gr.cell hpr e8
      replace e9 := Gr.cell hpr e9
      replace e10 := Gr.cell hpr e10
      replace e11 := Gr.cell hpr e11
      replace t0 := Gr.cell hSr t0
      replace t1 := Gr.cell hSr t1
      have hNE : Nonempty (Gr wr) := ⟨⟨wr, Below.refl _ _⟩⟩
      clear hel hro lt1
      have HD := hide (And.intro (fun (ha : ahead n r l[m] = true) => (show ((∀ k (hk : k < l.length), k < m + 1 → ahead n r l[k] = true) ∧ (∀ k (hk : k < l.length), b ≤ k → ahead n r l[k] = false)) from ⟨fun k hk hkm => ahead_down (unhide HS) (by omega) hml ha, (unhide HI).2⟩)) (fun (ha : ahead n r l[m] = false) => (show ((∀ k (hk : k < l.length), k < a → ahead n r l[k] = true) ∧ (∀ k (hk : k < l.length), m ≤ k → ahead n r l[k] = false)) from ⟨(unhide HI).1, fun k hk hkm => by
        cases hak : ahead n r l[k] with
        | false => rfl
        | true => have := ahead_down (unhide HS) hkm hk hak; rw [ha] at this; cases this⟩)))
      generalize ahead n r l[m] = am at *
      generalize ordI l[m].atN l[m].atR n r = z at *
      clear hz0
      generalize l[m] = o at *
      refine wp_region_gr (by kernel_rfl) (by kernel_rfl) ?_
      repeat (go_big_quiet_step ((rename_i p; exact calls_gr (unhide HC _))))
      refine wpQuiet_nil ?_
      rintro _ ⟨p, rfl⟩
      have hB3 := bstep hB p.h
      clear e0 e1 e2 e3 e4 e5 e6 e7 e8 e9 e10 e11 t0 t1 HC
      cases am with
      | true =>
        have hz1 : z < 0 := by simpa using hzz
        clear hzz
        have HD1 := hide ((unhide HD).1 rfl)
        clear HD HI
        go_wp2_with fail
        go_roundw
        case rel => exact ⟨m + 1, b, by omega, hbl, by go_num, rfl, HD1, hB3⟩
        case measure => simp [intOf]; omega
      | false =>
        have hz1 : ¬ z < 0 := by simpa using hzz
        clear hzz
        have HD1 := hide ((unhide HD).2 rfl)
        clear HD HI
        go_wp2_with fail
        go_roundw
        case rel => exact ⟨a, m, hma, by omega, rfl, rfl, HD1, hB3⟩
        case measure => simp [intOf]; omega
    · have e : b = a := by omega
      subst e
      have hpos : posO l n r = b := posO_of hbl (unhide HI).1 (fun hk => (unhide HI).2 b hk (Nat.le_refl _))
      clear HI
      by_cases hbn : b < l.length
      · have hth : there l n r = decide (l[b].atN = n ∧ l[b].atR = r) := by unfold there; simp only [hpos, hbn, dite_true]
        have hb0 : (0 : Int) ≤ (b : Int) := by omega
        have hbn' : (b : Int) < (l.length : Int) := by omega
        have HH := hide (And.intro hpos (And.intro hth (And.intro hbn' hb0)))
        clear hpos hth hbn' hb0
        go_wp2_with fail
        obtain ⟨hpos, hth, hbn', hb0⟩ := unhide HH
        clear HH
        have hdb : decide (b < l.length) = true := by simpa using hbn
        obtain ⟨pb, poff, pcap, epv, hpl, hel⟩ := unhide HAT b hbn
        cases epv
        obtain ⟨a1, c1, a2, c2, a3, c3, e0, e1, e2, e3, e4, e5, e6, e7, e8, e9, e10, e11, hro⟩ := opc_at (w := wa) (W := wr) hB hpl hel
        have HC := hide (fun W => byStamp_any W l[b] a1 a2 a3 c1 c2 c3 n r)
        have hz0 := ord_zero l[b].atN l[b].atR n r
        unfold opVal at HC
        have lt1 := lt.all hB
        have t0 : wr.cell? ⟨S, 0, none⟩ = some (.int .i64 n) := lt1.cell 0
        have t1 : wr.cell? ⟨S, 1, none⟩ = some (.int .i64 r) := lt1.cell 1
        have hSr : S < wr.heap.size := lt1.lt
        have hpr : pb < wr.heap.size := Nat.lt_of_lt_of_le hpl hB.size
        replace e0 := Gr.cell hpr e0
        replace e1 := Gr.cell hpr e1
        replace e2 := Gr.cell hpr e2
        replace e3 := Gr.cell hpr e3
        replace e4 := Gr.cell hpr e4
        replace e5 := Gr.cell hpr e5
        replace e6 := Gr.cell hpr e6
        replace e7 := Gr.cell hpr e7
        replace e8 := Gr.cell hpr e8
        replace e9 := Gr.cell hpr e9
        replace e10 := Gr.cell hpr e10
        replace e11 := Gr.cell hpr e11
        replace t0 := Gr.cell hSr t0
        replace t1 := Gr.cell hSr t1
        have hNE : Nonempty (Gr wr) := ⟨⟨wr, Below.refl _ _⟩⟩
        clear hel hro lt1
        have HT := hide (hth.trans hz0.symm)
        have HP := hide hpos
        clear hth hz0 hpos
        generalize ordI l[b].atN l[b].atR n r = z at *
        generalize l[b] = o at *
        refine wp_region_gr (by kernel_rfl) (by kernel_rfl) ?_
        repeat (go_big_quiet_step ((rename_i p; exact calls_gr (unhide HC _))))
        refine wpQuiet_nil ?_
        rintro _ ⟨p, rfl⟩
        have hB3 := (unhide HA).trans ((bstep hB p.h).mono (Nat.le_of_lt hSl))
        clear e0 e1 e2 e3 e4 e5 e6 e7 e8 e9 e10 e11 t0 t1 HC
        go_wp2_with fail
        go_ret2
        exact ⟨by rw [unhide HP, unhide HT]; rfl, by rw [hSS]; exact hB3⟩
      · have hth : there l n r = false := by unfold there; simp only [hpos, hbn, dite_false]
        have hbe : b = l.length := by omega
        have HH := hide (And.intro hpos hth)
        clear hpos hth hbn
        subst hbe
        go_wp2_with fail
        have hNE : Nonempty (Gr wr) := ⟨⟨wr, Below.refl _ _⟩⟩
        refine wp_region_gr (by kernel_rfl) (by kernel_rfl) ?_
        repeat (go_big_quiet_step (fail))
        refine wpQuiet_nil ?_
        rintro _ ⟨p, rfl⟩
        have hB3 := (unhide HA).trans ((bstep hB p.h).mono (Nat.le_of_lt hSl))
        go_wp2_with fail
        go_ret2
        exact ⟨by rw [(unhide HH).1, (unhide HH).2]; rfl, by rw [hSS]; exact hB3⟩
end Go.Proofs.YtkmmhlimihkgfaaGreat

/- Trees that a call has made: which blocks are theirs, and what becomes of them while others are written. -/
namespace Go.Proofs.YtkmmhlimihkgfaaGreat
open Go.RowKit
set_option linter.unusedVariables false

/-- Elements of 'size' cells each in a row of the call's own; each element owns what R says. -/
def OwElems {α : Type} (w : World) (e : TypeId) (size : Nat) (v : Value) (l : List α) (R : List Value → α → List Nat → Prop) (F : List Nat) : Prop :=
  ∃ (Cs : List (List Value)) (Fs : List (List Nat)), Cs.length = l.length ∧ Fs.length = l.length ∧ (∀ i (hi : i < l.length), (Cs.getD i []).length = size ∧ R (Cs.getD i []) l[i] (Fs.getD i [])) ∧
    w.ownsRow 0 e size v l.length Cs.flatten ∧ F = FB v ++ Fs.flatten

def OwAttr (w : World) (C : List Value) (x : List Int × List Int) (F : List Nat) : Prop := ∃ a b, C = [a, b] ∧ Own w 0 a x.1 ∧ Own w 0 b x.2 ∧ F = FB a ++ FB b
def OwAttrs (w : World) (v : Value) (l : List (List Int × List Int)) (F : List Nat) : Prop := OwElems w 157 2 v l (OwAttr w) F
def OwNode : (n : Nat) → World → List Value → Tr n → List Nat → Prop
  | 0 => fun _ _ _ _ => False
  | n + 1 => fun w C t F => ∃ a b c d Fc Fd, C = [.int .i64 t.kind, a, b, c, d] ∧ -9223372036854775808 ≤ t.kind ∧ t.kind ≤ 9223372036854775807 ∧ Own w 0 a t.name ∧ Own w 0 b t.text ∧
      OwAttrs w c t.attrs Fc ∧ OwElems w 61 5 d t.kids (OwNode n w) Fd ∧ F = FB a ++ FB b ++ Fc ++ Fd
def OwKids (n : Nat) (w : World) (v : Value) (l : List (Tr n)) (F : List Nat) : Prop := OwElems w 61 5 v l (OwNode n w) F

theorem mem_flat {Fs : List (List Nat)} {i g : Nat} (h : g ∈ Fs.getD i []) : g ∈ Fs.flatten := by
  by_cases hi : i < Fs.length
  · rw [List.getD_eq_getElem?_getD, List.getElem?_eq_getElem hi] at h
    exact List.mem_flatten.2 ⟨_, List.getElem_mem hi, h⟩
  · rw [List.getD_eq_getElem?_getD, List.getElem?_eq_none (by omega)] at h; simp at h

theorem OwElems.frm {α : Type} {w w' : World} {e : TypeId} {size : Nat} {v : Value} {l : List α} {R R' : List Value → α → List Nat → Prop} {F S : List Nat} (h : OwElems w e size v l R F) (f : Frm w w' S) (hd : ∀ g ∈ F, g ∉ S)
    (hR : ∀ C x G, R C x G → (∀ g ∈ G, g ∉ S) → R' C x G) : OwElems w' e size v l R' F := by
  obtain ⟨Cs, Fs, h1, h2, h3, h4, rfl⟩ := h
  refine ⟨Cs, Fs, h1, h2, fun i hi => ⟨(h3 i hi).1, hR _ _ _ (h3 i hi).2 (fun g hg => hd g (List.mem_append_right _ (mem_flat hg)))⟩, ownsRow_frm h4 f (fun g hg => hd g (List.mem_append_left _ hg)), rfl⟩
theorem OwAttrs.frm {w w' : World} {v : Value} {l : List (List Int × List Int)} {F S : List Nat} (h : OwAttrs w v l F) (f : Frm w w' S) (hd : ∀ g ∈ F, g ∉ S) : OwAttrs w' v l F :=
  OwElems.frm h f hd (fun C x G ⟨a, b, e, h1, h2, h3⟩ hG => by
    subst h3
    exact ⟨a, b, e, h1.frm f (fun g hg => hG g (by simp [hg])), h2.frm f (fun g hg => hG g (by simp [hg])), rfl⟩)
theorem OwNode.frm {n : Nat} {w w' : World} {C : List Value} {t : Tr n} {F S : List Nat} (h : OwNode n w C t F) (f : Frm w w' S) (hd : ∀ g ∈ F, g ∉ S) : OwNode n w' C t F := by
  induction n generalizing C F with
  | zero => exact h
  | succ n ih =>
    obtain ⟨a, b, c, d, Fc, Fd, e, k1, k2, h1, h2, h3, h4, rfl⟩ := h
    exact ⟨a, b, c, d, Fc, Fd, e, k1, k2, h1.frm f (fun g hg => hd g (by simp [hg])), h2.frm f (fun g hg => hd g (by simp [hg])), h3.frm f (fun g hg => hd g (by simp [hg])),
      OwElems.frm h4 f (fun g hg => hd g (by simp [hg])) (fun C x G hr hG => ih hr hG), rfl⟩
theorem OwNode.keep {n : Nat} {w w' : World} {C : List Value} {t : Tr n} {F : List Nat} (h : OwNode n w C t F) (hb : Below w.heap.size w w') : OwNode n w' C t F := h.frm (Frm.ofBelow hb []) (fun _ _ => by simp)
theorem OwKids.frm {n : Nat} {w w' : World} {v : Value} {l : List (Tr n)} {F S : List Nat} (h : OwKids n w v l F) (f : Frm w w' S) (hd : ∀ g ∈ F, g ∉ S) : OwKids n w' v l F := OwElems.frm h f hd (fun C x G hr hG => OwNode.frm hr f hG)

/-- A cell of the flat row of elements of one size. -/
theorem flat_at (Cs : List (List Value)) (size : Nat) (h : ∀ i, i < Cs.length → (Cs.getD i []).length = size) (i j : Nat) (hi : i < Cs.length) (hj : j < size) : Cs.flatten[i * size + j]? = (Cs.getD i [])[j]? := by
  induction Cs generalizing i with
  | nil => simp at hi
  | cons C Cs ih =>
    have h0 : C.length = size := by simpa using h 0 (by simp)
    cases i with
    | zero => simp [List.getElem?_append, h0, hj]
    | succ i =>
      have e : (i + 1) * size + j = C.length + (i * size + j) := by rw [h0, Nat.succ_mul]; omega
      rw [List.flatten_cons, e, List.getElem?_append_right (by omega), Nat.add_sub_cancel_left]
      have := ih (fun k hk => by simpa using h (k + 1) (by simpa using hk)) i (by simpa using hi)
      simpa using this

/-- What is owned can be read. -/
theorem OwElems.rd {α : Type} {w : World} {e : TypeId} {size : Nat} {v : Value} {l : List α} {R : List Value → α → List Nat → Prop} {R' : List Value → α → Prop} {F : List Nat} (h : OwElems w e size v l R F) (hm : l.length ≤ maxLen)
    (hR : ∀ C x G, R C x G → R' C x) : Elems w size v l R' := by
  obtain ⟨Cs, Fs, h1, h2, h3, h4, rfl⟩ := h
  have h4' := h4
  refine ⟨hm, ?_⟩
  rcases h4.2 with ⟨rfl, h0⟩ | ⟨g, cap, cur, rfl, hb, hg, hnc, hcm, hcs, htake⟩
  · exact .inl ⟨rfl, List.eq_nil_of_length_eq_zero h0⟩
  · by_cases h0 : l = []
    · subst h0
      exact .inr (.inl ⟨_, cap, rfl, hcm, rfl⟩)
    · refine .inr (.inr ⟨g, 0, cap, rfl, hnc, hcm, h0, (h4'.lt g rfl).2, fun i hi => ⟨Cs.getD i [], (h3 i hi).1, fun j hj => ?_, hR _ _ _ (h3 i hi).2⟩⟩)
      have hlt : i * size + j < l.length * size := by
        have : (i + 1) * size ≤ l.length * size := Nat.mul_le_mul_right _ hi
        rw [Nat.succ_mul] at this; omega
      rw [Nat.zero_add, h4'.cellAt (i * size + j) hlt]
      exact flat_at Cs size (fun k hk => (h3 k (by omega)).1) i j (by omega) hj
theorem OwElems.len {α : Type} {w : World} {e : TypeId} {size : Nat} {v : Value} {l : List α} {R : List Value → α → List Nat → Prop} {F : List Nat} (h : OwElems w e size v l R F) : l.length ≤ maxLen := by
  obtain ⟨Cs, Fs, h1, h2, h3, h4, rfl⟩ := h
  rcases h4.2 with ⟨_, h0⟩ | ⟨g, cap, cur, rfl, hb, hg, hnc, hcm, _⟩
  · rw [h0]; exact Nat.zero_le _
  · omega
theorem OwAttrs.rd {w : World} {v : Value} {l : List (List Int × List Int)} {F : List Nat} (h : OwAttrs w v l F) : RdAttrs w v l := OwElems.rd h (OwElems.len h) (fun C x G ⟨a, b, e, h1, h2, _⟩ => ⟨a, b, e, h1.byt, h2.byt⟩)
theorem OwNode.rd {n : Nat} {w : World} {C : List Value} {t : Tr n} {F : List Nat} (h : OwNode n w C t F) : RdNode n w C t := by
  induction n generalizing C F with
  | zero => exact h
  | succ n ih =>
    obtain ⟨a, b, c, d, Fc, Fd, e, k1, k2, h1, h2, h3, h4, rfl⟩ := h
    exact ⟨a, b, c, d, e, k1, k2, h1.byt, h2.byt, h3.rd, OwElems.rd h4 (OwElems.len h4) (fun C x G hr => ih hr)⟩
theorem OwKids.rd {n : Nat} {w : World} {v : Value} {l : List (Tr n)} {F : List Nat} (h : OwKids n w v l F) : RdKids n w v l := OwElems.rd h (OwElems.len h) (fun C x G hr => OwNode.rd hr)

end Go.Proofs.YtkmmhlimihkgfaaGreat

/- The laws' own copy of a slice of attributes, of nodes, of a whole tree, by contracts. -/
namespace Go.Proofs.YtkmmhlimihkgfaaGreat
open Go.RowKit
set_option linter.unusedVariables false


theorem take_two (xs : List Value) (m : Nat) (v1 v2 : Value) (h : m + 2 ≤ xs.length) : ((xs.set m v1).set (m + 1) v2).take (m + 2) = xs.take m ++ [v1, v2] := by
  apply List.ext_getElem?
  intro i
  have hl : (xs.take m).length = m := by simp; omega
  rw [List.getElem?_take, List.getElem?_append, hl]
  by_cases h1 : i < m
  · rw [if_pos (by omega), if_pos h1, List.getElem?_set, if_neg (by omega), List.getElem?_set, if_neg (by omega), List.getElem?_take, if_pos h1]
  · rw [if_neg h1]
    by_cases h2 : i = m
    · subst h2
      rw [if_pos (by omega), List.getElem?_set, if_neg (by omega), List.getElem?_set, if_pos rfl, if_pos (by omega)]; simp
    · by_cases h3 : i = m + 1
      · subst h3
        rw [if_pos (by omega), List.getElem?_set, if_pos rfl, if_pos (by simp; omega)]; simp
      · rw [if_neg (by omega), List.getElem?_eq_none (by simp; omega)]
theorem take_more (xs : List Value) (m j : Nat) (ys : List Value) (v : Value) (h : xs.take (m + j) = ys) (hl : m + j < xs.length) : (xs.set (m + j) v).take (m + j + 1) = ys ++ [v] := by
  subst h
  have hl2 : m + j < (xs.set (m + j) v).length := by simpa using hl
  rw [List.take_succ_eq_append_getElem hl2, List.getElem_set_self, List.take_set_of_le (Nat.le_refl _)]
theorem take_five (xs : List Value) (m : Nat) (v0 v1 v2 v3 v4 : Value) (h : m + 5 ≤ xs.length) :
    (((((xs.set m v0).set (m + 1) v1).set (m + 2) v2).set (m + 3) v3).set (m + 4) v4).take (m + 5) = xs.take m ++ [v0, v1, v2, v3, v4] := by
  have h0 := take_more xs m 0 (xs.take m) v0 rfl (by omega)
  have h1 := take_more (xs.set m v0) m 1 _ v1 h0 (by simp; omega)
  have h2 := take_more ((xs.set m v0).set (m + 1) v1) m 2 _ v2 h1 (by simp; omega)
  have h3 := take_more (((xs.set m v0).set (m + 1) v1).set (m + 2) v2) m 3 _ v3 h2 (by simp; omega)
  have h4 := take_more ((((xs.set m v0).set (m + 1) v1).set (m + 2) v2).set (m + 3) v3) m 4 _ v4 h3 (by simp; omega)
  simpa using h4

/-- The elements that have been laid so far in a row of the call's own. -/
structure Half {α : Type} (w : World) (e : TypeId) (size g n : Nat) (l : List α) (R : List Value → α → List Nat → Prop) (lo k : Nat) : Prop where
  laid : ∃ (Cs : List (List Value)) (Fs : List (List Nat)) (xs : List Value), Cs.length = k ∧ Fs.length = k ∧ (∀ i (hi : i < l.length), i < k → (Cs.getD i []).length = size ∧ R (Cs.getD i []) l[i] (Fs.getD i [])) ∧
    w.ownsRow 0 e size (.slice (some ⟨g, 0, none⟩) n n) n xs ∧ xs.take (k * size) = Cs.flatten ∧ Fs.flatten.Nodup ∧ Rng Fs.flatten lo w.heap.size

theorem Half.whole {α : Type} {w : World} {e : TypeId} {size g n : Nat} {l : List α} {R : List Value → α → List Nat → Prop} {lo : Nat} (h : Half w e size g n l R lo n) (hn : l.length = n) (hg : g < lo) :
    ∃ F, OwElems w e size (.slice (some ⟨g, 0, none⟩) n n) l R F ∧ F.Nodup ∧ (∀ q ∈ F, g ≤ q ∧ q < w.heap.size) := by
  obtain ⟨Cs, Fs, xs, h1, h2, h3, h4, h5, h6, h7⟩ := h.laid
  subst hn
  have hx : xs = Cs.flatten := by rw [← h5, List.take_of_length_le (by rw [h4.1]; exact Nat.le_refl _)]
  subst hx
  have hlt := (h4.lt g rfl).2
  refine ⟨FB (.slice (some ⟨g, 0, none⟩) l.length l.length) ++ Fs.flatten, ⟨Cs, Fs, h1, h2, fun i hi => h3 i hi hi, h4, rfl⟩, ?_, fun q hq => ?_⟩
  · rw [List.nodup_append]
    refine ⟨FB_nodup _, h6, fun a ha b hb e => ?_⟩
    have := h7 b hb
    simp [FB, Value.ownBlock] at ha
    omega
  · rcases List.mem_append.1 hq with h' | h'
    · simp [FB, Value.ownBlock] at h'; omega
    · have := h7 q h'; omega

theorem Half.start {α : Type} {w : World} {e : TypeId} {size g n : Nat} {l : List α} {R : List Value → α → List Nat → Prop} (lo : Nat) {xs : List Value} (h : w.ownsRow 0 e size (.slice (some ⟨g, 0, none⟩) n n) n xs) : Half w e size g n l R lo 0 :=
  ⟨[], [], xs, rfl, rfl, fun i hi h0 => by omega, h, by simp, by simp, Rng.nil _ _⟩

theorem flat_snoc {α : Type} (Cs : List (List α)) (C : List α) : (Cs ++ [C]).flatten = Cs.flatten ++ C := by simp
theorem getD_snoc {β : Type} (Cs : List (List β)) (C : List β) (i : Nat) : (Cs ++ [C]).getD i [] = if i < Cs.length then Cs.getD i [] else if i = Cs.length then C else [] := by
  by_cases h : i < Cs.length
  · rw [if_pos h, List.getD_eq_getElem?_getD, List.getElem?_append_left h, ← List.getD_eq_getElem?_getD]
  · rw [if_neg h]
    by_cases h2 : i = Cs.length
    · subst h2; simp
    · rw [if_neg h2, List.getD_eq_getElem?_getD, List.getElem?_eq_none (by simp; omega)]; rfl

/-- One element more. w1: behind the call that made it; w2: behind its store. -/
theorem Half.step {α : Type} {w w1 w2 : World} {e : TypeId} {size g n : Nat} {l : List α} {R R2 : List Value → α → List Nat → Prop} {lo k : Nat} (h : Half w e size g n l R lo k) (hk : k < l.length) (hlo : g < lo) (hlow : lo ≤ w.heap.size)
    (hB : Below w.heap.size w w1) (C : List Value) (G : List Nat) (hC : C.length = size) (hR : R2 C l[k] G) (hG : G.Nodup) (hrng : Rng G w.heap.size w1.heap.size)
    (hmono : ∀ C x G, R C x G → (∀ q ∈ G, q ≠ g) → R2 C x G) (hf : Frm w1 w2 [g]) (hs : ∀ xs : List Value, w1.ownsRow 0 e size (.slice (some ⟨g, 0, none⟩) n n) n xs → ∃ ys, w2.ownsRow 0 e size (.slice (some ⟨g, 0, none⟩) n n) n ys ∧ ys.take (k * size + size) = xs.take (k * size) ++ C) :
    Half w2 e size g n l R2 lo (k + 1) := by
  obtain ⟨Cs, Fs, xs, h1, h2, h3, h4, h5, h6, h7⟩ := h.laid
  have h4' : w1.ownsRow 0 e size (.slice (some ⟨g, 0, none⟩) n n) n xs := ownsRow_frm h4 (Frm.ofBelow hB []) (fun _ _ => by simp)
  obtain ⟨ys, hy1, hy2⟩ := hs xs h4'
  have hsz := hf.size
  have hsz1 := hB.size
  refine ⟨Cs ++ [C], Fs ++ [G], ys, by simp [h1], by simp [h2], fun i hi hik => ?_, hy1, ?_, ?_, ?_⟩
  · rw [getD_snoc, getD_snoc, h1, h2]
    by_cases hlt : i < k
    · rw [if_pos hlt, if_pos hlt]
      have := h3 i hi hlt
      refine ⟨this.1, hmono _ _ _ this.2 (fun q hq => ?_)⟩
      have := h7 q (mem_flat hq)
      omega
    · have e : i = k := by omega
      subst e
      rw [if_neg hlt, if_neg hlt, if_pos rfl, if_pos rfl]
      exact ⟨hC, hR⟩
  · rw [flat_snoc, ← h5, Nat.succ_mul]; exact hy2
  · rw [flat_snoc, List.nodup_append]
    exact ⟨h6, hG, fun a ha b hb e => by have := h7 a ha; have := hrng b hb; omega⟩
  · rw [flat_snoc]
    exact (h7.mono (Nat.le_refl _) (by omega)).app (hrng.mono (by omega) (by omega))

end Go.Proofs.YtkmmhlimihkgfaaGreat

/- Rows of operations that a call has made: which blocks are theirs. -/
namespace Go.Proofs.YtkmmhlimihkgfaaGreat
open Go.RowKit
set_option linter.unusedVariables false
set_option maxRecDepth 100000

theorem Tryz.info28 : (Tryz.prog.info? 28).map (fun i => (i.zero, i.size, i.bytes)) = some (some (.agg #[.int .i64 0, .int .i64 0, .int .i64 0, .int .i64 0, .int .i64 0, .int .i64 0, .int .i64 0, .slice none 0 0, .int .i64 0, .slice none 0 0, .slice none 0 0, .bool false]), 12, 144) := by kernel_rfl
set_option maxHeartbeats 3200000 in
theorem take_twelve (xs : List Value) (m : Nat) (v0 v1 v2 v3 v4 v5 v6 v7 v8 v9 v10 v11 : Value) (h : m + 12 ≤ xs.length) :
    ((((((((((((xs.set (m) v0).set (m + 1) v1).set (m + 2) v2).set (m + 3) v3).set (m + 4) v4).set (m + 5) v5).set (m + 6) v6).set (m + 7) v7).set (m + 8) v8).set (m + 9) v9).set (m + 10) v10).set (m + 11) v11).take (m + 12) = xs.take m ++ [v0, v1, v2, v3, v4, v5, v6, v7, v8, v9, v10, v11] := by
  have h0 := take_more xs m 0 _ v0 rfl (by omega)
  have h1 := take_more (xs.set (m) v0) m 1 _ v1 h0 (by simp; omega)
  have h2 := take_more ((xs.set (m) v0).set (m + 1) v1) m 2 _ v2 h1 (by simp; omega)
  have h3 := take_more (((xs.set (m) v0).set (m + 1) v1).set (m + 2) v2) m 3 _ v3 h2 (by simp; omega)
  have h4 := take_more ((((xs.set (m) v0).set (m + 1) v1).set (m + 2) v2).set (m + 3) v3) m 4 _ v4 h3 (by simp; omega)
  have h5 := take_more (((((xs.set (m) v0).set (m + 1) v1).set (m + 2) v2).set (m + 3) v3).set (m + 4) v4) m 5 _ v5 h4 (by simp; omega)
  have h6 := take_more ((((((xs.set (m) v0).set (m + 1) v1).set (m + 2) v2).set (m + 3) v3).set (m + 4) v4).set (m + 5) v5) m 6 _ v6 h5 (by simp; omega)
  have h7 := take_more (((((((xs.set (m) v0).set (m + 1) v1).set (m + 2) v2).set (m + 3) v3).set (m + 4) v4).set (m + 5) v5).set (m + 6) v6) m 7 _ v7 h6 (by simp; omega)
  have h8 := take_more ((((((((xs.set (m) v0).set (m + 1) v1).set (m + 2) v2).set (m + 3) v3).set (m + 4) v4).set (m + 5) v5).set (m + 6) v6).set (m + 7) v7) m 8 _ v8 h7 (by simp; omega)
  have h9 := take_more (((((((((xs.set (m) v0).set (m + 1) v1).set (m + 2) v2).set (m + 3) v3).set (m + 4) v4).set (m + 5) v5).set (m + 6) v6).set (m + 7) v7).set (m + 8) v8) m 9 _ v9 h8 (by simp; omega)
  have h10 := take_more ((((((((((xs.set (m) v0).set (m + 1) v1).set (m + 2) v2).set (m + 3) v3).set (m + 4) v4).set (m + 5) v5).set (m + 6) v6).set (m + 7) v7).set (m + 8) v8).set (m + 9) v9) m 10 _ v10 h9 (by simp; omega)
  have h11 := take_more (((((((((((xs.set (m) v0).set (m + 1) v1).set (m + 2) v2).set (m + 3) v3).set (m + 4) v4).set (m + 5) v5).set (m + 6) v6).set (m + 7) v7).set (m + 8) v8).set (m + 9) v9).set (m + 10) v10) m 11 _ v11 h10 (by simp; omega)
  simpa using h11
def OwOpC (w : World) (C : List Value) (o : OpV) (F : List Nat) : Prop := ∃ k n t, C = [.int .i64 o.kind, .int .i64 o.atN, .int .i64 o.atR, .int .i64 o.nodeN, .int .i64 o.nodeR, .int .i64 o.parN, .int .i64 o.parR, k, .int .i64 o.elem, n, t, .bool o.gone] ∧ OwnZ w 0 k o.key ∧ Own w 0 n o.name ∧ Own w 0 t o.text ∧ F = FB k ++ FB n ++ FB t
def OwOps (w : World) (v : Value) (l : List OpV) (F : List Nat) : Prop := OwElems w 28 12 v l (OwOpC w) F
theorem OwOpC.frm {w w' : World} {C : List Value} {o : OpV} {F S : List Nat} (h : OwOpC w C o F) (f : Frm w w' S) (hd : ∀ g ∈ F, g ∉ S) : OwOpC w' C o F := by
  obtain ⟨k, n, t, e, h1, h2, h3, rfl⟩ := h
  exact ⟨k, n, t, e, ⟨h1.1, ownsRow_frm h1.2 f (fun g hg => hd g (by simp [hg]))⟩, h2.frm f (fun g hg => hd g (by simp [hg])), h3.frm f (fun g hg => hd g (by simp [hg])), rfl⟩
theorem OwOps.frm {w w' : World} {v : Value} {l : List OpV} {F S : List Nat} (h : OwOps w v l F) (f : Frm w w' S) (hd : ∀ g ∈ F, g ∉ S) : OwOps w' v l F :=
  OwElems.frm h f hd (fun C x G hr hG => hr.frm f hG)
theorem OwOps.rd {w : World} {v : Value} {l : List OpV} {F : List Nat} (h : OwOps w v l F) : RdOps w v l :=
  OwElems.rd h (OwElems.len h) (fun C x G ⟨k, n, t, e, h1, h2, h3, _⟩ => ⟨k, n, t, e, h1.ints, h2.byt, h3.byt⟩)
end Go.Proofs.YtkmmhlimihkgfaaGreat

/- Rows of operations whose block is the call's own, while the operations' rows were there before. -/
namespace Go.Proofs.YtkmmhlimihkgfaaGreat
open Go.RowKit
set_option linter.unusedVariables false

/-- The row v is the call's own; its operations are readable in w0, the world in which the call began. -/
def ShOps (w0 w : World) (base : Nat) (v : Value) (l : List OpV) : Prop :=
  ∃ Cs : List (List Value), Cs.length = l.length ∧ (∀ i (hi : i < l.length), (Cs.getD i []).length = 12 ∧ RdOpC w0 (Cs.getD i []) l[i]) ∧ w.ownsRow base 28 12 v l.length Cs.flatten
theorem sh_none (w0 w : World) (base : Nat) : ShOps w0 w base (.slice none 0 0) [] := ⟨[], rfl, fun i hi => by simp at hi, World.ownsRow_nil _ _ _ _⟩
theorem RdOpC.keep {w w' : World} {C : List Value} {o : OpV} (h : RdOpC w C o) (hb : Below w.heap.size w w') : RdOpC w' C o := by
  obtain ⟨k, n, t, e, h1, h2, h3⟩ := h
  exact ⟨k, n, t, e, h1.keep hb, h2.keep hb, h3.keep hb⟩
theorem ShOps.rd {w0 w : World} {base : Nat} {v : Value} {l : List OpV} (h : ShOps w0 w base v l) (hB : Below w0.heap.size w0 w) : RdOps w v l := by
  obtain ⟨Cs, h1, h2, h3⟩ := h
  have hO : OwElems w 28 12 v l (fun C x G => RdOpC w0 C x ∧ G = []) (FB v ++ (List.replicate l.length ([] : List Nat)).flatten) :=
    ⟨Cs, List.replicate l.length [], h1, by simp, fun i hi => ⟨(h2 i hi).1, (h2 i hi).2, by simp [List.getD_eq_getElem?_getD, hi]⟩, ownsRow_base h3 0 (Nat.zero_le _), rfl⟩
  exact OwElems.rd hO (OwElems.len hO) (fun C x G hr => hr.1.keep hB)
/-- The cells of a readable row, one behind the other. -/
theorem rd_flat {w0 w : World} {b off n cap : Nat} {l : List OpV} (h : ∀ i (hi : i < l.length), ∃ C : List Value, C.length = 12 ∧ (∀ j, j < 12 → w.cell? ⟨b, off + i * 12 + j, none⟩ = C[j]?) ∧ RdOpC w0 C l[i]) :
    ∃ Cs : List (List Value), Cs.length = l.length ∧ (∀ i (hi : i < l.length), (Cs.getD i []).length = 12 ∧ RdOpC w0 (Cs.getD i []) l[i]) ∧ Cs.flatten.length = l.length * 12 ∧ ∀ j u, Cs.flatten[j]? = some u → w.cell? ⟨b, off + j, none⟩ = some u := by
  induction l generalizing off with
  | nil => exact ⟨[], rfl, fun i hi => by simp at hi, rfl, fun j u hj => by simp at hj⟩
  | cons o l ih =>
    obtain ⟨C, hC, hc, hr⟩ := h 0 (by simp)
    obtain ⟨Cs, h1, h2, h3, h4⟩ := ih (off := off + 12) (fun i hi => by
      obtain ⟨C, hC, hc, hr⟩ := h (i + 1) (by simpa using hi)
      refine ⟨C, hC, fun j hj => ?_, by simpa using hr⟩
      rw [← hc j hj]
      congr 2
      omega)
    refine ⟨C :: Cs, by simp [h1], fun i hi => ?_, by simp [hC]; simp at h3; omega, fun j u hj => ?_⟩
    · cases i with
      | zero => exact ⟨by simpa using hC, by simpa using hr⟩
      | succ i => simpa using h2 i (by simpa using hi)
    · rw [List.flatten_cons] at hj
      by_cases hj12 : j < 12
      · rw [List.getElem?_append_left (by omega)] at hj
        have := hc j hj12
        rw [hj] at this
        simpa using this
      · rw [List.getElem?_append_right (by omega), hC] at hj
        have := h4 (j - 12) u hj
        rw [← this]
        congr 2
        omega
end Go.Proofs.YtkmmhlimihkgfaaGreat

/- An operation stored into a row of the call's own. -/
namespace Go.Proofs.YtkmmhlimihkgfaaGreat
open Go.RowKit
set_option linter.unusedVariables false

set_option maxHeartbeats 3200000 in
theorem set_twelveL (xs : List Value) (m : Nat) (v0 v1 v2 v3 v4 v5 v6 v7 v8 v9 v10 v11 : Value) (h : m + 12 ≤ xs.length) : ((((((((((((xs.set (m) v0).set (m + 1) v1).set (m + 2) v2).set (m + 3) v3).set (m + 4) v4).set (m + 5) v5).set (m + 6) v6).set (m + 7) v7).set (m + 8) v8).set (m + 9) v9).set (m + 10) v10).set (m + 11) v11) = xs.take m ++ [v0, v1, v2, v3, v4, v5, v6, v7, v8, v9, v10, v11] ++ xs.drop (m + 12) := by
  have h1 := take_twelve xs m v0 v1 v2 v3 v4 v5 v6 v7 v8 v9 v10 v11 h
  have h2 : ((((((((((((xs.set (m) v0).set (m + 1) v1).set (m + 2) v2).set (m + 3) v3).set (m + 4) v4).set (m + 5) v5).set (m + 6) v6).set (m + 7) v7).set (m + 8) v8).set (m + 9) v9).set (m + 10) v10).set (m + 11) v11).drop (m + 12) = xs.drop (m + 12) := by
    rw [List.drop_set_of_lt (by omega), List.drop_set_of_lt (by omega), List.drop_set_of_lt (by omega), List.drop_set_of_lt (by omega), List.drop_set_of_lt (by omega), List.drop_set_of_lt (by omega), List.drop_set_of_lt (by omega), List.drop_set_of_lt (by omega), List.drop_set_of_lt (by omega), List.drop_set_of_lt (by omega), List.drop_set_of_lt (by omega), List.drop_set_of_lt (by omega)]
  rw [← List.take_append_drop (m + 12) ((((((((((((xs.set (m) v0).set (m + 1) v1).set (m + 2) v2).set (m + 3) v3).set (m + 4) v4).set (m + 5) v5).set (m + 6) v6).set (m + 7) v7).set (m + 8) v8).set (m + 9) v9).set (m + 10) v10).set (m + 11) v11), h1, h2]
theorem flat_set12 : ∀ (Cs : List (List Value)) (i : Nat) (C : List Value), (∀ D ∈ Cs, D.length = 12) → i < Cs.length → (Cs.set i C).flatten = Cs.flatten.take (i * 12) ++ C ++ Cs.flatten.drop (i * 12 + 12)
  | [], i, C, _, h => by simp at h
  | D :: Cs, 0, C, hD, _ => by
    have := hD D (by simp)
    simp [this]
  | D :: Cs, i + 1, C, hD, h => by
    have h1 := hD D (by simp)
    have ih := flat_set12 Cs i C (fun E hE => hD E (by simp [hE])) (by simpa using h)
    rw [List.set_cons_succ, List.flatten_cons, ih, List.flatten_cons, List.take_append, List.drop_append, h1]
    have e1 : (i + 1) * 12 - 12 = i * 12 := by omega
    have e2 : (i + 1) * 12 + 12 - 12 = i * 12 + 12 := by omega
    rw [e1, e2, List.take_of_length_le (by omega : D.length ≤ (i + 1) * 12), List.drop_of_length_le (by omega : D.length ≤ (i + 1) * 12 + 12)]
    simp
set_option maxHeartbeats 3200000 in
theorem ShOps.set {w0 w : World} {base g cap : Nat} {l : List OpV} (h : ShOps w0 w base (.slice (some ⟨g, 0, none⟩) l.length cap) l) (i : Nat) (hi : i < l.length) (v0 v1 v2 v3 v4 v5 v6 v7 v8 v9 v10 v11 : Value) (o : OpV) (ho : RdOpC w0 [v0, v1, v2, v3, v4, v5, v6, v7, v8, v9, v10, v11] o) :
    ShOps w0 ((((((((((((w.setCell ⟨g, i * 12, none⟩ v0).setCell ⟨g, i * 12 + 1, none⟩ v1).setCell ⟨g, i * 12 + 2, none⟩ v2).setCell ⟨g, i * 12 + 3, none⟩ v3).setCell ⟨g, i * 12 + 4, none⟩ v4).setCell ⟨g, i * 12 + 5, none⟩ v5).setCell ⟨g, i * 12 + 6, none⟩ v6).setCell ⟨g, i * 12 + 7, none⟩ v7).setCell ⟨g, i * 12 + 8, none⟩ v8).setCell ⟨g, i * 12 + 9, none⟩ v9).setCell ⟨g, i * 12 + 10, none⟩ v10).setCell ⟨g, i * 12 + 11, none⟩ v11) base (.slice (some ⟨g, 0, none⟩) (l.set i o).length cap) (l.set i o) ∧ Frm w ((((((((((((w.setCell ⟨g, i * 12, none⟩ v0).setCell ⟨g, i * 12 + 1, none⟩ v1).setCell ⟨g, i * 12 + 2, none⟩ v2).setCell ⟨g, i * 12 + 3, none⟩ v3).setCell ⟨g, i * 12 + 4, none⟩ v4).setCell ⟨g, i * 12 + 5, none⟩ v5).setCell ⟨g, i * 12 + 6, none⟩ v6).setCell ⟨g, i * 12 + 7, none⟩ v7).setCell ⟨g, i * 12 + 8, none⟩ v8).setCell ⟨g, i * 12 + 9, none⟩ v9).setCell ⟨g, i * 12 + 10, none⟩ v10).setCell ⟨g, i * 12 + 11, none⟩ v11) [g] := by
  obtain ⟨Cs, h1, h2, h3⟩ := h
  have hl := h3.1
  have hall : ∀ D ∈ Cs, D.length = 12 := by
    intro D hD
    obtain ⟨j, hj, rfl⟩ := List.getElem_of_mem hD
    have := (h2 j (by omega)).1
    have e : Cs.getD j [] = Cs[j] := by simp [List.getD_eq_getElem?_getD, hj]
    rw [e] at this
    exact this
  refine ⟨⟨Cs.set i [v0, v1, v2, v3, v4, v5, v6, v7, v8, v9, v10, v11], by simp [h1], fun j hj => ?_, ?_⟩, ((((((((((((set_frm w g _ _).trans (set_frm _ _ _ _)).trans (set_frm _ _ _ _)).trans (set_frm _ _ _ _)).trans (set_frm _ _ _ _)).trans (set_frm _ _ _ _)).trans (set_frm _ _ _ _)).trans (set_frm _ _ _ _)).trans (set_frm _ _ _ _)).trans (set_frm _ _ _ _)).trans (set_frm _ _ _ _)).trans (set_frm _ _ _ _))⟩
  · have hj' : j < l.length := by simpa using hj
    by_cases hij : i = j
    · subst hij
      rw [List.getD_eq_getElem?_getD, List.getElem?_set, if_pos rfl, if_pos (by omega), List.getElem_set_self]
      exact ⟨rfl, ho⟩
    · rw [List.getD_eq_getElem?_getD, List.getElem?_set, if_neg hij, ← List.getD_eq_getElem?_getD, List.getElem_set_ne hij]
      exact h2 j hj'
  · rw [List.length_set, flat_set12 Cs i _ hall (by omega)]
    have t0 := (h3.stored (i * 12) v0).1
    have t1 := (t0.stored (i * 12 + 1) v1).1
    have t2 := (t1.stored (i * 12 + 2) v2).1
    have t3 := (t2.stored (i * 12 + 3) v3).1
    have t4 := (t3.stored (i * 12 + 4) v4).1
    have t5 := (t4.stored (i * 12 + 5) v5).1
    have t6 := (t5.stored (i * 12 + 6) v6).1
    have t7 := (t6.stored (i * 12 + 7) v7).1
    have t8 := (t7.stored (i * 12 + 8) v8).1
    have t9 := (t8.stored (i * 12 + 9) v9).1
    have t10 := (t9.stored (i * 12 + 10) v10).1
    have t11 := (t10.stored (i * 12 + 11) v11).1
    rw [← set_twelveL Cs.flatten (i * 12) v0 v1 v2 v3 v4 v5 v6 v7 v8 v9 v10 v11 (by omega)]
    exact t11
/-- The cells that it takes the place of. -/
theorem ShOps.cells {w0 w : World} {base g cap : Nat} {l : List OpV} (h : ShOps w0 w base (.slice (some ⟨g, 0, none⟩) l.length cap) l) (i : Nat) (hi : i < l.length) (j : Nat) (hj : j < 12) : (∃ y, w.cell? ⟨g, i * 12 + j, none⟩ = some y) ∧ w.frozen? ⟨g, i * 12 + j, none⟩ = false := by
  obtain ⟨Cs, h1, h2, h3⟩ := h
  have hl := h3.1
  exact ⟨⟨Cs.flatten[i * 12 + j]'(by omega), by rw [h3.cellAt (i * 12 + j) (by omega), List.getElem?_eq_getElem (by omega)]⟩, h3.frozenAt (i * 12 + j)⟩
end Go.Proofs.YtkmmhlimihkgfaaGreat

/- An append of a readable row of bytes to an owned one, as one law for the walk. -/
namespace Go.Proofs.YtkmmhlimihkgfaaGreat
open Go.RowKit
set_option linter.unusedVariables false

/-- 'append(out, src...)': out owned, src readable: what comes is owned, and no block but out's own has been written. -/
theorem wpList_app {w : World} {ops : Array Oper} {rest : List Oper} {o : Oper} {a : Act} {Q : Exit → Act → World → Prop} (hgd : o.guard = none) (s x : Operand)
    (ho : o.op = .call { callee := .builtin .append, args := #[s, x], argTypes := #[22, 22] })
    (base : Nat) (v : Value) (l : List Int) (hs : a.eval s = v) (hown : Own w base v l) (u : Value) (m : List Int) (hx : a.eval x = u) (hu : Byt w u m)
    (hlen : l.length + m.length ≤ 134217728) (hbase : base ≤ w.heap.size)
    (h : ∀ v' w', Own w' base v' (l ++ m) → w.grownBy w' v.ownBlock → wpList Tryz.prog ops Q rest (a.put o.dst v') w') : wpList Tryz.prog ops Q (o :: rest) a w := by
  obtain ⟨i0, hi, hz0, hz1, hz2⟩ := info_parts Tryz.info5
  have hfull : ∀ (ad : Addr) (c : Nat), a.eval x = .slice (some ad) m.length c → (∀ j, j < m.length → w.cell? (ad.add j) = some (.int .u8 (m.getD j 0))) → wpList Tryz.prog ops Q (o :: rest) a w := by
    intro ad c hx' hc
    refine wpList_append_own _ hgd s x 22 ho base 5 i0 (.int .u8 0) 1 1 Tryz.underlying22 hi hz0 hz1 hz2 rfl (by decide) v l.length (vals l) hs hown.2 ad m.length c (vals m) hx' (by rw [vals_len]; omega) ?_ (vals_one m) (by unfold maxLen; omega) (by omega) hbase ?_
    · intro j y hj
      have hlt : j < m.length := by
        by_cases hlt : j < m.length
        · exact hlt
        · rw [List.getElem?_eq_none (by rw [vals_len]; omega)] at hj; cases hj
      rw [vals_at hlt] at hj
      rw [hc j hlt]; exact hj
    · intro v' w' h1 h2 _
      refine h v' w' ⟨hown.1.app hu.1, ?_⟩ h2
      rw [vals_app, List.length_append]; exact h1
  obtain ⟨hok, hm, ⟨rfl, rfl⟩ | ⟨y, cap, rfl, hc, rfl⟩ | ⟨b, off, cap, rfl, h1, h2, h3, h4, h5⟩⟩ := hu
  · refine wpList_append_own_none hgd s x 22 ho base 5 i0 1 Tryz.underlying22 hi v l.length (vals l) hs hown.2 hx ?_
    exact h v w (by rw [List.append_nil]; exact hown) (World.grownBy.refl _ _)
  · exact hfull y cap hx (fun j hj => by simp at hj)
  · exact hfull ⟨b, off, none⟩ cap hx (fun j hj => by rw [add_plain]; exact h5 j hj)

/-- A new block of one byte. -/
theorem byt_one (w : World) (x : Int) (h0 : 0 ≤ x) (h1 : x ≤ 255) : Byt (w.alloc (.cells #[.int .u8 x] 5)) (.slice (some ⟨w.heap.size, 0, none⟩) 1 1) [x] := by
  refine ⟨okB.one h0 h1, by simp [maxLen], .inr (.inr ⟨w.heap.size, 0, 1, rfl, by simp, by simp [maxLen], by simp, by simp, fun i hi => ?_⟩)⟩
  have e : i = 0 := by simpa using hi
  subst e
  simp
/-- A new block of none. -/
theorem own_none (w : World) : Own (w.alloc (.cells #[] 5)) w.heap.size (.slice (some ⟨w.heap.size, 0, none⟩) 0 0) [] :=
  ⟨okB_nil, World.ownsRow_lit w #[] 0 (Nat.le_refl _) (Nat.zero_le _) rfl⟩
theorem Own.alloc {w : World} {base : Nat} {v : Value} {l : List Int} (h : Own w base v l) (o : Obj) : Own (w.alloc o) base v l := ⟨h.1, h.2.alloc o⟩
theorem Byt.alloc {w : World} {v : Value} {l : List Int} (h : Byt w v l) (o : Obj) : Byt (w.alloc o) v l := h.keep ((Below.refl _ _).alloc (Nat.le_refl _) o)
/-- A block of the call's own that was there when the row was made is no older than 'base'. -/
theorem Own.base_le {w : World} {base : Nat} {v : Value} {l : List Int} (h : Own w base v l) : ∀ g, v.ownBlock = some g → base ≤ g := fun g hg => (h.lt g hg).1

end Go.Proofs.YtkmmhlimihkgfaaGreat

/- An append of operations that are there to a row of the call's own. -/
namespace Go.Proofs.YtkmmhlimihkgfaaGreat
open Go.RowKit
set_option linter.unusedVariables false

/-- A stretch of operations: its cells lie in w, its operations are readable in w0. -/
def Seg (w0 w : World) (u : Value) (m : List OpV) : Prop :=
  (u = .slice none 0 0 ∧ m = []) ∨ (∃ x c, u = .slice (some x) 0 c ∧ m = []) ∨
  ∃ b off c, u = .slice (some ⟨b, off, none⟩) m.length c ∧ ∀ i (hi : i < m.length), ∃ C : List Value, C.length = 12 ∧ (∀ j, j < 12 → w.cell? ⟨b, off + i * 12 + j, none⟩ = C[j]?) ∧ RdOpC w0 C m[i]
theorem Seg.at {w0 w : World} {b off n c : Nat} {m : List OpV} (hn : m.length = n) (hB : Below w0.heap.size w0 w) (hb : b < w0.heap.size) (h : ∀ i (hi : i < m.length), ∃ C : List Value, C.length = 12 ∧ (∀ j, j < 12 → w0.cell? ⟨b, off + i * 12 + j, none⟩ = C[j]?) ∧ RdOpC w0 C m[i]) : Seg w0 w (.slice (some ⟨b, off, none⟩) n c) m :=
  .inr (.inr ⟨b, off, c, by rw [hn], fun i hi => by
    obtain ⟨C, hC, hc, hr⟩ := h i hi
    exact ⟨C, hC, fun j hj => (hB.cell (p := ⟨b, off + i * 12 + j, none⟩) hb).trans (hc j hj), hr⟩⟩)
theorem RdOps.seg {w0 w : World} {v : Value} {l : List OpV} (h : RdOps w0 v l) (hB : Below w0.heap.size w0 w) : Seg w0 w v l := by
  obtain ⟨_, ⟨rfl, rfl⟩ | ⟨x, cap, rfl, hc, rfl⟩ | ⟨b, off, cap, rfl, g1, g2, g3, g4, g5⟩⟩ := h
  · exact .inl ⟨rfl, rfl⟩
  · exact .inr (.inl ⟨x, cap, rfl, rfl⟩)
  · exact Seg.at rfl hB g4 g5
/-- One operation in a new block. -/
theorem Seg.one {w0 w : World} {g : Nat} {C : List Value} {o : OpV} (hC : C.length = 12) (hl : Loc w g C.toArray 28) (hr : RdOpC w0 C o) : Seg w0 w (.slice (some ⟨g, 0, none⟩) 1 1) [o] :=
  .inr (.inr ⟨g, 0, 1, rfl, fun i hi => by
    have e : i = 0 := by simpa using hi
    subst e
    exact ⟨C, hC, fun j hj => by rw [Nat.zero_mul, Nat.zero_add, hl.cell j]; simp, hr⟩⟩)
theorem opc_one {w : World} {C : List Value} {o : OpV} (h : RdOpC w C o) : ∀ u ∈ C, u.oneCell' = true := by
  obtain ⟨k, n, t, rfl, hk, hn, ht⟩ := h
  obtain ⟨a1, c1, rfl, _, _⟩ := hk.shape
  obtain ⟨a2, c2, rfl, _, _⟩ := hn.shape
  obtain ⟨a3, c3, rfl, _, _⟩ := ht.shape
  intro u hu
  simp at hu
  rcases hu with rfl | rfl | rfl | rfl | rfl | rfl | rfl | rfl | rfl | rfl | rfl | rfl <;> rfl
theorem flat_one {w : World} {l : List OpV} {Cs : List (List Value)} (h1 : Cs.length = l.length) (h : ∀ i (hi : i < l.length), (Cs.getD i []).length = 12 ∧ RdOpC w (Cs.getD i []) l[i]) : ∀ u ∈ Cs.flatten, u.oneCell' = true := by
  intro u hu
  obtain ⟨C, hC, hmem⟩ := List.mem_flatten.1 hu
  obtain ⟨i, hi, rfl⟩ := List.getElem_of_mem hC
  have := (h i (by omega)).2
  have e : Cs.getD i [] = Cs[i] := by simp [List.getD_eq_getElem?_getD, hi]
  rw [e] at this
  exact opc_one this u hmem
theorem wpList_appSh {w0 w : World} {ops : Array Oper} {rest : List Oper} {o : Oper} {a : Act} {Q : Exit → Act → World → Prop} (hgd : o.guard = none) (s x : Operand)
    (ho : o.op = .call { callee := .builtin .append, args := #[s, x], argTypes := #[23, 23] })
    (base : Nat) (v : Value) (l : List OpV) (hs : a.eval s = v) (hsh : ShOps w0 w base v l) (u : Value) (m : List OpV) (hx : a.eval x = u) (hu : Seg w0 w u m)
    (hlen : l.length + m.length ≤ 100000) (hbase : base ≤ w.heap.size)
    (h : ∀ v' w', ShOps w0 w' base v' (l ++ m) → w.grownBy w' v.ownBlock → wpList Tryz.prog ops Q rest (a.put o.dst v') w') : wpList Tryz.prog ops Q (o :: rest) a w := by
  obtain ⟨i0, hi, hz0, hz1, hz2⟩ := info_parts Tryz.info28
  obtain ⟨Cs, h1, h2, h3⟩ := hsh
  have hfull : ∀ (ad : Addr) (c : Nat) (Ds : List (List Value)), a.eval x = .slice (some ad) m.length c → Ds.length = m.length → (∀ i (hi : i < m.length), (Ds.getD i []).length = 12 ∧ RdOpC w0 (Ds.getD i []) m[i]) → Ds.flatten.length = m.length * 12 → (∀ j y, Ds.flatten[j]? = some y → w.cell? (ad.add j) = some y) → wpList Tryz.prog ops Q (o :: rest) a w := by
    intro ad c Ds hx' e1 e2 e3 hc
    refine wpList_append_own _ hgd s x 23 ho base 28 i0 _ 12 144 Tryz.underlying23 hi hz0 hz1 hz2 rfl (by decide) v l.length Cs.flatten hs h3 ad m.length c Ds.flatten hx' e3 hc (flat_one e1 e2) (by unfold maxLen; omega) (by omega) hbase ?_
    intro v' w' k1 k2 _
    refine h v' w' ⟨Cs ++ Ds, by simp [h1, e1], fun i hi => ?_, ?_⟩ k2
    · by_cases hil : i < l.length
      · rw [List.getD_eq_getElem?_getD, List.getElem?_append_left (by omega), ← List.getD_eq_getElem?_getD, List.getElem_append_left hil]
        exact h2 i hil
      · rw [List.getD_eq_getElem?_getD, List.getElem?_append_right (by omega), ← List.getD_eq_getElem?_getD, List.getElem_append_right (by omega), h1]
        exact e2 (i - l.length) (by simp at hi; omega)
    · rw [List.length_append, List.flatten_append]; exact k1
  rcases hu with ⟨rfl, rfl⟩ | ⟨y, c, rfl, rfl⟩ | ⟨b, off, c, rfl, hel⟩
  · refine wpList_append_own_none hgd s x 23 ho base 28 i0 12 Tryz.underlying23 hi v l.length Cs.flatten hs h3 hx ?_
    exact h v w (by rw [List.append_nil]; exact ⟨Cs, h1, h2, h3⟩) (World.grownBy.refl _ _)
  · exact hfull y c [] hx rfl (fun i hi => by simp at hi) rfl (fun j y hj => by simp at hj)
  · obtain ⟨Ds, e1, e2, e3, e4⟩ := rd_flat (n := 0) (cap := 0) hel
    exact hfull ⟨b, off, none⟩ c Ds hx e1 e2 e3 (fun j y hj => by rw [add_plain]; exact e4 j y hj)
end Go.Proofs.YtkmmhlimihkgfaaGreat

/- The order of keys, in plain mathematics. -/
namespace Go.Proofs.YtkmmhlimihkgfaaGreat
set_option linter.unusedVariables false

/-- By the first number in which they differ; the one that begins the other one is less. -/
def klB : List Int → List Int → Bool
  | [], [] => false
  | [], _ :: _ => true
  | _ :: _, [] => false
  | x :: a, y :: b => if x = y then klB a b else decide (x < y)

theorem klB_end {a b : List Int} (h : a = [] ∨ b = []) : klB a b = decide (a.length < b.length) := by
  cases a <;> cases b <;> simp [klB] at *
theorem drop_cons {l : List Int} {k : Nat} (h : k < l.length) : l.drop k = l.getD k 0 :: l.drop (k + 1) := by
  rw [List.drop_eq_getElem_cons h, getD_at h]
theorem klB_same {a b : List Int} {k : Nat} (ha : k < a.length) (hb : k < b.length) (e : a.getD k 0 = b.getD k 0) : klB (a.drop k) (b.drop k) = klB (a.drop (k + 1)) (b.drop (k + 1)) := by
  rw [drop_cons ha, drop_cons hb, klB, if_pos e]
theorem klB_diff {a b : List Int} {k : Nat} (ha : k < a.length) (hb : k < b.length) (e : a.getD k 0 ≠ b.getD k 0) : klB (a.drop k) (b.drop k) = decide (a.getD k 0 < b.getD k 0) := by
  rw [drop_cons ha, drop_cons hb, klB, if_neg e]
theorem klB_over {a b : List Int} {k : Nat} (ha : k ≤ a.length) (hb : k ≤ b.length) (h : k = a.length ∨ k = b.length) : klB (a.drop k) (b.drop k) = decide (a.length < b.length) := by
  rw [klB_end (by rcases h with rfl | rfl <;> simp)]
  simp only [List.length_drop]
  rw [Bool.eq_iff_iff]
  simp only [decide_eq_true_eq]
  omega
theorem klB_irr (a : List Int) : klB a a = false := by
  induction a with
  | nil => rfl
  | cons x a ih => rw [klB, if_pos rfl, ih]
theorem klB_anti (a b : List Int) : (klB a b && klB b a) = false := by
  induction a generalizing b with
  | nil => cases b <;> rfl
  | cons x a ih =>
    cases b with
    | nil => rfl
    | cons y b =>
      by_cases e : x = y
      · rw [klB, if_pos e, klB, if_pos e.symm]; exact ih b
      · rw [klB, if_neg e, klB, if_neg (fun h => e h.symm)]
        by_cases h : x < y
        · have : ¬ y < x := by omega
          simp [this]
        · simp [h]
theorem klB_tri (a b : List Int) : (klB a b || klB b a) = !decide (a = b) := by
  induction a generalizing b with
  | nil => cases b <;> simp [klB]
  | cons x a ih =>
    cases b with
    | nil => simp [klB]
    | cons y b =>
      by_cases e : x = y
      · rw [klB, if_pos e, klB, if_pos e.symm, ih b]; simp [e]
      · rw [klB, if_neg e, klB, if_neg (fun h => e h.symm)]
        have : x < y ∨ y < x := by omega
        simp [e, this]
end Go.Proofs.YtkmmhlimihkgfaaGreat

/- Rows of bytes as strings: the conversion, and when two are one. -/
namespace Go.Proofs.YtkmmhlimihkgfaaGreat
open Go.RowKit
set_option linter.unusedVariables false

/-- The string of a row of bytes. -/
def str (l : List Int) : ByteArray := l.foldl (fun r n => r.push (UInt8.ofNat n.toNat)) ByteArray.empty
theorem str_go (l : List Int) (s : ByteArray) : (l.foldl (fun r n => r.push (UInt8.ofNat n.toNat)) s).data.toList = s.data.toList ++ l.map (fun n => UInt8.ofNat n.toNat) := by
  induction l generalizing s with
  | nil => simp
  | cons x l ih => rw [List.foldl_cons, ih]; simp [ByteArray.push]
theorem str_list (l : List Int) : (str l).data.toList = l.map (fun n => UInt8.ofNat n.toNat) := by
  unfold str; rw [str_go]; rfl
theorem toList_data (s : ByteArray) : s.toList = s.data.toList := Go.ByteArray.toList_eq s
theorem str_inj {a b : List Int} (ha : okB a) (hb : okB b) (h : (str a).toList = (str b).toList) : a = b := by
  rw [toList_data, toList_data, str_list, str_list] at h
  have hg : ∀ l : List Int, okB l → (l.map (fun n => UInt8.ofNat n.toNat)).map (fun u => (u.toNat : Int)) = l := by
    intro l hl
    induction l with
    | nil => rfl
    | cons x l ih =>
      have hx := hl x (by simp)
      have e : ((UInt8.ofNat x.toNat).toNat : Int) = x := by
        rw [UInt8.toNat_ofNat']; omega
      rw [List.map_cons, List.map_cons, ih (fun y hy => hl y (by simp [hy])), e]
  rw [← hg a ha, ← hg b hb, h]
theorem str_beq {a b : List Int} (ha : okB a) (hb : okB b) : ((str a).toList == (str b).toList) = decide (a = b) := by
  by_cases h : a = b
  · subst h; simp
  · have : ¬ (str a).toList = (str b).toList := fun e => h (str_inj ha hb e)
    rw [decide_eq_false h, beq_eq_false_iff_ne]; exact this

theorem conv_any (w : World) (u : Value) (a : List Int) (hu : Byt w u a) : (convert 22 9 u).run Tryz.prog w = .ok (.string (str a)) w := by
  have hfull : ∀ (x : Addr) (c : Nat), (∀ j, j < a.length → w.cell? (x.add j) = some (.int .u8 (a.getD j 0))) → (convert 22 9 (.slice (some x) a.length c)).run Tryz.prog w = .ok (.string (str a)) w := by
    intro x c hc
    rw [run_convert_bytes_string w 22 9 5 (some x) a.length c Tryz.underlying22 Tryz.underlying5 Tryz.underlying9]
    refine run_bytesToString w x a.length c a ?_
    have h := run_loadCells_list (P := Tryz.prog) (w := w) x (vals a) (fun j v hj => by
      have hlt : j < a.length := by
        by_cases hlt : j < a.length
        · exact hlt
        · rw [List.getElem?_eq_none (by rw [vals_len]; omega)] at hj; cases hj
      rw [vals_at hlt] at hj
      rw [hc j hlt]; exact hj)
    rw [vals_len] at h
    exact h
  obtain ⟨hoka, _, ⟨rfl, rfl⟩ | ⟨x, cap, rfl, hc, rfl⟩ | ⟨p, off, cap, rfl, h1, h2, h3, h4, h5⟩⟩ := hu
  · rw [run_convert_bytes_string w 22 9 5 none 0 0 Tryz.underlying22 Tryz.underlying5 Tryz.underlying9]
    simp [Conv.bytesToString, str]
  · exact hfull x cap (fun j hj => by simp at hj)
  · exact hfull _ cap (fun j hj => by rw [add_plain]; exact h5 j hj)

end Go.Proofs.YtkmmhlimihkgfaaGreat
