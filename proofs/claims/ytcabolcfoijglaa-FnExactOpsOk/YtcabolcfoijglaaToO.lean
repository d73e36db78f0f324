/- laws.toOp: the copy reads the same, in blocks of its own. -/
import Derived.Test.YtcabolcfoijglaaEqP
import Derived.Test.YtcabolcfoijglaaLocB
import Derived.Test.YtcabolcfoijglaaTo
import Derived.Test.YtcabolcfoijglaaToZ
namespace Go.Proofs.Ytcabolcfoijglaa
open Go.RowKit
set_option linter.unusedVariables false
set_option maxRecDepth 100000

theorem OwnZ.frm {w w' : World} {base : Nat} {v : Value} {l : List Int} {S : List Nat} (h : OwnZ w base v l) (f : Frm w w' S) (hd : ∀ g ∈ FB v, g ∉ S) : OwnZ w' base v l := ⟨h.1, ownsRow_frm h.2 f hd⟩
theorem OwnZ.rng {w : World} {base : Nat} {v : Value} {l : List Int} (h : OwnZ w base v l) : Rng (FB v) base w.heap.size := fun g hg => h.lt g (by simpa [FB] using hg)
theorem Loc.be {w : World} {g : Nat} {cs ds : Array Value} {T : TypeId} (h : Loc w g cs T) (e : cs = ds) : Loc w g ds T := e ▸ h

set_option maxHeartbeats 6400000 in
theorem toOp_any (w : World) (v : Value) (o : OpV) (h : RdOp w v o) (hs : o.key.length + o.name.length + o.text.length ≤ 2097152) :
    Calls Try.prog 63 #[v] w fun e w' => ∃ k n t, e = .returned (opVal o k n t) ∧ OwnZ w' w.heap.size k o.key ∧ Own w' w.heap.size n o.name ∧ Own w' w.heap.size t o.text ∧ (FB k ++ FB n ++ FB t).Nodup ∧ Below w.heap.size w w' := by
  obtain ⟨k, n, t, rfl, hk, hn, ht⟩ := h
  obtain ⟨pk, ck, rfl, _, _⟩ := hk.shape
  obtain ⟨pn, cn, rfl, _, _⟩ := hn.shape
  obtain ⟨pt, ct, rfl, _, _⟩ := ht.shape
  have H := hide (And.intro hk (And.intro hn ht))
  clear hk hn ht
  have HS := hide hs
  clear hs
  unfold opVal
  have l0 := (((Loc.made w #[.int .i64 o.kind, .int .i64 o.atN, .int .i64 o.atR, .int .i64 o.nodeN, .int .i64 o.nodeR, .int .i64 o.parN, .int .i64 o.parR, .slice pk o.key.length ck, .int .i64 o.elem, .slice pn o.name.length cn, .slice pt o.text.length ct, .bool o.gone] 82).alloc (.cells #[.int .i64 0, .int .i64 0, .int .i64 0, .int .i64 0, .int .i64 0, .int .i64 0, .int .i64 0, .slice none 0 0, .int .i64 0, .slice none 0 0, .slice none 0 0, .bool false] 27)).alloc (.cells #[.int .i64 o.kind, .int .i64 0, .int .i64 0, .int .i64 0, .int .i64 0, .int .i64 0, .int .i64 0, .slice none 0 0, .int .i64 0, .slice none 0 0, .slice none 0 0, .bool false] 27))
  have l1 := (Loc.made (w.alloc (.cells #[.int .i64 o.kind, .int .i64 o.atN, .int .i64 o.atR, .int .i64 o.nodeN, .int .i64 o.nodeR, .int .i64 o.parN, .int .i64 o.parR, .slice pk o.key.length ck, .int .i64 o.elem, .slice pn o.name.length cn, .slice pt o.text.length ct, .bool o.gone] 82)) #[.int .i64 0, .int .i64 0, .int .i64 0, .int .i64 0, .int .i64 0, .int .i64 0, .int .i64 0, .slice none 0 0, .int .i64 0, .slice none 0 0, .slice none 0 0, .bool false] 27).alloc (.cells #[.int .i64 o.kind, .int .i64 0, .int .i64 0, .int .i64 0, .int .i64 0, .int .i64 0, .int .i64 0, .slice none 0 0, .int .i64 0, .slice none 0 0, .slice none 0 0, .bool false] 27)
  have l2 := Loc.made ((w.alloc (.cells #[.int .i64 o.kind, .int .i64 o.atN, .int .i64 o.atR, .int .i64 o.nodeN, .int .i64 o.nodeR, .int .i64 o.parN, .int .i64 o.parR, .slice pk o.key.length ck, .int .i64 o.elem, .slice pn o.name.length cn, .slice pt o.text.length ct, .bool o.gone] 82)).alloc (.cells #[.int .i64 0, .int .i64 0, .int .i64 0, .int .i64 0, .int .i64 0, .int .i64 0, .int .i64 0, .slice none 0 0, .int .i64 0, .slice none 0 0, .slice none 0 0, .bool false] 27)) #[.int .i64 o.kind, .int .i64 0, .int .i64 0, .int .i64 0, .int .i64 0, .int .i64 0, .int .i64 0, .slice none 0 0, .int .i64 0, .slice none 0 0, .slice none 0 0, .bool false] 27
  have hA : Below w.heap.size w (((w.alloc (.cells #[.int .i64 o.kind, .int .i64 o.atN, .int .i64 o.atR, .int .i64 o.nodeN, .int .i64 o.nodeR, .int .i64 o.parN, .int .i64 o.parR, .slice pk o.key.length ck, .int .i64 o.elem, .slice pn o.name.length cn, .slice pt o.text.length ct, .bool o.gone] 82)).alloc (.cells #[.int .i64 0, .int .i64 0, .int .i64 0, .int .i64 0, .int .i64 0, .int .i64 0, .int .i64 0, .slice none 0 0, .int .i64 0, .slice none 0 0, .slice none 0 0, .bool false] 27)).alloc (.cells #[.int .i64 o.kind, .int .i64 0, .int .i64 0, .int .i64 0, .int .i64 0, .int .i64 0, .int .i64 0, .slice none 0 0, .int .i64 0, .slice none 0 0, .slice none 0 0, .bool false] 27)) := (((Below.refl _ _).alloc (Nat.le_refl _) _).alloc (by simp) _).alloc (by simp; omega) _
  simp only [World.size_alloc] at l1 l2
  have L := hide (And.intro l0 (And.intro l1 (And.intro l2 hA)))
  clear l0 l1 l2 hA
  go_enter Try.func63, Try.ntmps63
  go_wp2_with fail
  obtain ⟨l0, l1, l2, hA⟩ := unhide L
  clear L
  generalize (((w.alloc (.cells #[.int .i64 o.kind, .int .i64 o.atN, .int .i64 o.atR, .int .i64 o.nodeN, .int .i64 o.nodeR, .int .i64 o.parN, .int .i64 o.parR, .slice pk o.key.length ck, .int .i64 o.elem, .slice pn o.name.length cn, .slice pt o.text.length ct, .bool o.gone] 82)).alloc (.cells #[.int .i64 0, .int .i64 0, .int .i64 0, .int .i64 0, .int .i64 0, .int .i64 0, .int .i64 0, .slice none 0 0, .int .i64 0, .slice none 0 0, .slice none 0 0, .bool false] 27)).alloc (.cells #[.int .i64 o.kind, .int .i64 0, .int .i64 0, .int .i64 0, .int .i64 0, .int .i64 0, .int .i64 0, .slice none 0 0, .int .i64 0, .slice none 0 0, .slice none 0 0, .bool false] 27)) = W at *
  refine (toId_any _ o.atN o.atR).mono ?_
  rintro e w1 ⟨rfl, hB⟩
  replace l0 := l0.all hB
  replace l1 := l1.all hB
  replace l2 := l2.all hB
  replace hA := bstep hA hB
  clear hB
  have e0_3 := l0.cell 3
  have e0_4 := l0.cell 4
  have e2_1 := l2.cell 1
  have f2_1 := l2.frozen 1
  have e2_2 := l2.cell 2
  have f2_2 := l2.frozen 2
  simp at e0_3 e0_4 e2_1 e2_2
  have m0 : Loc ((w1.setCell ⟨w.heap.size + 1 + 1, 1, none⟩ (.int .i64 o.atN)).setCell ⟨w.heap.size + 1 + 1, 2, none⟩ (.int .i64 o.atR)) w.heap.size #[.int .i64 o.kind, .int .i64 o.atN, .int .i64 o.atR, .int .i64 o.nodeN, .int .i64 o.nodeR, .int .i64 o.parN, .int .i64 o.parR, .slice pk o.key.length ck, .int .i64 o.elem, .slice pn o.name.length cn, .slice pt o.text.length ct, .bool o.gone] 82 := ((l0.other _ _ _ (by omega)).other _ _ _ (by omega))
  have m1 : Loc ((w1.setCell ⟨w.heap.size + 1 + 1, 1, none⟩ (.int .i64 o.atN)).setCell ⟨w.heap.size + 1 + 1, 2, none⟩ (.int .i64 o.atR)) (w.heap.size + 1) #[.int .i64 0, .int .i64 0, .int .i64 0, .int .i64 0, .int .i64 0, .int .i64 0, .int .i64 0, .slice none 0 0, .int .i64 0, .slice none 0 0, .slice none 0 0, .bool false] 27 := ((l1.other _ _ _ (by omega)).other _ _ _ (by omega))
  have m2 : Loc ((w1.setCell ⟨w.heap.size + 1 + 1, 1, none⟩ (.int .i64 o.atN)).setCell ⟨w.heap.size + 1 + 1, 2, none⟩ (.int .i64 o.atR)) (w.heap.size + 1 + 1) #[.int .i64 o.kind, .int .i64 o.atN, .int .i64 o.atR, .int .i64 0, .int .i64 0, .int .i64 0, .int .i64 0, .slice none 0 0, .int .i64 0, .slice none 0 0, .slice none 0 0, .bool false] 27 := ((l2.set 1 (.int .i64 o.atN)).set 2 (.int .i64 o.atR)).be (by simp)
  have hf : Frm w1 ((w1.setCell ⟨w.heap.size + 1 + 1, 1, none⟩ (.int .i64 o.atN)).setCell ⟨w.heap.size + 1 + 1, 2, none⟩ (.int .i64 o.atR)) [w.heap.size + 1 + 1] := ((set_frm _ _ _ _).trans (set_frm _ _ _ _))
  have hA2 : Below w.heap.size w ((w1.setCell ⟨w.heap.size + 1 + 1, 1, none⟩ (.int .i64 o.atN)).setCell ⟨w.heap.size + 1 + 1, 2, none⟩ (.int .i64 o.atR)) := hA.trans (hf.below hA.size (fun g hg => by simp at hg; omega))
  have L := hide (And.intro m0 (And.intro m1 (And.intro m2 hA2)))
  clear m0 m1 m2 hf hA2 l0 l1 l2 hA
  go_wp2_with fail
  obtain ⟨l0, l1, l2, hA⟩ := unhide L
  clear L
  clear e0_3 e0_4 e2_1 f2_1 e2_2 f2_2
  refine (toId_any _ o.nodeN o.nodeR).mono ?_
  rintro e w2 ⟨rfl, hB⟩
  replace l0 := l0.all hB
  replace l1 := l1.all hB
  replace l2 := l2.all hB
  replace hA := bstep hA hB
  clear hB
  have e0_5 := l0.cell 5
  have e0_6 := l0.cell 6
  have e2_3 := l2.cell 3
  have f2_3 := l2.frozen 3
  have e2_4 := l2.cell 4
  have f2_4 := l2.frozen 4
  simp at e0_5 e0_6 e2_3 e2_4
  have m0 : Loc ((w2.setCell ⟨w.heap.size + 1 + 1, 3, none⟩ (.int .i64 o.nodeN)).setCell ⟨w.heap.size + 1 + 1, 4, none⟩ (.int .i64 o.nodeR)) w.heap.size #[.int .i64 o.kind, .int .i64 o.atN, .int .i64 o.atR, .int .i64 o.nodeN, .int .i64 o.nodeR, .int .i64 o.parN, .int .i64 o.parR, .slice pk o.key.length ck, .int .i64 o.elem, .slice pn o.name.length cn, .slice pt o.text.length ct, .bool o.gone] 82 := ((l0.other _ _ _ (by omega)).other _ _ _ (by omega))
  have m1 : Loc ((w2.setCell ⟨w.heap.size + 1 + 1, 3, none⟩ (.int .i64 o.nodeN)).setCell ⟨w.heap.size + 1 + 1, 4, none⟩ (.int .i64 o.nodeR)) (w.heap.size + 1) #[.int .i64 0, .int .i64 0, .int .i64 0, .int .i64 0, .int .i64 0, .int .i64 0, .int .i64 0, .slice none 0 0, .int .i64 0, .slice none 0 0, .slice none 0 0, .bool false] 27 := ((l1.other _ _ _ (by omega)).other _ _ _ (by omega))
  have m2 : Loc ((w2.setCell ⟨w.heap.size + 1 + 1, 3, none⟩ (.int .i64 o.nodeN)).setCell ⟨w.heap.size + 1 + 1, 4, none⟩ (.int .i64 o.nodeR)) (w.heap.size + 1 + 1) #[.int .i64 o.kind, .int .i64 o.atN, .int .i64 o.atR, .int .i64 o.nodeN, .int .i64 o.nodeR, .int .i64 0, .int .i64 0, .slice none 0 0, .int .i64 0, .slice none 0 0, .slice none 0 0, .bool false] 27 := ((l2.set 3 (.int .i64 o.nodeN)).set 4 (.int .i64 o.nodeR)).be (by simp)
  have hf : Frm w2 ((w2.setCell ⟨w.heap.size + 1 + 1, 3, none⟩ (.int .i64 o.nodeN)).setCell ⟨w.heap.size + 1 + 1, 4, none⟩ (.int .i64 o.nodeR)) [w.heap.size + 1 + 1] := ((set_frm _ _ _ _).trans (set_frm _ _ _ _))
  have hA2 : Below w.heap.size w ((w2.setCell ⟨w.heap.size + 1 + 1, 3, none⟩ (.int .i64 o.nodeN)).setCell ⟨w.heap.size + 1 + 1, 4, none⟩ (.int .i64 o.nodeR)) := hA.trans (hf.below hA.size (fun g hg => by simp at hg; omega))
  have L := hide (And.intro m0 (And.intro m1 (And.intro m2 hA2)))
  clear m0 m1 m2 hf hA2 l0 l1 l2 hA
  go_wp2_with fail
  obtain ⟨l0, l1, l2, hA⟩ := unhide L
  clear L
  clear e0_5 e0_6 e2_3 f2_3 e2_4 f2_4
  refine (toId_any _ o.parN o.parR).mono ?_
  rintro e w3 ⟨rfl, hB⟩
  replace l0 := l0.all hB
  replace l1 := l1.all hB
  replace l2 := l2.all hB
  replace hA := bstep hA hB
  clear hB
  have e0_7 := l0.cell 7
  have e2_5 := l2.cell 5
  have f2_5 := l2.frozen 5
  have e2_6 := l2.cell 6
  have f2_6 := l2.frozen 6
  simp at e0_7 e2_5 e2_6
  have m0 : Loc ((w3.setCell ⟨w.heap.size + 1 + 1, 5, none⟩ (.int .i64 o.parN)).setCell ⟨w.heap.size + 1 + 1, 6, none⟩ (.int .i64 o.parR)) w.heap.size #[.int .i64 o.kind, .int .i64 o.atN, .int .i64 o.atR, .int .i64 o.nodeN, .int .i64 o.nodeR, .int .i64 o.parN, .int .i64 o.parR, .slice pk o.key.length ck, .int .i64 o.elem, .slice pn o.name.length cn, .slice pt o.text.length ct, .bool o.gone] 82 := ((l0.other _ _ _ (by omega)).other _ _ _ (by omega))
  have m1 : Loc ((w3.setCell ⟨w.heap.size + 1 + 1, 5, none⟩ (.int .i64 o.parN)).setCell ⟨w.heap.size + 1 + 1, 6, none⟩ (.int .i64 o.parR)) (w.heap.size + 1) #[.int .i64 0, .int .i64 0, .int .i64 0, .int .i64 0, .int .i64 0, .int .i64 0, .int .i64 0, .slice none 0 0, .int .i64 0, .slice none 0 0, .slice none 0 0, .bool false] 27 := ((l1.other _ _ _ (by omega)).other _ _ _ (by omega))
  have m2 : Loc ((w3.setCell ⟨w.heap.size + 1 + 1, 5, none⟩ (.int .i64 o.parN)).setCell ⟨w.heap.size + 1 + 1, 6, none⟩ (.int .i64 o.parR)) (w.heap.size + 1 + 1) #[.int .i64 o.kind, .int .i64 o.atN, .int .i64 o.atR, .int .i64 o.nodeN, .int .i64 o.nodeR, .int .i64 o.parN, .int .i64 o.parR, .slice none 0 0, .int .i64 0, .slice none 0 0, .slice none 0 0, .bool false] 27 := ((l2.set 5 (.int .i64 o.parN)).set 6 (.int .i64 o.parR)).be (by simp)
  have hf : Frm w3 ((w3.setCell ⟨w.heap.size + 1 + 1, 5, none⟩ (.int .i64 o.parN)).setCell ⟨w.heap.size + 1 + 1, 6, none⟩ (.int .i64 o.parR)) [w.heap.size + 1 + 1] := ((set_frm _ _ _ _).trans (set_frm _ _ _ _))
  have hA2 : Below w.heap.size w ((w3.setCell ⟨w.heap.size + 1 + 1, 5, none⟩ (.int .i64 o.parN)).setCell ⟨w.heap.size + 1 + 1, 6, none⟩ (.int .i64 o.parR)) := hA.trans (hf.below hA.size (fun g hg => by simp at hg; omega))
  have L := hide (And.intro m0 (And.intro m1 (And.intro m2 hA2)))
  clear m0 m1 m2 hf hA2 l0 l1 l2 hA
  go_wp2_with fail
  obtain ⟨l0, l1, l2, hA⟩ := unhide L
  clear L
  clear e0_7 e2_5 f2_5 e2_6 f2_6
  have zk := l2.lt
  refine (toZ_any _ _ o.key ((unhide H).1.keep hA) (by have := unhide HS; omega)).mono ?_
  rintro e w4 ⟨vk, rfl, ok, _, hB⟩
  obtain ⟨ak, dk, hvk, _, _⟩ := ok.ints.shape
  subst hvk
  have rk := ok.rng
  have sk := hB.size
  replace l0 := l0.all hB
  replace l1 := l1.all hB
  replace l2 := l2.all hB
  replace hA := bstep hA hB
  clear hB
  have e0_8 := l0.cell 8
  have e0_9 := l0.cell 9
  have e2_7 := l2.cell 7
  have f2_7 := l2.frozen 7
  have e2_8 := l2.cell 8
  have f2_8 := l2.frozen 8
  simp at e0_8 e0_9 e2_7 e2_8
  have m0 : Loc ((w4.setCell ⟨w.heap.size + 1 + 1, 7, none⟩ (.slice ak o.key.length dk)).setCell ⟨w.heap.size + 1 + 1, 8, none⟩ (.int .i64 o.elem)) w.heap.size #[.int .i64 o.kind, .int .i64 o.atN, .int .i64 o.atR, .int .i64 o.nodeN, .int .i64 o.nodeR, .int .i64 o.parN, .int .i64 o.parR, .slice pk o.key.length ck, .int .i64 o.elem, .slice pn o.name.length cn, .slice pt o.text.length ct, .bool o.gone] 82 := ((l0.other _ _ _ (by omega)).other _ _ _ (by omega))
  have m1 : Loc ((w4.setCell ⟨w.heap.size + 1 + 1, 7, none⟩ (.slice ak o.key.length dk)).setCell ⟨w.heap.size + 1 + 1, 8, none⟩ (.int .i64 o.elem)) (w.heap.size + 1) #[.int .i64 0, .int .i64 0, .int .i64 0, .int .i64 0, .int .i64 0, .int .i64 0, .int .i64 0, .slice none 0 0, .int .i64 0, .slice none 0 0, .slice none 0 0, .bool false] 27 := ((l1.other _ _ _ (by omega)).other _ _ _ (by omega))
  have m2 : Loc ((w4.setCell ⟨w.heap.size + 1 + 1, 7, none⟩ (.slice ak o.key.length dk)).setCell ⟨w.heap.size + 1 + 1, 8, none⟩ (.int .i64 o.elem)) (w.heap.size + 1 + 1) #[.int .i64 o.kind, .int .i64 o.atN, .int .i64 o.atR, .int .i64 o.nodeN, .int .i64 o.nodeR, .int .i64 o.parN, .int .i64 o.parR, .slice ak o.key.length dk, .int .i64 o.elem, .slice none 0 0, .slice none 0 0, .bool false] 27 := ((l2.set 7 (.slice ak o.key.length dk)).set 8 (.int .i64 o.elem)).be (by simp)
  have hf : Frm w4 ((w4.setCell ⟨w.heap.size + 1 + 1, 7, none⟩ (.slice ak o.key.length dk)).setCell ⟨w.heap.size + 1 + 1, 8, none⟩ (.int .i64 o.elem)) [w.heap.size + 1 + 1] := ((set_frm _ _ _ _).trans (set_frm _ _ _ _))
  have hA2 : Below w.heap.size w ((w4.setCell ⟨w.heap.size + 1 + 1, 7, none⟩ (.slice ak o.key.length dk)).setCell ⟨w.heap.size + 1 + 1, 8, none⟩ (.int .i64 o.elem)) := hA.trans (hf.below hA.size (fun g hg => by simp at hg; omega))
  have qk := ok.frm hf (fun g hg => by have := rk g hg; simp; omega)
  have L := hide (And.intro qk (And.intro m0 (And.intro m1 (And.intro m2 hA2))))
  clear m0 m1 m2 hf hA2 l0 l1 l2 hA qk ok
  go_wp2_with fail
  obtain ⟨ok, l0, l1, l2, hA⟩ := unhide L
  clear L
  clear e0_8 e0_9 e2_7 f2_7 e2_8 f2_8
  have zn := l2.lt
  refine (toB_any _ _ o.name ((unhide H).2.1.keep hA) (by have := unhide HS; omega)).mono ?_
  rintro e w5 ⟨vn, rfl, on, _, hB⟩
  obtain ⟨an, dn, hvn, _, _⟩ := on.byt.shape
  subst hvn
  have rn := on.rng
  replace ok := ok.keep hB
  have sn := hB.size
  replace l0 := l0.all hB
  replace l1 := l1.all hB
  replace l2 := l2.all hB
  replace hA := bstep hA hB
  clear hB
  have e0_10 := l0.cell 10
  have e2_9 := l2.cell 9
  have f2_9 := l2.frozen 9
  simp at e0_10 e2_9
  have m0 : Loc (w5.setCell ⟨w.heap.size + 1 + 1, 9, none⟩ (.slice an o.name.length dn)) w.heap.size #[.int .i64 o.kind, .int .i64 o.atN, .int .i64 o.atR, .int .i64 o.nodeN, .int .i64 o.nodeR, .int .i64 o.parN, .int .i64 o.parR, .slice pk o.key.length ck, .int .i64 o.elem, .slice pn o.name.length cn, .slice pt o.text.length ct, .bool o.gone] 82 := (l0.other _ _ _ (by omega))
  have m1 : Loc (w5.setCell ⟨w.heap.size + 1 + 1, 9, none⟩ (.slice an o.name.length dn)) (w.heap.size + 1) #[.int .i64 0, .int .i64 0, .int .i64 0, .int .i64 0, .int .i64 0, .int .i64 0, .int .i64 0, .slice none 0 0, .int .i64 0, .slice none 0 0, .slice none 0 0, .bool false] 27 := (l1.other _ _ _ (by omega))
  have m2 : Loc (w5.setCell ⟨w.heap.size + 1 + 1, 9, none⟩ (.slice an o.name.length dn)) (w.heap.size + 1 + 1) #[.int .i64 o.kind, .int .i64 o.atN, .int .i64 o.atR, .int .i64 o.nodeN, .int .i64 o.nodeR, .int .i64 o.parN, .int .i64 o.parR, .slice ak o.key.length dk, .int .i64 o.elem, .slice an o.name.length dn, .slice none 0 0, .bool false] 27 := (l2.set 9 (.slice an o.name.length dn)).be (by simp)
  have hf : Frm w5 (w5.setCell ⟨w.heap.size + 1 + 1, 9, none⟩ (.slice an o.name.length dn)) [w.heap.size + 1 + 1] := (set_frm _ _ _ _)
  have hA2 : Below w.heap.size w (w5.setCell ⟨w.heap.size + 1 + 1, 9, none⟩ (.slice an o.name.length dn)) := hA.trans (hf.below hA.size (fun g hg => by simp at hg; omega))
  have qk := ok.frm hf (fun g hg => by have := rk g hg; simp; omega)
  have qn := on.frm hf (fun g hg => by have := rn g hg; simp; omega)
  have L := hide (And.intro qn (And.intro qk (And.intro m0 (And.intro m1 (And.intro m2 hA2)))))
  clear m0 m1 m2 hf hA2 l0 l1 l2 hA qk ok qn on
  go_wp2_with fail
  obtain ⟨on, ok, l0, l1, l2, hA⟩ := unhide L
  clear L
  clear e0_10 e2_9 f2_9
  have zt := l2.lt
  refine (toB_any _ _ o.text ((unhide H).2.2.keep hA) (by have := unhide HS; omega)).mono ?_
  rintro e w6 ⟨vt, rfl, ot, _, hB⟩
  obtain ⟨at1, dt, hvt, _, _⟩ := ot.byt.shape
  subst hvt
  have rt := ot.rng
  replace ok := ok.keep hB
  replace on := on.keep hB
  have st := hB.size
  replace l0 := l0.all hB
  replace l1 := l1.all hB
  replace l2 := l2.all hB
  replace hA := bstep hA hB
  clear hB
  have e0_11 := l0.cell 11
  have e2_10 := l2.cell 10
  have f2_10 := l2.frozen 10
  have e2_11 := l2.cell 11
  have f2_11 := l2.frozen 11
  simp at e0_11 e2_10 e2_11
  have e2_0 := l2.cell 0
  have e2_1 := l2.cell 1
  have e2_2 := l2.cell 2
  have e2_3 := l2.cell 3
  have e2_4 := l2.cell 4
  have e2_5 := l2.cell 5
  have e2_6 := l2.cell 6
  have e2_7 := l2.cell 7
  have e2_8 := l2.cell 8
  have e2_9 := l2.cell 9
  have e1_0 := l1.cell 0
  have f1_0 := l1.frozen 0
  have e1_1 := l1.cell 1
  have f1_1 := l1.frozen 1
  have e1_2 := l1.cell 2
  have f1_2 := l1.frozen 2
  have e1_3 := l1.cell 3
  have f1_3 := l1.frozen 3
  have e1_4 := l1.cell 4
  have f1_4 := l1.frozen 4
  have e1_5 := l1.cell 5
  have f1_5 := l1.frozen 5
  have e1_6 := l1.cell 6
  have f1_6 := l1.frozen 6
  have e1_7 := l1.cell 7
  have f1_7 := l1.frozen 7
  have e1_8 := l1.cell 8
  have f1_8 := l1.frozen 8
  have e1_9 := l1.cell 9
  have f1_9 := l1.frozen 9
  have e1_10 := l1.cell 10
  have f1_10 := l1.frozen 10
  have e1_11 := l1.cell 11
  have f1_11 := l1.frozen 11
  simp at e2_0 e2_1 e2_2 e2_3 e2_4 e2_5 e2_6 e2_7 e2_8 e2_9 e1_0 e1_1 e1_2 e1_3 e1_4 e1_5 e1_6 e1_7 e1_8 e1_9 e1_10 e1_11
  have hf : Frm w6 ((((((((((((((w6.setCell ⟨w.heap.size + 1 + 1, 10, none⟩ (.slice at1 o.text.length dt)).setCell ⟨w.heap.size + 1 + 1, 11, none⟩ (.bool o.gone)).setCell ⟨w.heap.size + 1, 0, none⟩ (.int .i64 o.kind)).setCell ⟨w.heap.size + 1, 1, none⟩ (.int .i64 o.atN)).setCell ⟨w.heap.size + 1, 2, none⟩ (.int .i64 o.atR)).setCell ⟨w.heap.size + 1, 3, none⟩ (.int .i64 o.nodeN)).setCell ⟨w.heap.size + 1, 4, none⟩ (.int .i64 o.nodeR)).setCell ⟨w.heap.size + 1, 5, none⟩ (.int .i64 o.parN)).setCell ⟨w.heap.size + 1, 6, none⟩ (.int .i64 o.parR)).setCell ⟨w.heap.size + 1, 7, none⟩ (.slice ak o.key.length dk)).setCell ⟨w.heap.size + 1, 8, none⟩ (.int .i64 o.elem)).setCell ⟨w.heap.size + 1, 9, none⟩ (.slice an o.name.length dn)).setCell ⟨w.heap.size + 1, 10, none⟩ (.slice at1 o.text.length dt)).setCell ⟨w.heap.size + 1, 11, none⟩ (.bool o.gone)) [w.heap.size + 1 + 1, w.heap.size + 1] := (((((((((((((((set_frm _ _ _ _).mono (by simp)).trans ((set_frm _ _ _ _).mono (by simp))).trans ((set_frm _ _ _ _).mono (by simp))).trans ((set_frm _ _ _ _).mono (by simp))).trans ((set_frm _ _ _ _).mono (by simp))).trans ((set_frm _ _ _ _).mono (by simp))).trans ((set_frm _ _ _ _).mono (by simp))).trans ((set_frm _ _ _ _).mono (by simp))).trans ((set_frm _ _ _ _).mono (by simp))).trans ((set_frm _ _ _ _).mono (by simp))).trans ((set_frm _ _ _ _).mono (by simp))).trans ((set_frm _ _ _ _).mono (by simp))).trans ((set_frm _ _ _ _).mono (by simp))).trans ((set_frm _ _ _ _).mono (by simp)))
  have hA2 : Below w.heap.size w ((((((((((((((w6.setCell ⟨w.heap.size + 1 + 1, 10, none⟩ (.slice at1 o.text.length dt)).setCell ⟨w.heap.size + 1 + 1, 11, none⟩ (.bool o.gone)).setCell ⟨w.heap.size + 1, 0, none⟩ (.int .i64 o.kind)).setCell ⟨w.heap.size + 1, 1, none⟩ (.int .i64 o.atN)).setCell ⟨w.heap.size + 1, 2, none⟩ (.int .i64 o.atR)).setCell ⟨w.heap.size + 1, 3, none⟩ (.int .i64 o.nodeN)).setCell ⟨w.heap.size + 1, 4, none⟩ (.int .i64 o.nodeR)).setCell ⟨w.heap.size + 1, 5, none⟩ (.int .i64 o.parN)).setCell ⟨w.heap.size + 1, 6, none⟩ (.int .i64 o.parR)).setCell ⟨w.heap.size + 1, 7, none⟩ (.slice ak o.key.length dk)).setCell ⟨w.heap.size + 1, 8, none⟩ (.int .i64 o.elem)).setCell ⟨w.heap.size + 1, 9, none⟩ (.slice an o.name.length dn)).setCell ⟨w.heap.size + 1, 10, none⟩ (.slice at1 o.text.length dt)).setCell ⟨w.heap.size + 1, 11, none⟩ (.bool o.gone)) := hA.trans (hf.below hA.size (fun g hg => by simp at hg; omega))
  have qk := (ok.frm hf (fun g hg => by have := rk g hg; simp; omega)).mono (show w.heap.size ≤ _ by omega)
  have qn := (on.frm hf (fun g hg => by have := rn g hg; simp; omega)).mono (show w.heap.size ≤ _ by omega)
  have qt := (ot.frm hf (fun g hg => by have := rt g hg; simp; omega)).mono (show w.heap.size ≤ _ by omega)
  have hnd : (FB (.slice ak o.key.length dk) ++ FB (.slice an o.name.length dn) ++ FB (.slice at1 o.text.length dt)).Nodup := by
    simp at sn st zn zt
    refine nodup_app (lo := 0) (nodup_app (FB_nodup _) (FB_nodup _) rk (rn.mono (by simp) (Nat.le_refl _))) (FB_nodup _) ((rk.mono (Nat.zero_le _) (by omega)).app (rn.mono (Nat.zero_le _) (Nat.le_refl _))) (rt.mono (by simp) (Nat.le_refl _))
  have L := hide (And.intro qk (And.intro qn (And.intro qt (And.intro hnd hA2))))
  clear qk qn qt hnd hA2 hf l0 l1 l2 hA ok on ot rk rn rt H
  go_wp2_with fail
  obtain ⟨qk, qn, qt, hnd, hA2⟩ := unhide L
  exact bodyPost_ret (v := opVal o (.slice ak o.key.length dk) (.slice an o.name.length dn) (.slice at1 o.text.length dt)) (by simp [results, Try.results63, go_sem, opVal, e1_0, e1_1, e1_2, e1_3, e1_4, e1_5, e1_6, e1_7, e1_8, e1_9, e1_10, e1_11]) rfl ⟨_, _, _, rfl, qk, qn, qt, hnd, hA2⟩

end Go.Proofs.Ytcabolcfoijglaa
