/- The laws' own copy of a tree, whole: the node itself. -/
import Derived.Test.YteioihjgjbjmjaaToT4
namespace Go.Proofs.Yteioihjgjbjmjaa
open Go.RowKit
set_option linter.unusedVariables false

/-- Three new blocks. -/
theorem three (w : World) (A Z Y : Array Value) (TA T : TypeId) : Loc (((w.alloc (.cells A TA)).alloc (.cells Z T)).alloc (.cells Y T)) w.heap.size A TA ∧ Loc (((w.alloc (.cells A TA)).alloc (.cells Z T)).alloc (.cells Y T)) (w.heap.size + 1) Z T ∧
    Loc (((w.alloc (.cells A TA)).alloc (.cells Z T)).alloc (.cells Y T)) (w.heap.size + 1 + 1) Y T ∧ Below w.heap.size w (((w.alloc (.cells A TA)).alloc (.cells Z T)).alloc (.cells Y T)) ∧ (((w.alloc (.cells A TA)).alloc (.cells Z T)).alloc (.cells Y T)).heap.size = w.heap.size + 3 := by
  have l0 := ((Loc.made w A TA).alloc (.cells Z T)).alloc (.cells Y T)
  have l1 := (Loc.made (w.alloc (.cells A TA)) Z T).alloc (.cells Y T)
  have l2 := Loc.made ((w.alloc (.cells A TA)).alloc (.cells Z T)) Y T
  simp only [World.size_alloc] at l1 l2
  exact ⟨l0, l1, l2, (((Below.refl _ _).alloc (Nat.le_refl _) _).alloc (by simp) _).alloc (by simp; omega) _, by simp⟩

/-- A field of a local struct is stored. -/
theorem Loc3.store {w : World} {S : Nat} {A Z Y : Array Value} {TA T : TypeId} (h0 : Loc w S A TA) (h1 : Loc w (S + 1) Z T) (h2 : Loc w (S + 1 + 1) Y T) (j : Nat) (v : Value) :
    Loc (w.setCell ⟨S + 1 + 1, j, none⟩ v) S A TA ∧ Loc (w.setCell ⟨S + 1 + 1, j, none⟩ v) (S + 1) Z T ∧ Loc (w.setCell ⟨S + 1 + 1, j, none⟩ v) (S + 1 + 1) (Y.setIfInBounds j v) T :=
  ⟨h0.other _ _ _ (by omega), h1.other _ _ _ (by omega), h2.set j v⟩

set_option maxHeartbeats 3200000 in
theorem toNode_succ (n : Nat) (H : ToNodeSaid n) : ToNodeSaid (n + 1) := by
  intro w a b c d e t hr hs
  obtain ⟨_, _, _, _, e0, k1, k2, hb, hc, hd, he⟩ := hr
  simp only [List.cons.injEq, and_true] at e0
  obtain ⟨rfl, rfl, rfl, rfl, rfl⟩ := e0
  obtain ⟨ab, cb, rfl, _, _⟩ := hb.shape
  obtain ⟨ac, cc, rfl, _, _⟩ := hc.shape
  obtain ⟨ad, cd, rfl, _, _⟩ := Elems.shape hd
  obtain ⟨ae, ce, rfl, _, _⟩ := Elems.shape he
  have hz : t.name.length + t.text.length + szA t.attrs + szK n t.kids ≤ 2097152 := hs
  clear hs
  go_enter Try.func9, Try.ntmps9
  go_wp2_with fail
  obtain ⟨l0, l1, l2, hA, hWs⟩ := three w #[.int .i64 t.kind, .slice ab t.name.length cb, .slice ac t.text.length cc, .slice ad t.attrs.length cd, .slice ae t.kids.length ce] #[.int .i64 0, .slice none 0 0, .slice none 0 0, .slice none 0 0, .slice none 0 0] #[.int .i64 t.kind, .slice none 0 0, .slice none 0 0, .slice none 0 0, .slice none 0 0] 26 32
  generalize hW : (((w.alloc (.cells #[.int .i64 t.kind, .slice ab t.name.length cb, .slice ac t.text.length cc, .slice ad t.attrs.length cd, .slice ae t.kids.length ce] 26)).alloc (.cells #[.int .i64 0, .slice none 0 0, .slice none 0 0, .slice none 0 0, .slice none 0 0] 32)).alloc (.cells #[.int .i64 t.kind, .slice none 0 0, .slice none 0 0, .slice none 0 0, .slice none 0 0] 32)) = W at *
  have HWs := hide hWs
  clear hW hWs
  -- the name
  refine (toB_any W _ t.name (hb.keep hA) (by omega)).mono ?_
  rintro e w1 ⟨v1, rfl, ho1, _, hB1⟩
  obtain ⟨a1, c1, hv1, _, _⟩ := ho1.byt.shape
  subst hv1
  have r1 := ho1.rng
  have hA1 := bstep hA hB1
  replace l0 := l0.all hB1
  replace l1 := l1.all hB1
  replace l2 := l2.all hB1
  have p := l0.cell 2
  have q := l2.cell 1
  have f := l2.frozen 1
  simp at p q
  have s1 := hB1.size
  have M := hide (And.intro (Loc3.store l0 l1 l2 1 (.slice a1 t.name.length c1)) (And.intro (ho1.frm (set_frm w1 (w.heap.size + 1 + 1) 1 (.slice a1 t.name.length c1)) (fun g hg => by have := r1 g hg; have := unhide HWs; simp; omega)) (hA1.setCell (p := ⟨w.heap.size + 1 + 1, 1, none⟩) (by simp; omega) (.slice a1 t.name.length c1))))
  clear l0 l1 l2 ho1 hA hA1 hB1
  go_wp2_with fail
  -- the text
  obtain ⟨⟨l0, l1, l2⟩, ho1, hA1⟩ := unhide M
  clear M
  refine (toB_any _ _ t.text (hc.keep hA1) (by omega)).mono ?_
  rintro e w2 ⟨v2, rfl, ho2, _, hB2⟩
  obtain ⟨a2, c2, hv2, _, _⟩ := ho2.byt.shape
  subst hv2
  have r2 := ho2.rng
  have hA2 := bstep hA1 hB2
  replace l0 := l0.all hB2
  replace l1 := l1.all hB2
  replace l2 := l2.all hB2
  replace ho1 := ho1.keep hB2
  have s2 := hB2.size
  simp only [World.size_setCell] at s2 r2 ho2
  replace p := l0.cell 3
  replace q := l2.cell 2
  replace f := l2.frozen 2
  simp at p q
  have M := hide (And.intro (Loc3.store l0 l1 l2 2 (.slice a2 t.text.length c2)) (And.intro (And.intro (ho1.frm (set_frm w2 (w.heap.size + 1 + 1) 2 (.slice a2 t.text.length c2)) (fun g hg => by have := r1 g hg; have := unhide HWs; simp; omega)) (ho2.frm (set_frm w2 (w.heap.size + 1 + 1) 2 (.slice a2 t.text.length c2)) (fun g hg => by have := r2 g hg; have := unhide HWs; simp; omega))) (hA2.setCell (p := ⟨w.heap.size + 1 + 1, 2, none⟩) (by simp; omega) (.slice a2 t.text.length c2))))
  clear l0 l1 l2 ho1 ho2 hA1 hA2 hB2
  go_wp2_with fail
  -- the attributes
  obtain ⟨⟨l0, l1, l2⟩, ⟨ho1, ho2⟩, hA2⟩ := unhide M
  clear M
  refine (toAttrS_any _ _ t.attrs (hd.keep hA2) (by omega)).mono ?_
  rintro e w3 ⟨a3, c3, rfl, F3, ho3, nd3, r3, hB3⟩
  have hA3 := bstep hA2 hB3
  replace l0 := l0.all hB3
  replace l1 := l1.all hB3
  replace l2 := l2.all hB3
  replace ho1 := ho1.keep hB3
  replace ho2 := ho2.keep hB3
  have s3 := hB3.size
  simp only [World.size_setCell] at s3 r3
  replace p := l0.cell 4
  replace q := l2.cell 3
  replace f := l2.frozen 3
  simp at p q
  have M := hide (And.intro (Loc3.store l0 l1 l2 3 (.slice a3 t.attrs.length c3)) (And.intro (And.intro (ho1.frm (set_frm w3 (w.heap.size + 1 + 1) 3 (.slice a3 t.attrs.length c3)) (fun g hg => by have := r1 g hg; have := unhide HWs; simp; omega)) (And.intro (ho2.frm (set_frm w3 (w.heap.size + 1 + 1) 3 (.slice a3 t.attrs.length c3)) (fun g hg => by have := r2 g hg; have := unhide HWs; simp; omega)) (ho3.frm (set_frm w3 (w.heap.size + 1 + 1) 3 (.slice a3 t.attrs.length c3)) (fun g hg => by have := r3 g hg; have := unhide HWs; simp; omega)))) (hA3.setCell (p := ⟨w.heap.size + 1 + 1, 3, none⟩) (by simp; omega) (.slice a3 t.attrs.length c3))))
  clear l0 l1 l2 ho1 ho2 ho3 hA2 hA3 hB3
  go_wp2_with fail
  -- the kids
  obtain ⟨⟨l0, l1, l2⟩, ⟨ho1, ho2, ho3⟩, hA3⟩ := unhide M
  clear M
  refine (toNodeS_any n H _ _ t.kids (RdKids.keep he hA3) (by omega)).mono ?_
  rintro e w4 ⟨a4, c4, rfl, F4, ho4, nd4, r4, hB4⟩
  have hA4 := bstep hA3 hB4
  replace l0 := l0.all hB4
  replace l1 := l1.all hB4
  replace l2 := l2.all hB4
  replace ho1 := ho1.keep hB4
  replace ho2 := ho2.keep hB4
  replace ho3 := ho3.frm (Frm.ofBelow hB4 []) (fun _ _ => by simp)
  have s4 := hB4.size
  simp only [World.size_setCell] at s4 r4
  have g0 := l1.cell 0
  have g1 := l1.cell 1
  have g2 := l1.cell 2
  have g3 := l1.cell 3
  have g4 := l1.cell 4
  have b0 := l1.frozen 0
  have b1 := l1.frozen 1
  have b2 := l1.frozen 2
  have b3 := l1.frozen 3
  have b4 := l1.frozen 4
  have d0 := l2.cell 0
  have d1 := l2.cell 1
  have d2 := l2.cell 2
  have d3 := l2.cell 3
  have d4 := l2.cell 4
  have i4 := l2.frozen 4
  simp at g0 g1 g2 g3 g4 d0 d1 d2 d3 d4
  have hsz := unhide HWs
  obtain ⟨X, hX⟩ : ∃ X, X = (((((w4.setCell ⟨w.heap.size + 1 + 1, 4, none⟩ (.slice a4 t.kids.length c4)).setCell ⟨w.heap.size + 1, 0, none⟩ (.int .i64 t.kind)).setCell ⟨w.heap.size + 1, 1, none⟩ (.slice a1 t.name.length c1)).setCell ⟨w.heap.size + 1, 2, none⟩ (.slice a2 t.text.length c2)).setCell ⟨w.heap.size + 1, 3, none⟩ (.slice a3 t.attrs.length c3)).setCell ⟨w.heap.size + 1, 4, none⟩ (.slice a4 t.kids.length c4) := ⟨_, rfl⟩
  have hf : Frm w4 X [w.heap.size + 1 + 1, w.heap.size + 1] := by
    rw [hX]
    exact ((((((set_frm w4 _ _ _).mono (by simp)).trans ((set_frm _ _ _ _).mono (by simp))).trans ((set_frm _ _ _ _).mono (by simp))).trans ((set_frm _ _ _ _).mono (by simp))).trans ((set_frm _ _ _ _).mono (by simp))).trans ((set_frm _ _ _ _).mono (by simp))
  have fin : OwNode (n + 1) X [.int .i64 t.kind, .slice a1 t.name.length c1, .slice a2 t.text.length c2, .slice a3 t.attrs.length c3, .slice a4 t.kids.length c4] t (FB (.slice a1 t.name.length c1) ++ FB (.slice a2 t.text.length c2) ++ F3 ++ F4) :=
    ⟨_, _, _, _, F3, F4, rfl, k1, k2, (ho1.frm hf (fun g hg => by have := r1 g hg; simp; omega)).mono (Nat.zero_le _), (ho2.frm hf (fun g hg => by have := r2 g hg; simp; omega)).mono (Nat.zero_le _),
      ho3.frm hf (fun g hg => by have := r3 g hg; simp; omega), OwKids.frm ho4 hf (fun g hg => by have := r4 g hg; simp; omega), rfl⟩
  have nd : (FB (.slice a1 t.name.length c1) ++ FB (.slice a2 t.text.length c2) ++ F3 ++ F4).Nodup :=
    nodup_app (nodup_app (nodup_app (FB_nodup _) (FB_nodup _) r1 r2) nd3 ((r1.mono (Nat.le_refl _) (by omega)).app (r2.mono (by omega) (Nat.le_refl _))) r3) nd4 (((r1.mono (Nat.le_refl _) (by omega)).app (r2.mono (by omega) (by omega))).app (r3.mono (by omega) (Nat.le_refl _))) r4
  have rg : Rng (FB (.slice a1 t.name.length c1) ++ FB (.slice a2 t.text.length c2) ++ F3 ++ F4) w.heap.size X.heap.size := by
    have := hf.size
    exact (((r1.mono (by omega) (by omega)).app (r2.mono (by omega) (by omega))).app (r3.mono (by omega) (by omega))).app (r4.mono (by omega) (by omega))
  have bel := hA4.trans (hf.below hA4.size (fun g hg => by simp at hg; omega))
  subst hX
  have HP := hide (And.intro fin (And.intro nd (And.intro rg bel)))
  clear fin nd rg bel hf l0 l1 l2 ho1 ho2 ho3 ho4 hA3 hA4 hB4 r1 r2 r3 r4 nd3 nd4 hsz
  go_wp2_with fail
  obtain ⟨fin, nd, rg, bel⟩ := unhide HP
  exact bodyPost_ret (v := .agg #[.int .i64 t.kind, .slice a1 t.name.length c1, .slice a2 t.text.length c2, .slice a3 t.attrs.length c3, .slice a4 t.kids.length c4]) (by simp [results, Try.results9, go_sem, g0, g1, g2, g3, g4]) rfl ⟨t.kind, a1, _, c1, a2, _, c2, a3, _, c3, a4, _, c4, rfl, _, fin, nd, rg, bel⟩

theorem toNode_any (n : Nat) : ToNodeSaid n := by
  induction n with
  | zero => exact fun _ _ _ _ _ _ t => t.elim
  | succ n ih => exact toNode_succ n ih

end Go.Proofs.Yteioihjgjbjmjaa
