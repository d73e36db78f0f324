/- Own texts joined: ToT5, LFold, OpenO, OpenP, OpenQ. -/
import Derived.Test.YtnfafchajjclaaaGreatDoorJa
import Derived.Test.YtnfafchajjclaaaGreatDoorJb
import Derived.Test.YtnfafchajjclaaaGreatDoorJc
import Derived.Test.YtnfafchajjclaaaGreatDoorJd
import Derived.Test.YtnfafchajjclaaaGreatDoorJe
import Derived.Test.YtnfafchajjclaaaGreatDoorJf
import Derived.Test.YtnfafchajjclaaaGreatDoorJg
import Derived.Test.YtnfafchajjclaaaGreatDoorJh
import Derived.Test.YtnfafchajjclaaaGreatDoorJi
import Derived.Test.YtnfafchajjclaaaGreatDoorJj
import Derived.Test.YtnfafchajjclaaaGreatDoorJk
import Derived.Test.YtnfafchajjclaaaGreatDoorJl
import Derived.Test.YtnfafchajjclaaaGreatDoorJm
import Derived.Deep.RegionHeld3
import Derived.Deep.CutBlock
import Derived.Test.YtnfafchajjclaaaGreatDoorProg
import Derived.ChangeArms
import Derived.ChangeSlices
import Derived.WideShapes

/- The laws' own copy of a tree, whole: the node itself. -/
namespace Go.Proofs.YtnfafchajjclaaaGreatDoor
open Go.RowKit
set_option linter.unusedVariables false

/-- Three new blocks. -/
theorem three (w : World) (A Z Y : Array Value) (TA T : TypeId) : Loc (((w.alloc (.cells A TA)).alloc (.cells Z T)).alloc (.cells Y T)) w.heap.size A TA ∧ Loc (((w.alloc (.cells A TA)).alloc (.cells Z T)).alloc (.cells Y T)) (w.heap.size + 1) Z T ∧
    Loc (((w.alloc (.cells A TA)).alloc (.cells Z T)).alloc (.cells Y T)) (w.heap.size + 1 + 1) Y T ∧ Below w.heap.size w (((w.alloc (.cells A TA)).alloc (.cells Z T)).alloc (.cells Y T)) ∧ (((w.alloc (.cells A TA)).alloc (.cells Z T)).alloc (.cells Y T)).heap.size = w.heap.size + 3 := by
  have l0 := ((Loc.made w A TA).alloc (.cells Z T)).alloc (.cells Y T)
  have l1 := (Loc.made (w.alloc (.cells A TA)) Z T).alloc (.cells Y T)
  have l2 := Loc.made ((w.alloc (.cells A TA)).alloc (.cells Z T)) Y T
  simp only [World.size_alloc] at l1 l2
  exact ⟨l0, l1, l2, (((Below.refl _ _).alloc (Nat.le_refl _) _).alloc (by simp) _).alloc (by simp; omega) _, by simp⟩

/-- A field of a local struct is stored. -/
theorem Loc3.store {w : World} {S : Nat} {A Z Y : Array Value} {TA T : TypeId} (h0 : Loc w S A TA) (h1 : Loc w (S + 1) Z T) (h2 : Loc w (S + 1 + 1) Y T) (j : Nat) (v : Value) :
    Loc (w.setCell ⟨S + 1 + 1, j, none⟩ v) S A TA ∧ Loc (w.setCell ⟨S + 1 + 1, j, none⟩ v) (S + 1) Z T ∧ Loc (w.setCell ⟨S + 1 + 1, j, none⟩ v) (S + 1 + 1) (Y.setIfInBounds j v) T :=
  ⟨h0.other _ _ _ (by omega), h1.other _ _ _ (by omega), h2.set j v⟩

set_option maxHeartbeats 3200000 in
theorem toNode_succ (n : Nat) (H : ToNodeSaid n) : ToNodeSaid (n + 1) := by
  intro w a b c d e t hr hs
  obtain ⟨_, _, _, _, e0, k1, k2, hb, hc, hd, he⟩ := hr
  simp only [List.cons.injEq, and_true] at e0
  obtain ⟨rfl, rfl, rfl, rfl, rfl⟩ := e0
  obtain ⟨ab, cb, rfl, _, _⟩ := hb.shape
  obtain ⟨ac, cc, rfl, _, _⟩ := hc.shape
  obtain ⟨ad, cd, rfl, _, _⟩ := Elems.shape hd
  obtain ⟨ae, ce, rfl, _, _⟩ := Elems.shape he
  have hz : t.name.length + t.text.length + szA t.attrs + szK n t.kids ≤ 2097152 := hs
  clear hs
  go_enter Tryz.func7, Tryz.ntmps7
  go_wp2_with fail
  obtain ⟨l0, l1, l2, hA, hWs⟩ := three w #[.int .i64 t.kind, .slice ab t.name.length cb, .slice ac t.text.length cc, .slice ad t.attrs.length cd, .slice ae t.kids.length ce] #[.int .i64 0, .slice none 0 0, .slice none 0 0, .slice none 0 0, .slice none 0 0] #[.int .i64 t.kind, .slice none 0 0, .slice none 0 0, .slice none 0 0, .slice none 0 0] 26 38
  generalize hW : (((w.alloc (.cells #[.int .i64 t.kind, .slice ab t.name.length cb, .slice ac t.text.length cc, .slice ad t.attrs.length cd, .slice ae t.kids.length ce] 26)).alloc (.cells #[.int .i64 0, .slice none 0 0, .slice none 0 0, .slice none 0 0, .slice none 0 0] 38)).alloc (.cells #[.int .i64 t.kind, .slice none 0 0, .slice none 0 0, .slice none 0 0, .slice none 0 0] 38)) = W at *
  have HWs := hide hWs
  clear hW hWs
  -- the name
  refine (toB_any W _ t.name (hb.keep hA) (by omega)).mono ?_
  rintro e w1 ⟨v1, rfl, ho1, _, hB1⟩
  obtain ⟨a1, c1, hv1, _, _⟩ := ho1.byt.shape
  subst hv1
  have r1 := ho1.rng
  have hA1 := bstep hA hB1
  replace l0 := l0.all hB1
  replace l1 := l1.all hB1
  replace l2 := l2.all hB1
  have p := l0.cell 2
  have q := l2.cell 1
  have f := l2.frozen 1
  simp at p q
  have s1 := hB1.size
  have M := hide (And.intro (Loc3.store l0 l1 l2 1 (.slice a1 t.name.length c1)) (And.intro (ho1.frm (set_frm w1 (w.heap.size + 1 + 1) 1 (.slice a1 t.name.length c1)) (fun g hg => by have := r1 g hg; have := unhide HWs; simp; omega)) (hA1.setCell (p := ⟨w.heap.size + 1 + 1, 1, none⟩) (by simp; omega) (.slice a1 t.name.length c1))))
  clear l0 l1 l2 ho1 hA hA1 hB1
  go_wp2_with fail
  -- the text
  obtain ⟨⟨l0, l1, l2⟩, ho1, hA1⟩ := unhide M
  clear M
  refine (toB_any _ _ t.text (hc.keep hA1) (by omega)).mono ?_
  rintro e w2 ⟨v2, rfl, ho2, _, hB2⟩
  obtain ⟨a2, c2, hv2, _, _⟩ := ho2.byt.shape
  subst hv2
  have r2 := ho2.rng
  have hA2 := bstep hA1 hB2
  replace l0 := l0.all hB2
  replace l1 := l1.all hB2
  replace l2 := l2.all hB2
  replace ho1 := ho1.keep hB2
  have s2 := hB2.size
  simp only [World.size_setCell] at s2 r2 ho2
  replace p := l0.cell 3
  replace q := l2.cell 2
  replace f := l2.frozen 2
  simp at p q
  have M := hide (And.intro (Loc3.store l0 l1 l2 2 (.slice a2 t.text.length c2)) (And.intro (And.intro (ho1.frm (set_frm w2 (w.heap.size + 1 + 1) 2 (.slice a2 t.text.length c2)) (fun g hg => by have := r1 g hg; have := unhide HWs; simp; omega)) (ho2.frm (set_frm w2 (w.heap.size + 1 + 1) 2 (.slice a2 t.text.length c2)) (fun g hg => by have := r2 g hg; have := unhide HWs; simp; omega))) (hA2.setCell (p := ⟨w.heap.size + 1 + 1, 2, none⟩) (by simp; omega) (.slice a2 t.text.length c2))))
  clear l0 l1 l2 ho1 ho2 hA1 hA2 hB2
  go_wp2_with fail
  -- the attributes
  obtain ⟨⟨l0, l1, l2⟩, ⟨ho1, ho2⟩, hA2⟩ := unhide M
  clear M
  refine (toAttrS_any _ _ t.attrs (hd.keep hA2) (by omega)).mono ?_
  rintro e w3 ⟨a3, c3, rfl, F3, ho3, nd3, r3, hB3⟩
  have hA3 := bstep hA2 hB3
  replace l0 := l0.all hB3
  replace l1 := l1.all hB3
  replace l2 := l2.all hB3
  replace ho1 := ho1.keep hB3
  replace ho2 := ho2.keep hB3
  have s3 := hB3.size
  simp only [World.size_setCell] at s3 r3
  replace p := l0.cell 4
  replace q := l2.cell 3
  replace f := l2.frozen 3
  simp at p q
  have M := hide (And.intro (Loc3.store l0 l1 l2 3 (.slice a3 t.attrs.length c3)) (And.intro (And.intro (ho1.frm (set_frm w3 (w.heap.size + 1 + 1) 3 (.slice a3 t.attrs.length c3)) (fun g hg => by have := r1 g hg; have := unhide HWs; simp; omega)) (And.intro (ho2.frm (set_frm w3 (w.heap.size + 1 + 1) 3 (.slice a3 t.attrs.length c3)) (fun g hg => by have := r2 g hg; have := unhide HWs; simp; omega)) (ho3.frm (set_frm w3 (w.heap.size + 1 + 1) 3 (.slice a3 t.attrs.length c3)) (fun g hg => by have := r3 g hg; have := unhide HWs; simp; omega)))) (hA3.setCell (p := ⟨w.heap.size + 1 + 1, 3, none⟩) (by simp; omega) (.slice a3 t.attrs.length c3))))
  clear l0 l1 l2 ho1 ho2 ho3 hA2 hA3 hB3
  go_wp2_with fail
  -- the kids
  obtain ⟨⟨l0, l1, l2⟩, ⟨ho1, ho2, ho3⟩, hA3⟩ := unhide M
  clear M
  refine (toNodeS_any n H _ _ t.kids (RdKids.keep he hA3) (by omega)).mono ?_
  rintro e w4 ⟨a4, c4, rfl, F4, ho4, nd4, r4, hB4⟩
  have hA4 := bstep hA3 hB4
  replace l0 := l0.all hB4
  replace l1 := l1.all hB4
  replace l2 := l2.all hB4
  replace ho1 := ho1.keep hB4
  replace ho2 := ho2.keep hB4
  replace ho3 := ho3.frm (Frm.ofBelow hB4 []) (fun _ _ => by simp)
  have s4 := hB4.size
  simp only [World.size_setCell] at s4 r4
  have g0 := l1.cell 0
  have g1 := l1.cell 1
  have g2 := l1.cell 2
  have g3 := l1.cell 3
  have g4 := l1.cell 4
  have b0 := l1.frozen 0
  have b1 := l1.frozen 1
  have b2 := l1.frozen 2
  have b3 := l1.frozen 3
  have b4 := l1.frozen 4
  have d0 := l2.cell 0
  have d1 := l2.cell 1
  have d2 := l2.cell 2
  have d3 := l2.cell 3
  have d4 := l2.cell 4
  have i4 := l2.frozen 4
  simp at g0 g1 g2 g3 g4 d0 d1 d2 d3 d4
  have hsz := unhide HWs
  obtain ⟨X, hX⟩ : ∃ X, X = (((((w4.setCell ⟨w.heap.size + 1 + 1, 4, none⟩ (.slice a4 t.kids.length c4)).setCell ⟨w.heap.size + 1, 0, none⟩ (.int .i64 t.kind)).setCell ⟨w.heap.size + 1, 1, none⟩ (.slice a1 t.name.length c1)).setCell ⟨w.heap.size + 1, 2, none⟩ (.slice a2 t.text.length c2)).setCell ⟨w.heap.size + 1, 3, none⟩ (.slice a3 t.attrs.length c3)).setCell ⟨w.heap.size + 1, 4, none⟩ (.slice a4 t.kids.length c4) := ⟨_, rfl⟩
  have hf : Frm w4 X [w.heap.size + 1 + 1, w.heap.size + 1] := by
    rw [hX]
    exact ((((((set_frm w4 _ _ _).mono (by simp)).trans ((set_frm _ _ _ _).mono (by simp))).trans ((set_frm _ _ _ _).mono (by simp))).trans ((set_frm _ _ _ _).mono (by simp))).trans ((set_frm _ _ _ _).mono (by simp))).trans ((set_frm _ _ _ _).mono (by simp))
  have fin : OwNode (n + 1) X [.int .i64 t.kind, .slice a1 t.name.length c1, .slice a2 t.text.length c2, .slice a3 t.attrs.length c3, .slice a4 t.kids.length c4] t (FB (.slice a1 t.name.length c1) ++ FB (.slice a2 t.text.length c2) ++ F3 ++ F4) :=
    ⟨_, _, _, _, F3, F4, rfl, k1, k2, (ho1.frm hf (fun g hg => by have := r1 g hg; simp; omega)).mono (Nat.zero_le _), (ho2.frm hf (fun g hg => by have := r2 g hg; simp; omega)).mono (Nat.zero_le _),
      ho3.frm hf (fun g hg => by have := r3 g hg; simp; omega), OwKids.frm ho4 hf (fun g hg => by have := r4 g hg; simp; omega), rfl⟩
  have nd : (FB (.slice a1 t.name.length c1) ++ FB (.slice a2 t.text.length c2) ++ F3 ++ F4).Nodup :=
    nodup_app (nodup_app (nodup_app (FB_nodup _) (FB_nodup _) r1 r2) nd3 ((r1.mono (Nat.le_refl _) (by omega)).app (r2.mono (by omega) (Nat.le_refl _))) r3) nd4 (((r1.mono (Nat.le_refl _) (by omega)).app (r2.mono (by omega) (by omega))).app (r3.mono (by omega) (Nat.le_refl _))) r4
  have rg : Rng (FB (.slice a1 t.name.length c1) ++ FB (.slice a2 t.text.length c2) ++ F3 ++ F4) w.heap.size X.heap.size := by
    have := hf.size
    exact (((r1.mono (by omega) (by omega)).app (r2.mono (by omega) (by omega))).app (r3.mono (by omega) (by omega))).app (r4.mono (by omega) (by omega))
  have bel := hA4.trans (hf.below hA4.size (fun g hg => by simp at hg; omega))
  subst hX
  have HP := hide (And.intro fin (And.intro nd (And.intro rg bel)))
  clear fin nd rg bel hf l0 l1 l2 ho1 ho2 ho3 ho4 hA3 hA4 hB4 r1 r2 r3 r4 nd3 nd4 hsz
  go_wp2_with fail
  obtain ⟨fin, nd, rg, bel⟩ := unhide HP
  exact bodyPost_ret (v := .agg #[.int .i64 t.kind, .slice a1 t.name.length c1, .slice a2 t.text.length c2, .slice a3 t.attrs.length c3, .slice a4 t.kids.length c4]) (by simp [results, Tryz.results7, go_sem, g0, g1, g2, g3, g4]) rfl ⟨t.kind, a1, _, c1, a2, _, c2, a3, _, c3, a4, _, c4, rfl, _, fin, nd, rg, bel⟩

theorem toNode_any (n : Nat) : ToNodeSaid n := by
  induction n with
  | zero => exact fun _ _ _ _ _ _ t => t.elim
  | succ n ih => exact toNode_succ n ih

end Go.Proofs.YtnfafchajjclaaaGreatDoor

/- The law on Fold, walked by its callees' contracts. -/
namespace Go.Proofs.YtnfafchajjclaaaGreatDoor
open Go.RowKit
set_option linter.unusedVariables false
set_option maxRecDepth 100000

theorem OwPls.toM {w : World} {v : Value} {l : List PlV} {F : List Nat} (h : OwPls w v l F) : OwPlsM w v l F := by
  obtain ⟨Cs, Fs, h1, h2, h3, h4, h5⟩ := h
  refine ⟨Cs, Fs, h1, h2, fun i hi => ⟨(h3 i hi).1, ?_⟩, h4, h5⟩
  obtain ⟨k, n, t, a, Fa, e, g1, g2, g3, g4, g5⟩ := (h3 i hi).2
  exact ⟨k, n, t, a, Fa, e, g1, g2.rowm, g3, g4, g5⟩
theorem OwPlsM.keep {w w' : World} {v : Value} {l : List PlV} {F : List Nat} (h : OwPlsM w v l F) (hb : Below w.heap.size w w') : OwPlsM w' v l F := OwPlsM.frm h (Frm.ofBelow hb []) (fun _ _ => by simp)
theorem OwOps.keepF {w w' : World} {v : Value} {l : List OpV} {F : List Nat} (h : OwOps w v l F) (hb : Below w.heap.size w w') : OwOps w' v l F := OwOps.frm h (Frm.ofBelow hb []) (fun _ _ => by simp)
theorem cntOs_szF : ∀ (l : List OpV), cntOs l ≤ 9 * szOs l
  | [] => by simp [cntOs]
  | x :: r => by
    have h2 := cntOs_szF r
    unfold szOs at h2 ⊢
    simp only [cntOs, List.length_cons, List.map_cons, List.sum_cons]
    omega
theorem foldR_cnt {n : Nat} (t : Tr (n + 1)) (ops : List OpV) : cntPls (foldR t ops) ≤ 4194304 := by
  unfold foldR
  by_cases hb : foldB t ops = true
  · rw [if_pos hb]
    unfold foldB at hb
    simp only [Bool.and_eq_true] at hb
    have hl := (fold_bd hb.1.1 hb.2).2
    have ha0 := fold_alg hb.1.1 hb.2 ops.length (Nat.le_refl _)
    rw [List.take_length] at ha0
    have ha : Alg (foldW t ops) ops := by
      have e := foldJ_all (n := n) t ops
      rw [← e]
      exact ha0
    have := cntPls_bd (foldW t ops) 1105 (fun p hp => by
      obtain ⟨a1, a2, a3, a4, a5, a6⟩ := ha.gd p hp
      have h1 := cntA_bd p.attrs 200 (fun x hx => by have := (a6 x hx).1; have := (a6 x hx).2; omega)
      have h2 : p.attrs.length * 200 ≤ 4 * 200 := Nat.mul_le_mul_right _ a5
      unfold szP
      omega)
    have h3 : (foldW t ops).length * 1105 ≤ 271 * 1105 := Nat.mul_le_mul_right _ hl
    omega
  · rw [if_neg hb]
    simp [cntPls]
theorem node_shape {n : Nat} {w : World} {a b c d e : Value} {t : Tr (n + 1)} (h : RdNode (n + 1) w [a, b, c, d, e] t) : ∃ p1 q1 p2 q2 p3 q3 p4 q4, a = .int .i64 t.kind ∧ b = .slice p1 t.name.length q1 ∧ c = .slice p2 t.text.length q2 ∧ d = .slice p3 t.attrs.length q3 ∧ e = .slice p4 t.kids.length q4 := by
  obtain ⟨_, _, _, _, e0, k1, k2, hb, hc, hd, he⟩ := h
  simp only [List.cons.injEq, and_true] at e0
  obtain ⟨rfl, rfl, rfl, rfl, rfl⟩ := e0
  obtain ⟨ab, cb, rfl, _, _⟩ := hb.shape
  obtain ⟨ac, cc, rfl, _, _⟩ := hc.shape
  obtain ⟨ad, cd, rfl, _, _⟩ := Elems.shape hd
  obtain ⟨ae, ce, rfl, _, _⟩ := Elems.shape he
  exact ⟨_, _, _, _, _, _, _, _, rfl, rfl, rfl, rfl, rfl⟩
/-- What both Fold tell. -/
def FdSaid (f : FuncId) (n : Nat) (t : Tr (n + 1)) (ops : List OpV) (fb : Bool) (pl : List PlV) : Prop := ∀ (W : World) (a b c d e u : Value), RdNode (n + 1) W [a, b, c, d, e] t → RdOps W u ops → Glo W → Calls Tryz.prog f #[.agg #[a, b, c, d, e], u] W fun e w' => FoRM W fb pl e w'
theorem foldS_said (n : Nat) (t : Tr (n + 1)) (ops : List OpV) : FdSaid 6 n t ops (foldB t ops) (foldR t ops) := by
  intro W a b c d e u h ho _
  obtain ⟨p1, q1, p2, q2, p3, q3, p4, q4, rfl, rfl, rfl, rfl, rfl⟩ := node_shape h
  obtain ⟨av, cv, rfl, _, _⟩ := Elems.shape ho
  have h1 : Byt W (.slice p1 t.name.length q1) t.name := by obtain ⟨_, _, _, _, e, _, _, h, _⟩ := h; cases e; exact h
  have h3 : RdAttrs W (.slice p3 t.attrs.length q3) t.attrs := by obtain ⟨_, _, _, _, e, _, _, _, _, h, _⟩ := h; cases e; exact h
  have h4 : RdKids n W (.slice p4 t.kids.length q4) t.kids := by obtain ⟨_, _, _, _, e, _, _, _, _, _, h⟩ := h; cases e; exact h
  refine (foldS_any BdO ownSt_any n W t p1 p2 p3 p4 av q1 q2 q3 q4 cv ops h h1 h3 h4 ho (fun hb => by
    unfold foldB at hb
    simp only [Bool.and_eq_true] at hb
    exact (fold_bd hb.1.1 hb.2).1)).mono ?_
  rintro e w' ⟨a, c, F, rfl, ho', nd, rg, hb⟩
  exact ⟨a, c, F, rfl, ho'.toM, nd, rg, hb⟩
theorem foldI_said (n : Nat) (t : Tr (n + 1)) (ops : List OpV) (hsz : szT (n + 1) t ≤ 2097152) : FdSaid 9 n t ops (foldB t ops) (foldR t ops) := by
  intro W a b c d e u h ho hG
  obtain ⟨p1, q1, p2, q2, p3, q3, p4, q4, rfl, rfl, rfl, rfl, rfl⟩ := node_shape h
  obtain ⟨av, cv, rfl, _, _⟩ := Elems.shape ho
  exact foldI_any n W t p1 p2 p3 p4 av q1 q2 q3 q4 cv ops h ho hsz hG

set_option maxHeartbeats 40000000 in
theorem law_fold (n : Nat) (w : World) (a b c d e v : Value) (t : Tr (n + 1)) (ops : List OpV) (h : RdNode (n + 1) w [a, b, c, d, e] t) (ho : RdOps w v ops) (hG : Glo w) :
    Calls Tryz.prog 3 #[.agg #[a, b, c, d, e], v] w fun e w' => e = .returned (.bool true) ∧ Below w.heap.size w w' := by
  have HG := hide (fun W (hW : Below w.heap.size w W) => hG.keep hW)
  have HZ := hide (fun W (hW : Below w.heap.size w W) => szNode_any (n + 1) W a b c d e t 1048576 (h.keep hW) (by omega) (by omega))
  have HZ2 := hide (fun W (hW : Below w.heap.size w W) left h0 h1 => szOps_any W v ops left (ho.keep hW) h0 h1)
  have HT := hide (fun W (hW : Below w.heap.size w W) hs => toNode_any (n + 1) W a b c d e t (h.keep hW) hs)
  have HTO := hide (fun W (hW : Below w.heap.size w W) hs => toOps_any W v ops (ho.keep hW) hs)
  obtain ⟨p1, q1, p2, q2, p3, q3, p4, q4, rfl, rfl, rfl, rfl, rfl⟩ := node_shape h
  obtain ⟨av, cv, rfl, _, _⟩ := Elems.shape ho
  clear h ho hG
  have HSS := hide (fun (hz : szT (n + 1) t ≤ 2097152) => And.intro (foldS_said n t ops) (foldI_said n t ops hz))
  have hpc := foldR_cnt t ops
  have hcl := cntOs_szF ops
  have hct := cntT_sz (n + 1) t
  generalize foldR t ops = pl at *
  generalize foldB t ops = fb at *
  generalize t.name.length = n1 at *
  generalize t.text.length = n2 at *
  generalize t.attrs.length = n3 at *
  generalize t.kids.length = n4 at *
  generalize t.kind = z at *
  have hA0 := (Below.refl w.heap.size w).alloc (Nat.le_refl _) (.cells #[.int .i64 z, .slice p1 n1 q1, .slice p2 n2 q2, .slice p3 n3 q3, .slice p4 n4 q4] 26)
  have l0 := Loc.made w #[.int .i64 z, .slice p1 n1 q1, .slice p2 n2 q2, .slice p3 n3 q3, .slice p4 n4 q4] 26
  go_enter Tryz.func3, Tryz.ntmps3
  go_wp2_with fail
  generalize (w.alloc (.cells #[.int .i64 z, .slice p1 n1 q1, .slice p2 n2 q2, .slice p3 n3 q3, .slice p4 n4 q4] 26)) = wa at *
  generalize hSS : w.heap.size = S at *
  have BS := hide (show ∀ (b c : World), Below S w b → Below b.heap.size b c → Below S w c from fun b c h k => h.trans (k.mono (by have := h.size; omega)))
  have q0 := l0.lt
  refine (unhide HZ _ hA0).mono ?_
  rintro e w1 ⟨rfl, hB⟩
  have hA1 := unhide BS _ _ hA0 hB
  have l1 := l0.all hB
  have z1 := hB.size
  clear hA0 l0 hB HZ
  by_cases hbig : ((szT (n + 1) t : Nat) : Int) ≤ 1048576
  case neg =>
    rw [rest_out hbig]
    go_wp2_with fail
    go_ret
    exact ⟨rfl, by rw [hSS]; exact hA1⟩
  rw [rest_in hbig]
  have hd0 : ¬ 1048576 - ((szT (n + 1) t : Nat) : Int) < 0 := by omega
  go_wp2_with fail
  refine (unhide HZ2 _ hA1 _ (by omega) (by omega)).mono ?_
  rintro e w2 ⟨rfl, hB⟩
  have hA2 := unhide BS _ _ hA1 hB
  have l2 := l1.all hB
  have z2 := hB.size
  clear hA1 l1 hB HZ2
  by_cases hbig2 : ((szOs ops : Nat) : Int) ≤ 1048576 - ((szT (n + 1) t : Nat) : Int)
  case neg =>
    rw [rest_out hbig2]
    go_wp2_with fail
    go_ret
    exact ⟨rfl, by rw [hSS]; exact hA2⟩
  rw [rest_in hbig2]
  have hd1 : ¬ 1048576 - ((szT (n + 1) t : Nat) : Int) - ((szOs ops : Nat) : Int) < 0 := by omega
  have hs1 : szT (n + 1) t ≤ 2097152 := by omega
  have hs2 : szOs ops ≤ 2097152 := by omega
  have hcl2 : cntOs ops ≤ 16777216 := by omega
  have hct2 : cntT (n + 1) t ≤ 2097152 := by omega
  obtain ⟨HS, HI⟩ := unhide HSS hs1
  replace HS := hide HS
  replace HI := hide HI
  replace HT := hide (fun W hW => unhide HT W hW hs1)
  replace HTO := hide (fun W hW => unhide HTO W hW hs2)
  clear HSS hcl hct hbig hbig2 hs1 hs2
  have hne : (fb != fb) = false := by simp
  have heq : (fb == fb) = true := by simp
  have HCO := hide hcl2
  have HCT := hide hct2
  have HPC := hide hpc
  have hD := hA2
  have l0 := l2
  clear hcl2 hct2 hpc hA2 l2
  obtain ⟨xa0, xa1, xa2, xa3, xa4⟩ := l0.five
  go_wp2_with fail
  clear xa0 xa1 xa2 xa3 xa4
  refine (unhide HT _ hD).mono ?_
  rintro e wb ⟨k3, a31, n31, c31, a32, n32, c32, a33, n33, c33, a34, n34, c34, rfl, F3, o3_, nd3, rg3, hB⟩
  replace hD := unhide BS _ _ hD hB
  replace l0 := l0.all hB
  have zb := hB.size
  clear hB
  go_wp2_with fail
  refine (unhide HTO _ hD).mono ?_
  rintro e wc ⟨a35, c35, rfl, F35, o35, nd35, rg35, hB⟩
  replace hD := unhide BS _ _ hD hB
  replace l0 := l0.all hB
  replace o3_ := o3_.keep hB
  have zc := hB.size
  clear hB
  go_wp2_with fail
  refine (unhide HS _ _ _ _ _ _ _ o3_.rd (OwOps.rd o35) (unhide HG _ hD)).mono ?_
  rintro e w3 ⟨aV, cV, FV, rfl, oV, ndV, rgV, hB⟩
  clear o3_ o35 nd3 nd35 rg3 rg35 HS
  replace hD := unhide BS _ _ hD hB
  replace l0 := l0.all hB
  have z3 := hB.size
  clear hB
  have hB : Below w3.heap.size w3 (w3.alloc (.cells #[.slice aV pl.length cV] 32)) := (Below.refl _ _).alloc (Nat.le_refl _) _
  have lg := Loc.made w3 #[.slice aV pl.length cV] 32
  replace oV := oV.keep hB
  replace hD := unhide BS _ _ hD hB
  replace l0 := l0.all hB
  have z4 := hB.size
  clear hB
  have LL := hide (And.intro hD (And.intro l0 (And.intro lg (oV))))
  clear hD l0 lg oV
  go_upto_region 9 with fail
  generalize (w3.alloc (.cells #[.slice aV pl.length cV] 32)) = w4 at *
  obtain ⟨hD, l0, lg, oV⟩ := unhide LL
  clear LL
  generalize hSSg : w3.heap.size = Sg at *
  have qSg := lg.lt
  obtain ⟨xa0, xa1, xa2, xa3, xa4⟩ := l0.five
  go_wp2_with fail
  clear xa0 xa1 xa2 xa3 xa4
  refine (unhide HT _ hD).mono ?_
  rintro e w5 ⟨k4, a41, n41, c41, a42, n42, c42, a43, n43, c43, a44, n44, c44, rfl, F4, o4_, nd4, rg4, hB⟩
  replace hD := unhide BS _ _ hD hB
  replace l0 := l0.all hB
  replace lg := lg.all hB
  replace oV := oV.keep hB
  have z5 := hB.size
  clear hB
  have hB : Below w5.heap.size w5 (w5.alloc (.cells #[.int .i64 k4, .slice a41 n41 c41, .slice a42 n42 c42, .slice a43 n43 c43, .slice a44 n44 c44] 38)) := (Below.refl _ _).alloc (Nat.le_refl _) _
  have l4 := Loc.made w5 #[.int .i64 k4, .slice a41 n41 c41, .slice a42 n42 c42, .slice a43 n43 c43, .slice a44 n44 c44] 38
  replace o4_ := o4_.keep hB
  replace hD := unhide BS _ _ hD hB
  replace l0 := l0.all hB
  replace lg := lg.all hB
  replace oV := oV.keep hB
  have z6 := hB.size
  clear hB
  have LL := hide (And.intro hD (And.intro l0 (And.intro lg (And.intro l4 (And.intro oV (o4_))))))
  clear hD l0 lg l4 oV o4_
  go_upto_region 10 with fail
  generalize (w5.alloc (.cells #[.int .i64 k4, .slice a41 n41 c41, .slice a42 n42 c42, .slice a43 n43 c43, .slice a44 n44 c44] 38)) = w6 at *
  obtain ⟨hD, l0, lg, l4, oV, o4_⟩ := unhide LL
  clear LL
  generalize hSS4 : w5.heap.size = S4 at *
  have qS4 := l4.lt
  go_wp2_with fail
  refine (unhide HTO _ hD).mono ?_
  rintro e w7 ⟨a6, c6, rfl, F6, o6_, nd6, rg6, hB⟩
  replace hD := unhide BS _ _ hD hB
  replace l0 := l0.all hB
  replace lg := lg.all hB
  replace l4 := l4.all hB
  replace oV := oV.keep hB
  replace o4_ := o4_.keep hB
  have z7 := hB.size
  clear hB
  obtain ⟨ya0, ya1, ya2, ya3, ya4⟩ := l4.five
  go_wp2_with fail
  clear ya0 ya1 ya2 ya3 ya4
  refine (unhide HI _ _ _ _ _ _ _ o4_.rd (OwOps.rd o6_) (unhide HG _ hD)).mono ?_
  rintro e w8 ⟨a8, c8, F8, rfl, o8_, nd8, rg8, hB⟩
  replace o6_ := OwOps.keepF o6_ hB
  replace hD := unhide BS _ _ hD hB
  replace l0 := l0.all hB
  replace lg := lg.all hB
  replace l4 := l4.all hB
  replace oV := oV.keep hB
  replace o4_ := o4_.keep hB
  have z8 := hB.size
  clear hB
  have hB : Below w8.heap.size w8 (w8.alloc (.cells #[.slice a8 pl.length c8] 32)) := (Below.refl _ _).alloc (Nat.le_refl _) _
  replace o6_ := OwOps.keepF o6_ hB
  clear hB
  replace o6_ := hide o6_
  have hB : Below w8.heap.size w8 (w8.alloc (.cells #[.slice a8 pl.length c8] 32)) := (Below.refl _ _).alloc (Nat.le_refl _) _
  have l8 := Loc.made w8 #[.slice a8 pl.length c8] 32
  replace o8_ := o8_.keep hB
  replace hD := unhide BS _ _ hD hB
  replace l0 := l0.all hB
  replace lg := lg.all hB
  replace l4 := l4.all hB
  replace oV := oV.keep hB
  replace o4_ := o4_.keep hB
  have z9 := hB.size
  clear hB
  have LL := hide (And.intro hD (And.intro l0 (And.intro lg (And.intro l4 (And.intro l8 (And.intro oV (And.intro o4_ (o8_))))))))
  clear hD l0 lg l4 l8 oV o4_ o8_
  go_upto_region 12 with fail
  generalize (w8.alloc (.cells #[.slice a8 pl.length c8] 32)) = w9 at *
  obtain ⟨hD, l0, lg, l4, l8, oV, o4_, o8_⟩ := unhide LL
  clear LL
  generalize hSS8 : w8.heap.size = S8 at *
  have qS8 := l8.lt
  replace o6_ := unhide o6_
  have xg := lg.cell 0
  simp only [List.getElem?_toArray, List.getElem?_cons_zero] at xg
  have x8 := l8.cell 0
  simp only [List.getElem?_toArray, List.getElem?_cons_zero] at x8
  go_wp2_with fail
  clear xg x8
  refine (eqSt_same _ _ _ pl (OwPlsM.rd o8_) (OwPlsM.rd oV)).mono ?_
  rintro e w10 ⟨rfl, hB⟩
  replace o6_ := OwOps.keepF o6_ hB
  replace hD := unhide BS _ _ hD hB
  replace l0 := l0.all hB
  replace lg := lg.all hB
  replace l4 := l4.all hB
  replace l8 := l8.all hB
  replace oV := oV.keep hB
  replace o4_ := o4_.keep hB
  replace o8_ := o8_.keep hB
  have z10 := hB.size
  clear hB
  obtain ⟨xa0, xa1, xa2, xa3, xa4⟩ := l0.five
  obtain ⟨ya0, ya1, ya2, ya3, ya4⟩ := l4.five
  go_wp2_with fail
  go_region_held3 (fun w' => w'.cell? ⟨S, 0, none⟩ = some (.int .i64 z) ∧ w'.cell? ⟨S, 1, none⟩ = some (.slice p1 n1 q1) ∧ w'.cell? ⟨S, 2, none⟩ = some (.slice p2 n2 q2) ∧ w'.cell? ⟨S, 3, none⟩ = some (.slice p3 n3 q3) ∧ w'.cell? ⟨S, 4, none⟩ = some (.slice p4 n4 q4) ∧ w'.cell? ⟨S4, 0, none⟩ = some (.int .i64 k4) ∧ w'.cell? ⟨S4, 1, none⟩ = some (.slice a41 n41 c41) ∧ w'.cell? ⟨S4, 2, none⟩ = some (.slice a42 n42 c42) ∧ w'.cell? ⟨S4, 3, none⟩ = some (.slice a43 n43 c43) ∧ w'.cell? ⟨S4, 4, none⟩ = some (.slice a44 n44 c44))
    (first | exact ⟨by assumption, by assumption, by assumption, by assumption, by assumption, by assumption, by assumption, by assumption, by assumption, by assumption⟩ | simp [*])
    (first
      | (go_at_call 7; refine (unhide HT _ hD.drew).mono ?_; rintro e w11 ⟨ke, ae1, ne1, ce1, ae2, ne2, ce2, ae3, ne3, ce3, ae4, ne4, ce4, rfl, F11, o11, _, _, hB11⟩; have hE11 := bstep ((Below.refl w10.heap.size w10).drew) hB11; obtain ⟨xa0, xa1, xa2, xa3, xa4⟩ := (l0.all hE11).five; obtain ⟨ya0, ya1, ya2, ya3, ya4⟩ := (l4.all hE11).five)
      | (go_at_call 11; refine (eqNode_any (n + 1) _ _ _ _ _ _ _ _ _ _ _ t (o4_.keep hE11).rd o11.rd).mono ?_; rintro e w12 ⟨rfl, hB12⟩; have hE12 := bstep hE11 hB12; obtain ⟨xa0, xa1, xa2, xa3, xa4⟩ := (l0.all hE12).five; obtain ⟨ya0, ya1, ya2, ya3, ya4⟩ := (l4.all hE12).five))
  clear o11 hB11 hE11 hB12 xa0 xa1 xa2 xa3 xa4 ya0 ya1 ya2 ya3 ya4
  replace o6_ := OwOps.keepF o6_ hE12
  replace hD := unhide BS _ _ hD hE12
  replace l0 := l0.all hE12
  replace lg := lg.all hE12
  replace l4 := l4.all hE12
  replace l8 := l8.all hE12
  replace oV := oV.keep hE12
  replace o4_ := o4_.keep hE12
  replace o8_ := o8_.keep hE12
  have z12 := hE12.size
  clear hE12
  go_wp2_with fail
  refine (unhide HTO _ hD).mono ?_
  rintro e w13 ⟨a13, c13, rfl, F13, o13, _, _, hB⟩
  replace o6_ := OwOps.keepF o6_ hB
  replace hD := unhide BS _ _ hD hB
  replace l0 := l0.all hB
  replace lg := lg.all hB
  replace l4 := l4.all hB
  replace l8 := l8.all hB
  replace oV := oV.keep hB
  replace o4_ := o4_.keep hB
  replace o8_ := o8_.keep hB
  have z13 := hB.size
  clear hB
  go_wp2_with fail
  refine (eqOps_same _ _ _ ops (OwOps.rd o6_) (OwOps.rd o13)).mono ?_
  rintro e w15 ⟨rfl, hB⟩
  clear o13
  replace o6_ := OwOps.keepF o6_ hB
  replace hD := unhide BS _ _ hD hB
  replace l0 := l0.all hB
  replace lg := lg.all hB
  replace l4 := l4.all hB
  replace l8 := l8.all hB
  replace oV := oV.keep hB
  replace o4_ := o4_.keep hB
  replace o8_ := o8_.keep hB
  have z15 := hB.size
  clear hB
  obtain ⟨ya0, ya1, ya2, ya3, ya4⟩ := l4.five
  go_wp2_with fail
  clear ya0 ya1 ya2 ya3 ya4
  refine (markN_any n w15 _ _ _ _ _ t F4 1 o4_ nd4 (by have := unhide HCT; omega) (by omega) (by have := unhide HCT; omega)).mono ?_
  rintro e w16 ⟨rfl, _, hF⟩
  replace hD := hD.trans (hF.below (by have := hD.size; omega) (fun q hq => by have := (rg4 q hq).1; omega))
  replace l0 := l0.frm hF (fun hm => by have := rg4 _ hm; omega)
  replace lg := lg.frm hF (fun hm => by have := rg4 _ hm; omega)
  replace l8 := l8.frm hF (fun hm => by have := rg4 _ hm; omega)
  replace oV := OwPlsM.frm oV hF (fun q hq hm => by have := rg4 _ hm; have := rgV _ hq; omega)
  replace o6_ := OwOps.frm o6_ hF (fun q hq hm => by have := rg4 _ hm; have := rg6 _ hq; omega)
  replace o8_ := OwPlsM.frm o8_ hF (fun q hq hm => by have := rg4 _ hm; have := rg8 _ hq; omega)
  have z16 := hF.size
  clear hF o4_ l4 nd4
  have hk1 : (0 : Int) ≤ 1 + ((cntT (n + 1) t : Nat) : Int) := by omega
  have hk2 : 1 + ((cntT (n + 1) t : Nat) : Int) ≤ 900000000 := by have := unhide HCT; omega
  clear HCT
  generalize 1 + ((cntT (n + 1) t : Nat) : Int) = K at *
  go_wp2_with fail
  refine (markOs_any w16 _ ops F6 K o6_ nd6 (unhide HCO) hk1 hk2).mono ?_
  rintro e w17 ⟨rfl, _, hF⟩
  replace hD := hD.trans (hF.below (by have := hD.size; omega) (fun q hq => by have := (rg6 q hq).1; omega))
  replace l0 := l0.frm hF (fun hm => by have := rg6 _ hm; omega)
  replace lg := lg.frm hF (fun hm => by have := rg6 _ hm; omega)
  replace l8 := l8.frm hF (fun hm => by have := rg6 _ hm; omega)
  replace oV := OwPlsM.frm oV hF (fun q hq hm => by have := rg6 _ hm; have := rgV _ hq; omega)
  replace o8_ := OwPlsM.frm o8_ hF (fun q hq hm => by have := rg6 _ hm; have := rg8 _ hq; omega)
  have z17 := hF.size
  clear hF o6_ nd6
  have hk3 : decide (K + ((cntOs ops : Nat) : Int) < 0) = false := by simp; omega
  have xg := lg.cell 0
  simp only [List.getElem?_toArray, List.getElem?_cons_zero] at xg
  have x8 := l8.cell 0
  simp only [List.getElem?_toArray, List.getElem?_cons_zero] at x8
  go_wp2_with fail
  clear xg x8
  refine (eqSt_same _ _ _ pl (OwPlsM.rd o8_) (OwPlsM.rd oV)).mono ?_
  rintro e w18 ⟨rfl, hB⟩
  replace hD := unhide BS _ _ hD hB
  replace l0 := l0.all hB
  replace lg := lg.all hB
  replace l8 := l8.all hB
  replace oV := oV.keep hB
  replace o8_ := o8_.keep hB
  have z18 := hB.size
  clear hB
  have x8 := l8.cell 0
  simp only [List.getElem?_toArray, List.getElem?_cons_zero] at x8
  go_wp2_with fail
  clear x8
  refine (markSt_any w18 _ pl F8 1 o8_ nd8 (unhide HPC) (by omega) (by omega)).mono ?_
  rintro e w19 ⟨rfl, om, hF⟩
  replace hD := hD.trans (hF.below (by have := hD.size; omega) (fun q hq => by have := (rg8 q hq).1; omega))
  replace l0 := l0.frm hF (fun hm => by have := rg8 _ hm; omega)
  replace lg := lg.frm hF (fun hm => by have := rg8 _ hm; omega)
  replace l8 := l8.frm hF (fun hm => by have := rg8 _ hm; omega)
  replace oV := OwPlsM.frm oV hF (fun q hq hm => by have := rg8 _ hm; have := rgV _ hq; omega)
  have z19 := hF.size
  clear hF o8_ nd8
  have HH := hide (fun W (hW : Below w19.heap.size w19 W) => heldSt_any W _ pl 1 ((OwPlsM.rd om).keep hW) (unhide HPC) (by omega) (by omega))
  have hm1 : decide (1 + ((cntPls pl : Nat) : Int) < 0) = false := by simp; omega
  generalize 1 + ((cntPls pl : Nat) : Int) = M at *
  have hm2 : (M != M) = false := by simp
  have hm3 : (M == M) = true := by simp
  clear om
  have x8 := l8.cell 0
  simp only [List.getElem?_toArray, List.getElem?_cons_zero] at x8
  go_wp2_with fail
  clear x8
  refine (unhide HH w19 (Below.refl _ _)).mono ?_
  rintro e w20 ⟨rfl, hB⟩
  replace HH := hide (fun W (hW : Below w20.heap.size w20 W) => unhide HH W (bstep hB hW))
  replace hD := unhide BS _ _ hD hB
  replace l0 := l0.all hB
  replace lg := lg.all hB
  replace l8 := l8.all hB
  replace oV := oV.keep hB
  have z20 := hB.size
  clear hB
  obtain ⟨xa0, xa1, xa2, xa3, xa4⟩ := l0.five
  go_wp2_with fail
  clear xa0 xa1 xa2 xa3 xa4
  refine (unhide HT _ hD).mono ?_
  rintro e w21 ⟨k7, a71, n71, c71, a72, n72, c72, a73, n73, c73, a74, n74, c74, rfl, F7, o7_, nd7, rg7, hB⟩
  replace HH := hide (fun W (hW : Below w21.heap.size w21 W) => unhide HH W (bstep hB hW))
  replace hD := unhide BS _ _ hD hB
  replace l0 := l0.all hB
  replace lg := lg.all hB
  replace l8 := l8.all hB
  replace oV := oV.keep hB
  have z21 := hB.size
  clear hB
  go_wp2_with fail
  refine (unhide HTO _ hD).mono ?_
  rintro e w22 ⟨a75, c75, rfl, F75, o75, nd75, rg75, hB⟩
  replace HH := hide (fun W (hW : Below w22.heap.size w22 W) => unhide HH W (bstep hB hW))
  replace hD := unhide BS _ _ hD hB
  replace l0 := l0.all hB
  replace lg := lg.all hB
  replace l8 := l8.all hB
  replace oV := oV.keep hB
  replace o7_ := o7_.keep hB
  have z22 := hB.size
  clear hB
  go_wp2_with fail
  refine (unhide HI _ _ _ _ _ _ _ o7_.rd (OwOps.rd o75) (unhide HG _ hD)).mono ?_
  rintro e w23 ⟨a9, c9, F9, rfl, o9_, nd9, rg9, hB⟩
  replace HH := hide (fun W (hW : Below w23.heap.size w23 W) => unhide HH W (bstep hB hW))
  clear o7_ o75
  replace hD := unhide BS _ _ hD hB
  replace l0 := l0.all hB
  replace lg := lg.all hB
  replace l8 := l8.all hB
  replace oV := oV.keep hB
  have z23 := hB.size
  clear hB
  have hB : Below w23.heap.size w23 (w23.alloc (.cells #[.slice a9 pl.length c9] 32)) := (Below.refl _ _).alloc (Nat.le_refl _) _
  replace HH := hide (fun W (hW : Below (w23.alloc (.cells #[.slice a9 pl.length c9] 32)).heap.size (w23.alloc (.cells #[.slice a9 pl.length c9] 32)) W) => unhide HH W (bstep hB hW))
  clear hB
  have hB : Below w23.heap.size w23 (w23.alloc (.cells #[.slice a9 pl.length c9] 32)) := (Below.refl _ _).alloc (Nat.le_refl _) _
  have l9 := Loc.made w23 #[.slice a9 pl.length c9] 32
  replace o9_ := o9_.keep hB
  replace hD := unhide BS _ _ hD hB
  replace l0 := l0.all hB
  replace lg := lg.all hB
  replace l8 := l8.all hB
  replace oV := oV.keep hB
  have z24 := hB.size
  clear hB
  have LL := hide (And.intro hD (And.intro l0 (And.intro lg (And.intro l8 (And.intro l9 (And.intro oV (o9_)))))))
  clear hD l0 lg l8 l9 oV o9_
  go_upto_region 32 with fail
  generalize (w23.alloc (.cells #[.slice a9 pl.length c9] 32)) = w24 at *
  obtain ⟨hD, l0, lg, l8, l9, oV, o9_⟩ := unhide LL
  clear LL
  generalize hSS9 : w23.heap.size = S9 at *
  have qS9 := l9.lt
  have xg := lg.cell 0
  simp only [List.getElem?_toArray, List.getElem?_cons_zero] at xg
  have x9 := l9.cell 0
  simp only [List.getElem?_toArray, List.getElem?_cons_zero] at x9
  go_wp2_with fail
  clear xg x9
  refine (eqSt_same _ _ _ pl (OwPlsM.rd o9_) (OwPlsM.rd oV)).mono ?_
  rintro e w25 ⟨rfl, hB⟩
  replace hD := unhide BS _ _ hD hB
  replace l8 := l8.all hB
  have x8 := l8.cell 0
  simp only [List.getElem?_toArray, List.getElem?_cons_zero] at x8
  go_wp2_with fail
  refine (unhide HH w25 hB).mono ?_
  rintro e w26 ⟨rfl, hB⟩
  replace hD := unhide BS _ _ hD hB
  go_wp2_with fail
  go_ret
  exact ⟨rfl, by rw [hSS]; exact hD⟩
end Go.Proofs.YtnfafchajjclaaaGreatDoor

/- An argument of a law that can be read as data is a row of numbers, a stamp, an operation: what the data's readings open to. No condition. -/
namespace Go.Proofs.YtnfafchajjclaaaGreatDoor
open Go.RowKit Go.ChangeShapes
set_option linter.unusedVariables false
set_option maxRecDepth 100000

variable {H : Type} {enc : TypeId × Value → H} {W : World} {held : Bool}

theorem open_bytesO {fuel : Nat} {cs : List Value} {x : DataW H × List MemPlace} (h : DataW.trod enc Tryz.prog W 0 (fun _ => true) held fuel 22 cs = some x) :
    ∃ v l, cs = [v] ∧ Byt W v l := by
  rcases open_ints Tryz.underlying22 Tryz.underlying5 (by kernel_rfl) h with ⟨hcs, _⟩ | ⟨a, len, cap, zs, hcs, _, hl, hm, hz, _, hcell, hwz⟩
  · exact ⟨_, _, hcs, byt_of_row (zs := []) (.inl ⟨rfl, rfl, rfl, rfl⟩)⟩
  · exact ⟨_, _, hcs, byt_of_row (.inr ⟨_, rfl, hl, hm, by simpa using hz, hcell, hwz⟩)⟩
theorem open_intsO {fuel : Nat} {cs : List Value} {x : DataW H × List MemPlace} (h : DataW.trod enc Tryz.prog W 0 (fun _ => true) held fuel 55 cs = some x) :
    ∃ v l, cs = [v] ∧ Ints W v l := by
  rcases open_ints Tryz.underlying55 Tryz.underlying3 (by kernel_rfl) h with ⟨hcs, _⟩ | ⟨a, len, cap, zs, hcs, _, hl, hm, hz, _, hcell, hwz⟩
  · exact ⟨_, _, hcs, ints_of_row (zs := []) (.inl ⟨rfl, rfl, rfl, rfl⟩)⟩
  · exact ⟨_, _, hcs, ints_of_row (.inr ⟨_, rfl, hl, hm, by simpa using hz, hcell, hwz⟩)⟩

theorem some_atO {α : Type} {l : List α} {n i : Nat} (h : l.length = n) (hi : i < n) : ∃ y, l[i]? = some y := ⟨l[i]'(by omega), List.getElem?_eq_getElem (by omega)⟩

theorem open_id {fuel : Nat} {cs : List Value} {x : DataW H × List MemPlace} (h : DataW.trod enc Tryz.prog W 0 (fun _ => true) held fuel 54 cs = some x) : ∃ n r : Int, cs = [.int .i64 n, .int .i64 r] := by
  obtain ⟨xs, n, _, _, hlen, hxs, hf⟩ := DataW.trod_struct Tryz.underlying54 h
  have hlen2 : cs.length = 2 := hlen.trans (by kernel_rfl)
  match cs, hlen2 with
  | [c0, c1], _ =>
    obtain ⟨y0, e0⟩ := some_atO (i := 0) hxs (by simp)
    obtain ⟨y1, e1⟩ := some_atO (i := 1) hxs (by simp)
    have h0 : DataW.trod enc Tryz.prog W 0 (fun _ => true) held n 3 (([c0, c1].drop 0).take (Tryz.prog.cellsOf 3)) = some y0 := (hf 0 _ rfl).trans e0
    have h1 : DataW.trod enc Tryz.prog W 0 (fun _ => true) held n 3 (([c0, c1].drop 1).take (Tryz.prog.cellsOf 3)) = some y1 := (hf 1 _ rfl).trans e1
    have k1 : Tryz.prog.cellsOf 3 = 1 := by kernel_rfl
    simp only [k1, List.drop, List.take] at h0 h1
    obtain ⟨z0, g0, _, _⟩ := DataW.trod_int Tryz.underlying3 h0
    obtain ⟨z1, g1, _, _⟩ := DataW.trod_int Tryz.underlying3 h1
    simp at g0 g1
    subst g0; subst g1
    exact ⟨z0, z1, rfl⟩
end Go.Proofs.YtnfafchajjclaaaGreatDoor

/- An argument of a law that can be read as data is an operation: what the data's reading opens to. No condition. -/
namespace Go.Proofs.YtnfafchajjclaaaGreatDoor
open Go.RowKit Go.ChangeShapes
set_option linter.unusedVariables false
set_option maxRecDepth 100000

variable {H : Type} {enc : TypeId × Value → H} {W : World} {held : Bool}

theorem open_op {fuel : Nat} {cs : List Value} {x : DataW H × List MemPlace} (h : DataW.trod enc Tryz.prog W 0 (fun _ => true) held fuel 57 cs = some x) : ∃ o, RdOp W (.agg cs.toArray) o := by
  obtain ⟨xs, n, _, _, hlen, hxs, hf⟩ := DataW.trod_struct Tryz.underlying57 h
  have hlen2 : cs.length = 12 := hlen.trans (by kernel_rfl)
  match cs, hlen2 with
  | [c0, c1, c2, c3, c4, c5, c6, c7, c8, c9, c10, c11], _ =>
    obtain ⟨y0, e0⟩ := some_atO (i := 0) hxs (by simp)
    obtain ⟨y1, e1⟩ := some_atO (i := 1) hxs (by simp)
    obtain ⟨y2, e2⟩ := some_atO (i := 2) hxs (by simp)
    obtain ⟨y3, e3⟩ := some_atO (i := 3) hxs (by simp)
    obtain ⟨y4, e4⟩ := some_atO (i := 4) hxs (by simp)
    obtain ⟨y5, e5⟩ := some_atO (i := 5) hxs (by simp)
    obtain ⟨y6, e6⟩ := some_atO (i := 6) hxs (by simp)
    obtain ⟨y7, e7⟩ := some_atO (i := 7) hxs (by simp)
    obtain ⟨y8, e8⟩ := some_atO (i := 8) hxs (by simp)
    have h0 : DataW.trod enc Tryz.prog W 0 (fun _ => true) held n 3 (([c0, c1, c2, c3, c4, c5, c6, c7, c8, c9, c10, c11].drop 0).take (Tryz.prog.cellsOf 3)) = some y0 := (hf 0 _ rfl).trans e0
    have h1 : DataW.trod enc Tryz.prog W 0 (fun _ => true) held n 54 (([c0, c1, c2, c3, c4, c5, c6, c7, c8, c9, c10, c11].drop 1).take (Tryz.prog.cellsOf 54)) = some y1 := (hf 1 _ rfl).trans e1
    have h2 : DataW.trod enc Tryz.prog W 0 (fun _ => true) held n 54 (([c0, c1, c2, c3, c4, c5, c6, c7, c8, c9, c10, c11].drop 3).take (Tryz.prog.cellsOf 54)) = some y2 := (hf 2 _ rfl).trans e2
    have h3 : DataW.trod enc Tryz.prog W 0 (fun _ => true) held n 54 (([c0, c1, c2, c3, c4, c5, c6, c7, c8, c9, c10, c11].drop 5).take (Tryz.prog.cellsOf 54)) = some y3 := (hf 3 _ rfl).trans e3
    have h4 : DataW.trod enc Tryz.prog W 0 (fun _ => true) held n 55 (([c0, c1, c2, c3, c4, c5, c6, c7, c8, c9, c10, c11].drop 7).take (Tryz.prog.cellsOf 55)) = some y4 := (hf 4 _ rfl).trans e4
    have h5 : DataW.trod enc Tryz.prog W 0 (fun _ => true) held n 3 (([c0, c1, c2, c3, c4, c5, c6, c7, c8, c9, c10, c11].drop 8).take (Tryz.prog.cellsOf 3)) = some y5 := (hf 5 _ rfl).trans e5
    have h6 : DataW.trod enc Tryz.prog W 0 (fun _ => true) held n 22 (([c0, c1, c2, c3, c4, c5, c6, c7, c8, c9, c10, c11].drop 9).take (Tryz.prog.cellsOf 22)) = some y6 := (hf 6 _ rfl).trans e6
    have h7 : DataW.trod enc Tryz.prog W 0 (fun _ => true) held n 22 (([c0, c1, c2, c3, c4, c5, c6, c7, c8, c9, c10, c11].drop 10).take (Tryz.prog.cellsOf 22)) = some y7 := (hf 7 _ rfl).trans e7
    have h8 : DataW.trod enc Tryz.prog W 0 (fun _ => true) held n 4 (([c0, c1, c2, c3, c4, c5, c6, c7, c8, c9, c10, c11].drop 11).take (Tryz.prog.cellsOf 4)) = some y8 := (hf 8 _ rfl).trans e8
    have ki : Tryz.prog.cellsOf 3 = 1 := by kernel_rfl
    have k1 : Tryz.prog.cellsOf 22 = 1 := by kernel_rfl
    have k2 : Tryz.prog.cellsOf 55 = 1 := by kernel_rfl
    have k3 : Tryz.prog.cellsOf 54 = 2 := by kernel_rfl
    have k4 : Tryz.prog.cellsOf 4 = 1 := by kernel_rfl
    simp only [ki, k1, k2, k3, k4, List.drop, List.take] at h0 h1 h2 h3 h4 h5 h6 h7 h8
    obtain ⟨z0, g0, _, _⟩ := DataW.trod_int Tryz.underlying3 h0
    obtain ⟨z1, z2, g1⟩ := open_id h1
    obtain ⟨z3, z4, g2⟩ := open_id h2
    obtain ⟨z5, z6, g3⟩ := open_id h3
    obtain ⟨v7, l7, g4, b7⟩ := open_intsO h4
    obtain ⟨z8, g5, _, _⟩ := DataW.trod_int Tryz.underlying3 h5
    obtain ⟨v9, l9, g6, b9⟩ := open_bytesO h6
    obtain ⟨v10, l10, g7, b10⟩ := open_bytesO h7
    obtain ⟨z11, g8, _⟩ := DataW.trod_bool Tryz.underlying4 h8
    simp at g0 g1 g2 g3 g4 g5 g6 g7 g8
    obtain ⟨rfl, rfl⟩ := g1
    obtain ⟨rfl, rfl⟩ := g2
    obtain ⟨rfl, rfl⟩ := g3
    subst g0; subst g4; subst g5; subst g6; subst g7; subst g8
    exact ⟨⟨z0, z1, z2, z3, z4, z5, z6, l7, z8, l9, l10, z11⟩, _, _, _, rfl, b7, b9, b10⟩
end Go.Proofs.YtnfafchajjclaaaGreatDoor

/- An argument of a law that can be read as data is a row of operations. No condition. -/
namespace Go.Proofs.YtnfafchajjclaaaGreatDoor
open Go.RowKit Go.ChangeShapes
set_option linter.unusedVariables false
set_option maxRecDepth 100000

variable {H : Type} {enc : TypeId × Value → H} {W : World} {held : Bool}

theorem opc_of {C : List Value} {o : OpV} (h : RdOp W (.agg C.toArray) o) : RdOpC W C o := by
  obtain ⟨k, n, t, e, h1, h2, h3⟩ := h
  refine ⟨k, n, t, ?_, h1, h2, h3⟩
  unfold opVal at e
  have e1 := Value.agg.inj e
  have e2 := congrArg Array.toList e1
  simpa using e2
/-- An argument that is a row of operations. -/
theorem arg_ops {r : Reach} {base : Nat} {v : Value} {d : DataW H} {p : List MemPlace} (hv : Value.okWide Tryz.prog W r base 27 v) (h : DataW.Trod enc Tryz.prog W 0 (fun _ => true) held 27 v d p) : ∃ l, RdOps W v l := by
  obtain ⟨a, len, cap, rfl⟩ := WideShapes.okWide_slice Tryz.underlying27 hv
  obtain ⟨fuel, hf⟩ := h
  obtain ⟨u, l, hu, hb⟩ := open_elems (sz := 12) (R := RdOpC W) Tryz.underlying27 (by kernel_rfl) (by omega) (fun n C y _ hy => (open_op hy).imp fun o ho => opc_of ho) hf
  simp [Value.cells] at hu
  subst hu
  exact ⟨l, hb⟩
end Go.Proofs.YtnfafchajjclaaaGreatDoor
