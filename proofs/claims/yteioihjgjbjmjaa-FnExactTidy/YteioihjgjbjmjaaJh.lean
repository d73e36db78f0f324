/- Own texts joined: ToT5, HeldA, HeldN, HeldT, CntT, LTidy, TidyI2, TidyS2. -/
import Derived.Test.YteioihjgjbjmjaaJa
import Derived.Test.YteioihjgjbjmjaaJb
import Derived.Test.YteioihjgjbjmjaaJc
import Derived.Test.YteioihjgjbjmjaaJd
import Derived.Test.YteioihjgjbjmjaaJe
import Derived.Test.YteioihjgjbjmjaaJf
import Derived.Test.YteioihjgjbjmjaaJg

/- The laws' own copy of a tree, whole: the node itself. -/
namespace Go.Proofs.Yteioihjgjbjmjaa
open Go.RowKit
set_option linter.unusedVariables false

/-- Three new blocks. -/
theorem three (w : World) (A Z Y : Array Value) (TA T : TypeId) : Loc (((w.alloc (.cells A TA)).alloc (.cells Z T)).alloc (.cells Y T)) w.heap.size A TA ∧ Loc (((w.alloc (.cells A TA)).alloc (.cells Z T)).alloc (.cells Y T)) (w.heap.size + 1) Z T ∧
    Loc (((w.alloc (.cells A TA)).alloc (.cells Z T)).alloc (.cells Y T)) (w.heap.size + 1 + 1) Y T ∧ Below w.heap.size w (((w.alloc (.cells A TA)).alloc (.cells Z T)).alloc (.cells Y T)) ∧ (((w.alloc (.cells A TA)).alloc (.cells Z T)).alloc (.cells Y T)).heap.size = w.heap.size + 3 := by
  have l0 := ((Loc.made w A TA).alloc (.cells Z T)).alloc (.cells Y T)
  have l1 := (Loc.made (w.alloc (.cells A TA)) Z T).alloc (.cells Y T)
  have l2 := Loc.made ((w.alloc (.cells A TA)).alloc (.cells Z T)) Y T
  simp only [World.size_alloc] at l1 l2
  exact ⟨l0, l1, l2, (((Below.refl _ _).alloc (Nat.le_refl _) _).alloc (by simp) _).alloc (by simp; omega) _, by simp⟩

/-- A field of a local struct is stored. -/
theorem Loc3.store {w : World} {S : Nat} {A Z Y : Array Value} {TA T : TypeId} (h0 : Loc w S A TA) (h1 : Loc w (S + 1) Z T) (h2 : Loc w (S + 1 + 1) Y T) (j : Nat) (v : Value) :
    Loc (w.setCell ⟨S + 1 + 1, j, none⟩ v) S A TA ∧ Loc (w.setCell ⟨S + 1 + 1, j, none⟩ v) (S + 1) Z T ∧ Loc (w.setCell ⟨S + 1 + 1, j, none⟩ v) (S + 1 + 1) (Y.setIfInBounds j v) T :=
  ⟨h0.other _ _ _ (by omega), h1.other _ _ _ (by omega), h2.set j v⟩

set_option maxHeartbeats 3200000 in
theorem toNode_succ (n : Nat) (H : ToNodeSaid n) : ToNodeSaid (n + 1) := by
  intro w a b c d e t hr hs
  obtain ⟨_, _, _, _, e0, k1, k2, hb, hc, hd, he⟩ := hr
  simp only [List.cons.injEq, and_true] at e0
  obtain ⟨rfl, rfl, rfl, rfl, rfl⟩ := e0
  obtain ⟨ab, cb, rfl, _, _⟩ := hb.shape
  obtain ⟨ac, cc, rfl, _, _⟩ := hc.shape
  obtain ⟨ad, cd, rfl, _, _⟩ := Elems.shape hd
  obtain ⟨ae, ce, rfl, _, _⟩ := Elems.shape he
  have hz : t.name.length + t.text.length + szA t.attrs + szK n t.kids ≤ 2097152 := hs
  clear hs
  go_enter Try.func9, Try.ntmps9
  go_wp2_with fail
  obtain ⟨l0, l1, l2, hA, hWs⟩ := three w #[.int .i64 t.kind, .slice ab t.name.length cb, .slice ac t.text.length cc, .slice ad t.attrs.length cd, .slice ae t.kids.length ce] #[.int .i64 0, .slice none 0 0, .slice none 0 0, .slice none 0 0, .slice none 0 0] #[.int .i64 t.kind, .slice none 0 0, .slice none 0 0, .slice none 0 0, .slice none 0 0] 26 32
  generalize hW : (((w.alloc (.cells #[.int .i64 t.kind, .slice ab t.name.length cb, .slice ac t.text.length cc, .slice ad t.attrs.length cd, .slice ae t.kids.length ce] 26)).alloc (.cells #[.int .i64 0, .slice none 0 0, .slice none 0 0, .slice none 0 0, .slice none 0 0] 32)).alloc (.cells #[.int .i64 t.kind, .slice none 0 0, .slice none 0 0, .slice none 0 0, .slice none 0 0] 32)) = W at *
  have HWs := hide hWs
  clear hW hWs
  -- the name
  refine (toB_any W _ t.name (hb.keep hA) (by omega)).mono ?_
  rintro e w1 ⟨v1, rfl, ho1, _, hB1⟩
  obtain ⟨a1, c1, hv1, _, _⟩ := ho1.byt.shape
  subst hv1
  have r1 := ho1.rng
  have hA1 := bstep hA hB1
  replace l0 := l0.all hB1
  replace l1 := l1.all hB1
  replace l2 := l2.all hB1
  have p := l0.cell 2
  have q := l2.cell 1
  have f := l2.frozen 1
  simp at p q
  have s1 := hB1.size
  have M := hide (And.intro (Loc3.store l0 l1 l2 1 (.slice a1 t.name.length c1)) (And.intro (ho1.frm (set_frm w1 (w.heap.size + 1 + 1) 1 (.slice a1 t.name.length c1)) (fun g hg => by have := r1 g hg; have := unhide HWs; simp; omega)) (hA1.setCell (p := ⟨w.heap.size + 1 + 1, 1, none⟩) (by simp; omega) (.slice a1 t.name.length c1))))
  clear l0 l1 l2 ho1 hA hA1 hB1
  go_wp2_with fail
  -- the text
  obtain ⟨⟨l0, l1, l2⟩, ho1, hA1⟩ := unhide M
  clear M
  refine (toB_any _ _ t.text (hc.keep hA1) (by omega)).mono ?_
  rintro e w2 ⟨v2, rfl, ho2, _, hB2⟩
  obtain ⟨a2, c2, hv2, _, _⟩ := ho2.byt.shape
  subst hv2
  have r2 := ho2.rng
  have hA2 := bstep hA1 hB2
  replace l0 := l0.all hB2
  replace l1 := l1.all hB2
  replace l2 := l2.all hB2
  replace ho1 := ho1.keep hB2
  have s2 := hB2.size
  simp only [World.size_setCell] at s2 r2 ho2
  replace p := l0.cell 3
  replace q := l2.cell 2
  replace f := l2.frozen 2
  simp at p q
  have M := hide (And.intro (Loc3.store l0 l1 l2 2 (.slice a2 t.text.length c2)) (And.intro (And.intro (ho1.frm (set_frm w2 (w.heap.size + 1 + 1) 2 (.slice a2 t.text.length c2)) (fun g hg => by have := r1 g hg; have := unhide HWs; simp; omega)) (ho2.frm (set_frm w2 (w.heap.size + 1 + 1) 2 (.slice a2 t.text.length c2)) (fun g hg => by have := r2 g hg; have := unhide HWs; simp; omega))) (hA2.setCell (p := ⟨w.heap.size + 1 + 1, 2, none⟩) (by simp; omega) (.slice a2 t.text.length c2))))
  clear l0 l1 l2 ho1 ho2 hA1 hA2 hB2
  go_wp2_with fail
  -- the attributes
  obtain ⟨⟨l0, l1, l2⟩, ⟨ho1, ho2⟩, hA2⟩ := unhide M
  clear M
  refine (toAttrS_any _ _ t.attrs (hd.keep hA2) (by omega)).mono ?_
  rintro e w3 ⟨a3, c3, rfl, F3, ho3, nd3, r3, hB3⟩
  have hA3 := bstep hA2 hB3
  replace l0 := l0.all hB3
  replace l1 := l1.all hB3
  replace l2 := l2.all hB3
  replace ho1 := ho1.keep hB3
  replace ho2 := ho2.keep hB3
  have s3 := hB3.size
  simp only [World.size_setCell] at s3 r3
  replace p := l0.cell 4
  replace q := l2.cell 3
  replace f := l2.frozen 3
  simp at p q
  have M := hide (And.intro (Loc3.store l0 l1 l2 3 (.slice a3 t.attrs.length c3)) (And.intro (And.intro (ho1.frm (set_frm w3 (w.heap.size + 1 + 1) 3 (.slice a3 t.attrs.length c3)) (fun g hg => by have := r1 g hg; have := unhide HWs; simp; omega)) (And.intro (ho2.frm (set_frm w3 (w.heap.size + 1 + 1) 3 (.slice a3 t.attrs.length c3)) (fun g hg => by have := r2 g hg; have := unhide HWs; simp; omega)) (ho3.frm (set_frm w3 (w.heap.size + 1 + 1) 3 (.slice a3 t.attrs.length c3)) (fun g hg => by have := r3 g hg; have := unhide HWs; simp; omega)))) (hA3.setCell (p := ⟨w.heap.size + 1 + 1, 3, none⟩) (by simp; omega) (.slice a3 t.attrs.length c3))))
  clear l0 l1 l2 ho1 ho2 ho3 hA2 hA3 hB3
  go_wp2_with fail
  -- the kids
  obtain ⟨⟨l0, l1, l2⟩, ⟨ho1, ho2, ho3⟩, hA3⟩ := unhide M
  clear M
  refine (toNodeS_any n H _ _ t.kids (RdKids.keep he hA3) (by omega)).mono ?_
  rintro e w4 ⟨a4, c4, rfl, F4, ho4, nd4, r4, hB4⟩
  have hA4 := bstep hA3 hB4
  replace l0 := l0.all hB4
  replace l1 := l1.all hB4
  replace l2 := l2.all hB4
  replace ho1 := ho1.keep hB4
  replace ho2 := ho2.keep hB4
  replace ho3 := ho3.frm (Frm.ofBelow hB4 []) (fun _ _ => by simp)
  have s4 := hB4.size
  simp only [World.size_setCell] at s4 r4
  have g0 := l1.cell 0
  have g1 := l1.cell 1
  have g2 := l1.cell 2
  have g3 := l1.cell 3
  have g4 := l1.cell 4
  have b0 := l1.frozen 0
  have b1 := l1.frozen 1
  have b2 := l1.frozen 2
  have b3 := l1.frozen 3
  have b4 := l1.frozen 4
  have d0 := l2.cell 0
  have d1 := l2.cell 1
  have d2 := l2.cell 2
  have d3 := l2.cell 3
  have d4 := l2.cell 4
  have i4 := l2.frozen 4
  simp at g0 g1 g2 g3 g4 d0 d1 d2 d3 d4
  have hsz := unhide HWs
  obtain ⟨X, hX⟩ : ∃ X, X = (((((w4.setCell ⟨w.heap.size + 1 + 1, 4, none⟩ (.slice a4 t.kids.length c4)).setCell ⟨w.heap.size + 1, 0, none⟩ (.int .i64 t.kind)).setCell ⟨w.heap.size + 1, 1, none⟩ (.slice a1 t.name.length c1)).setCell ⟨w.heap.size + 1, 2, none⟩ (.slice a2 t.text.length c2)).setCell ⟨w.heap.size + 1, 3, none⟩ (.slice a3 t.attrs.length c3)).setCell ⟨w.heap.size + 1, 4, none⟩ (.slice a4 t.kids.length c4) := ⟨_, rfl⟩
  have hf : Frm w4 X [w.heap.size + 1 + 1, w.heap.size + 1] := by
    rw [hX]
    exact ((((((set_frm w4 _ _ _).mono (by simp)).trans ((set_frm _ _ _ _).mono (by simp))).trans ((set_frm _ _ _ _).mono (by simp))).trans ((set_frm _ _ _ _).mono (by simp))).trans ((set_frm _ _ _ _).mono (by simp))).trans ((set_frm _ _ _ _).mono (by simp))
  have fin : OwNode (n + 1) X [.int .i64 t.kind, .slice a1 t.name.length c1, .slice a2 t.text.length c2, .slice a3 t.attrs.length c3, .slice a4 t.kids.length c4] t (FB (.slice a1 t.name.length c1) ++ FB (.slice a2 t.text.length c2) ++ F3 ++ F4) :=
    ⟨_, _, _, _, F3, F4, rfl, k1, k2, (ho1.frm hf (fun g hg => by have := r1 g hg; simp; omega)).mono (Nat.zero_le _), (ho2.frm hf (fun g hg => by have := r2 g hg; simp; omega)).mono (Nat.zero_le _),
      ho3.frm hf (fun g hg => by have := r3 g hg; simp; omega), OwKids.frm ho4 hf (fun g hg => by have := r4 g hg; simp; omega), rfl⟩
  have nd : (FB (.slice a1 t.name.length c1) ++ FB (.slice a2 t.text.length c2) ++ F3 ++ F4).Nodup :=
    nodup_app (nodup_app (nodup_app (FB_nodup _) (FB_nodup _) r1 r2) nd3 ((r1.mono (Nat.le_refl _) (by omega)).app (r2.mono (by omega) (Nat.le_refl _))) r3) nd4 (((r1.mono (Nat.le_refl _) (by omega)).app (r2.mono (by omega) (by omega))).app (r3.mono (by omega) (Nat.le_refl _))) r4
  have rg : Rng (FB (.slice a1 t.name.length c1) ++ FB (.slice a2 t.text.length c2) ++ F3 ++ F4) w.heap.size X.heap.size := by
    have := hf.size
    exact (((r1.mono (by omega) (by omega)).app (r2.mono (by omega) (by omega))).app (r3.mono (by omega) (by omega))).app (r4.mono (by omega) (by omega))
  have bel := hA4.trans (hf.below hA4.size (fun g hg => by simp at hg; omega))
  subst hX
  have HP := hide (And.intro fin (And.intro nd (And.intro rg bel)))
  clear fin nd rg bel hf l0 l1 l2 ho1 ho2 ho3 ho4 hA3 hA4 hB4 r1 r2 r3 r4 nd3 nd4 hsz
  go_wp2_with fail
  obtain ⟨fin, nd, rg, bel⟩ := unhide HP
  exact bodyPost_ret (v := .agg #[.int .i64 t.kind, .slice a1 t.name.length c1, .slice a2 t.text.length c2, .slice a3 t.attrs.length c3, .slice a4 t.kids.length c4]) (by simp [results, Try.results9, go_sem, g0, g1, g2, g3, g4]) rfl ⟨t.kind, a1, _, c1, a2, _, c2, a3, _, c3, a4, _, c4, rfl, _, fin, nd, rg, bel⟩

theorem toNode_any (n : Nat) : ToNodeSaid n := by
  induction n with
  | zero => exact fun _ _ _ _ _ _ t => t.elim
  | succ n ih => exact toNode_succ n ih

end Go.Proofs.Yteioihjgjbjmjaa

/- The laws' own helper that looks for a count in attributes, by its contract. -/
namespace Go.Proofs.Yteioihjgjbjmjaa
open Go.RowKit
set_option linter.unusedVariables false
set_option maxRecDepth 100000

set_option maxHeartbeats 3200000 in
theorem heldA_any (w : World) (v : Value) (l : List (List Int × List Int)) (k : Int) (h : RdAttrs w v (mkA l k)) (hs : cntA l ≤ 4194304) (h0 : 0 ≤ k) (h1 : k ≤ 900000000) :
    Calls Try.prog 42 #[v, .int .i64 k] w fun e w' => e = .returned (.int .i64 (k + (cntA l : Nat))) ∧ w' = w := by
  have hml := h.1
  rw [mkA_len] at hml
  unfold maxLen at hml
  obtain ⟨a, cap, rfl, _, _⟩ := Elems.shape h
  rw [mkA_len] at h ⊢
  have hm' : (l.length : Int) ≤ 9223372036854775807 := by omega
  go_enter Try.func42, Try.ntmps42
  go_wp2_with fail
  go_loop [1, 5] (fun c i => ∃ j : Nat, j ≤ l.length ∧ i = .int .i64 j ∧ c = .int .i64 (k + (cntA (l.take j) : Nat))) (fun _ i => l.length - (intOf i).toNat)
  case atStart => exact ⟨0, Nat.zero_le _, rfl, by simp [cntA]⟩
  case round =>
    obtain ⟨j, hj, rfl, rfl⟩ := hrel
    by_cases hjl : j < l.length
    · have hat := mkA_at l k j hjl (by rw [mkA_len]; exact hjl)
      obtain ⟨b, off, rfl, hbl, hun, _, C, hC, hc, hr⟩ := h.at (k := j) (by rw [mkA_len]; exact hjl)
      clear hun
      rw [hat] at hr
      obtain ⟨v0, v1, rfl, hb0, hb1⟩ := hr
      have e0 := hc 0 (by omega)
      have e1 := hc 1 (by omega)
      simp only [List.getElem?_cons_zero, List.getElem?_cons_succ, Nat.add_zero] at e0 e1
      have hct := cntA_take l j hjl
      have hcl := cntA_le l (j + 1)
      obtain ⟨x, hx⟩ : ∃ x, x = l[j] := ⟨_, rfl⟩
      obtain ⟨q, hq⟩ : ∃ q : Int, q = k + (cntA (l.take j) : Nat) := ⟨_, rfl⟩
      rw [← hx] at hct hb0 hb1
      rw [← hq] at hb0 hb1 ⊢
      have hq0 : 0 ≤ q := by omega
      have hq1 : q ≤ 904194304 := by omega
      have hx1 : x.1.length ≤ 4194304 := by omega
      have hx2 : x.2.length ≤ 4194304 := by omega
      simp only at hb0 hb1
      obtain ⟨p0, k0, rfl, _, _⟩ := hb0.shape
      obtain ⟨p1, k1, rfl, _, _⟩ := hb1.shape
      rw [marks_len] at e0 e1 hb0 hb1
      have HQ := hide hq
      have HCT := hide hct
      have hjl' : (j : Int) < (l.length : Int) := by omega
      have d1 : decide (q + (x.1.length : Int) < 0) = false := by simp; omega
      have d2 : decide (q + (x.1.length : Int) + (x.2.length : Int) < 0) = false := by simp; omega
      have H0 := hide hb0
      have H1 := hide hb1
      clear hq hx hat hct hcl hb0 hb1 h hc
      go_wp2_with fail
      refine (heldB_any w _ x.1.length q (unhide H0) (Nat.le_trans hx1 (by decide)) hq0 (by omega)).mono ?_
      rintro e w ⟨rfl, rfl⟩
      go_wp2_with fail
      refine (heldB_any w _ x.2.length (q + (x.1.length : Nat)) (unhide H1) (Nat.le_trans hx2 (by decide)) (by omega) (by omega)).mono ?_
      rintro e w ⟨rfl, rfl⟩
      go_wp2_with fail
      go_round
      case rel => exact ⟨j + 1, by omega, by go_num, by rw [unhide HCT, unhide HQ]; go_num⟩
      case measure => simp [intOf]; omega
    · have e : j = l.length := by omega
      subst e
      clear h
      go_wp2_with fail
      go_ret
      exact ⟨rfl, rfl⟩
end Go.Proofs.Yteioihjgjbjmjaa

/- The laws' own helpers that look for a count in trees, by their contracts; markNode and heldNode. -/
namespace Go.Proofs.Yteioihjgjbjmjaa
open Go.RowKit
set_option linter.unusedVariables false
set_option maxRecDepth 100000

def HeldKSaid (n : Nat) : Prop := ∀ (w : World) (v : Value) (l : List (Tr n)) (k : Int), RdKids n w v (mkK n l k) → cntL (cntT n) l ≤ 4194304 → 0 ≤ k → k + (cntL (cntT n) l : Nat) ≤ 800000000 →
    Calls Try.prog 43 #[v, .int .i64 k] w fun e w' => e = .returned (.int .i64 (k + (cntL (cntT n) l : Nat))) ∧ w' = w

theorem heldK_nil (w : World) (a : Option Addr) (cap : Nat) (k : Int) :
    Calls Try.prog 43 #[.slice a 0 cap, .int .i64 k] w fun e w' => e = .returned (.int .i64 k) ∧ w' = w := by
  go_enter Try.func43, Try.ntmps43
  go_wp2_with fail
  refine wp_loop_rounds 1 ?_
  rw [rounds_succ]
  go_wp2_with fail
  go_ret
  exact ⟨rfl, rfl⟩
theorem heldK_empty (n : Nat) (w : World) (v : Value) (k : Int) (h : RdKids n w v (mkK n [] k)) :
    Calls Try.prog 43 #[v, .int .i64 k] w fun e w' => e = .returned (.int .i64 (k + (cntL (cntT n) [] : Nat))) ∧ w' = w := by
  obtain ⟨a, cap, rfl, _⟩ := Elems.shape h
  rw [mkK_len]
  refine (heldK_nil w a cap k).mono ?_
  rintro e w' ⟨rfl, rfl⟩
  exact ⟨by simp [cntL], rfl⟩

set_option maxHeartbeats 6400000 in
theorem heldK_succ (n : Nat) (H : HeldKSaid n) : HeldKSaid (n + 1) := by
  intro w v l k h hs h0 h1
  have hml := h.1
  rw [mkK_len] at hml
  unfold maxLen at hml
  obtain ⟨a, cap, rfl, _, _⟩ := Elems.shape h
  rw [mkK_len] at h ⊢
  have hm' : (l.length : Int) ≤ 9223372036854775807 := by omega
  go_enter Try.func43, Try.ntmps43
  go_wp2_with fail
  go_loop [1, 5] (fun c i => ∃ j : Nat, j ≤ l.length ∧ i = .int .i64 j ∧ c = .int .i64 (k + (cntL (cntT (n + 1)) (l.take j) : Nat))) (fun _ i => l.length - (intOf i).toNat)
  case atStart => exact ⟨0, Nat.zero_le _, rfl, by simp [cntL]⟩
  case round =>
    obtain ⟨j, hj, rfl, rfl⟩ := hrel
    by_cases hjl : j < l.length
    · have hat := mkK_at (n + 1) l k j hjl (by rw [mkK_len]; exact hjl)
      obtain ⟨b, off, rfl, hbl, hun, _, C, hC, hc, hr⟩ := h.at (k := j) (by rw [mkK_len]; exact hjl)
      clear hun
      rw [hat] at hr
      have hct := cntL_take (cntT (n + 1)) l j hjl
      have hcl := cntL_le (cntT (n + 1)) l (j + 1)
      have hcs := cntT_succ n l[j]
      obtain ⟨x, hx⟩ : ∃ x, x = l[j] := ⟨_, rfl⟩
      obtain ⟨q, hq⟩ : ∃ q : Int, q = k + (cntL (cntT (n + 1)) (l.take j) : Nat) := ⟨_, rfl⟩
      rw [← hx] at hct hcs hr
      rw [← hq] at hr ⊢
      have hq0 : 0 ≤ q := by omega
      have hq1 : q + (1 + cntT (n + 1) x : Nat) ≤ 800000000 := by omega
      rw [hcs] at hq1
      obtain ⟨v1, v2, v3, v4, rfl, _, _, hb1, hb2, hb3, hb4⟩ := hr
      replace hb1 : Byt w v1 (marks (q + 1) x.name.length) := hb1
      replace hb2 : Byt w v2 (marks (q + 1 + (x.name.length : Nat)) x.text.length) := hb2
      replace hb3 : RdAttrs w v3 (mkA x.attrs (q + 1 + (x.name.length : Nat) + (x.text.length : Nat))) := hb3
      replace hb4 : RdKids n w v4 (mkK n x.kids (q + 1 + (x.name.length : Nat) + (x.text.length : Nat) + (cntA x.attrs : Nat))) := hb4
      have c0 : w.cell? ⟨b, off + j * 5, none⟩ = some (.int .i64 q) := hc 0 (by omega)
      have c1 := hc 1 (by omega)
      have c2 := hc 2 (by omega)
      have c3 := hc 3 (by omega)
      have c4 := hc 4 (by omega)
      simp only [List.getElem?_cons_zero, List.getElem?_cons_succ] at c1 c2 c3 c4
      obtain ⟨p1, k1, hv1, _, _⟩ := hb1.shape
      obtain ⟨p2, k2, hv2, _, _⟩ := hb2.shape
      obtain ⟨p3, k3, hv3, _, _⟩ := Elems.shape hb3
      obtain ⟨p4, k4, hv4, _, _⟩ := Elems.shape hb4
      rw [marks_len] at hv1 hv2
      rw [mkA_len] at hv3
      rw [mkK_len] at hv4
      subst hv1 hv2 hv3 hv4
      have HQ := hide hq
      have HCT := hide hct
      have HCS := hide hcs
      have H1 := hide hb1
      have H2 := hide hb2
      have H3 := hide hb3
      have H4 := hide hb4
      have hx1 : x.name.length ≤ 4194304 := by omega
      have hx2 : x.text.length ≤ 4194304 := by omega
      have hx3 : cntA x.attrs ≤ 4194304 := by omega
      have hx4 : cntL (cntT n) x.kids ≤ 4194304 := by omega
      have hjl' : (j : Int) < (l.length : Int) := by omega
      have dq : (q != q) = false := by simp
      clear hq hct hcs hx hat hcl hb1 hb2 hb3 hb4 h hc
      generalize x.attrs.length = nat3 at *
      generalize x.kids.length = nk4 at *
      obtain ⟨s1, hs1⟩ : ∃ s1 : Int, s1 = q + 1 + (x.name.length : Nat) := ⟨_, rfl⟩
      obtain ⟨s2, hs2⟩ : ∃ s2 : Int, s2 = s1 + (x.text.length : Nat) := ⟨_, rfl⟩
      obtain ⟨s3, hs3⟩ : ∃ s3 : Int, s3 = s2 + (cntA x.attrs : Nat) := ⟨_, rfl⟩
      obtain ⟨s4, hs4⟩ : ∃ s4 : Int, s4 = s3 + (cntL (cntT n) x.kids : Nat) := ⟨_, rfl⟩
      rw [← hs1] at H2 H3 H4
      rw [← hs2] at H3 H4
      rw [← hs3] at H4
      have b1 : 0 ≤ s1 ∧ s1 ≤ 800000000 := by omega
      have b2 : 0 ≤ s2 ∧ s2 ≤ 800000000 := by omega
      have b3 : 0 ≤ s3 ∧ s3 + (cntL (cntT n) x.kids : Nat) ≤ 800000000 := by omega
      have b4 : 0 ≤ s4 := by omega
      have d1 : decide (s1 < 0) = false := by simp; omega
      have d2 : decide (s2 < 0) = false := by simp; omega
      have d3 : decide (s3 < 0) = false := by simp; omega
      have d4 : decide (s4 < 0) = false := by simp; omega
      have HS := hide (And.intro hs1 (And.intro hs2 (And.intro hs3 hs4)))
      clear hs1 hs2 hs3 hs4
      go_wp2_with fail
      refine (heldB_any w _ x.name.length (q + 1) (unhide H1) (Nat.le_trans hx1 (by decide)) (by omega) (by omega)).mono ?_
      rintro e w ⟨rfl, rfl⟩
      rw [← (unhide HS).1]
      go_wp2_with fail
      refine (heldB_any w _ x.text.length s1 (unhide H2) (Nat.le_trans hx2 (by decide)) b1.1 (by omega)).mono ?_
      rintro e w ⟨rfl, rfl⟩
      rw [← (unhide HS).2.1]
      go_wp2_with fail
      refine (heldA_any w _ x.attrs s2 (unhide H3) hx3 b2.1 (by omega)).mono ?_
      rintro e w ⟨rfl, rfl⟩
      rw [← (unhide HS).2.2.1]
      go_wp2_with fail
      refine (H w _ x.kids s3 (unhide H4) hx4 b3.1 b3.2).mono ?_
      rintro e w ⟨rfl, rfl⟩
      rw [← (unhide HS).2.2.2]
      go_wp2_with fail
      go_round
      case rel =>
        refine ⟨j + 1, by omega, by go_num, ?_⟩
        obtain ⟨e1, e2, e3, e4⟩ := unhide HS
        rw [unhide HCT, unhide HCS]
        have := unhide HQ
        congr 1
        omega
      case measure => simp [intOf]; omega
    · have e : j = l.length := by omega
      subst e
      clear h
      go_wp2_with fail
      go_ret
      exact ⟨rfl, rfl⟩
theorem heldK_any (n : Nat) : HeldKSaid n := by
  induction n with
  | zero =>
    intro w v l k h _ _ _
    cases l with
    | nil => exact heldK_empty 0 w v k h
    | cons x r => exact x.elim
  | succ n ih => exact heldK_succ n ih

end Go.Proofs.Yteioihjgjbjmjaa

/- heldNode, by its contract. -/
namespace Go.Proofs.Yteioihjgjbjmjaa
open Go.RowKit
set_option linter.unusedVariables false
set_option maxRecDepth 100000

set_option maxHeartbeats 3200000 in
/-- heldNode. -/
theorem heldN_any (n : Nat) (w : World) (a0 a b c d : Value) (t : Tr (n + 1)) (k : Int) (h : RdNode (n + 1) w [a0, a, b, c, d] (mkT' (n + 1) t k)) (hs : cntT (n + 1) t ≤ 4194304) (h0 : 0 ≤ k) (h1 : k + (cntT (n + 1) t : Nat) ≤ 800000000) :
    Calls Try.prog 17 #[.agg #[a0, a, b, c, d], .int .i64 k] w fun e w' => e = .returned (.int .i64 (k + (cntT (n + 1) t : Nat))) ∧ Below w.heap.size w w' := by
  obtain ⟨_, _, _, _, e0, hk1, hk2, ha, hb, hc, hd⟩ := h
  simp only [List.cons.injEq, and_true] at e0
  obtain ⟨rfl, rfl, rfl, rfl, rfl⟩ := e0
  replace ha : Byt w a (marks k t.name.length) := ha
  replace hb : Byt w b (marks (k + (t.name.length : Nat)) t.text.length) := hb
  replace hc : RdAttrs w c (mkA t.attrs (k + (t.name.length : Nat) + (t.text.length : Nat))) := hc
  replace hd : RdKids n w d (mkK n t.kids (k + (t.name.length : Nat) + (t.text.length : Nat) + (cntA t.attrs : Nat))) := hd
  obtain ⟨z, hz⟩ : ∃ z, z = (mkT' (n + 1) t k).kind := ⟨_, rfl⟩
  rw [← hz]
  clear hz hk1 hk2
  have hcs := cntT_succ n t
  rw [hcs] at hs h1 ⊢
  obtain ⟨p1, k1, hv1, _, _⟩ := ha.shape
  obtain ⟨p2, k2, hv2, _, _⟩ := hb.shape
  obtain ⟨p3, k3, hv3, _, _⟩ := Elems.shape hc
  obtain ⟨p4, k4, hv4, _, _⟩ := Elems.shape hd
  rw [marks_len] at hv1 hv2
  rw [mkA_len] at hv3
  rw [mkK_len] at hv4
  subst hv1 hv2 hv3 hv4
  have hx1 : t.name.length ≤ 4194304 := by omega
  have hx2 : t.text.length ≤ 4194304 := by omega
  have hx3 : cntA t.attrs ≤ 4194304 := by omega
  have hx4 : cntL (cntT n) t.kids ≤ 4194304 := by omega
  have hB1 : Below w.heap.size w (w.alloc (.cells #[.int .i64 z, .slice p1 t.name.length k1, .slice p2 t.text.length k2, .slice p3 t.attrs.length k3, .slice p4 t.kids.length k4] 32)) := (Below.refl _ _).alloc (Nat.le_refl _) _
  have l1 := Loc.made w #[.int .i64 z, .slice p1 t.name.length k1, .slice p2 t.text.length k2, .slice p3 t.attrs.length k3, .slice p4 t.kids.length k4] 32
  obtain ⟨s1, hs1⟩ : ∃ s1 : Int, s1 = k + (t.name.length : Nat) := ⟨_, rfl⟩
  obtain ⟨s2, hs2⟩ : ∃ s2 : Int, s2 = s1 + (t.text.length : Nat) := ⟨_, rfl⟩
  obtain ⟨s3, hs3⟩ : ∃ s3 : Int, s3 = s2 + (cntA t.attrs : Nat) := ⟨_, rfl⟩
  obtain ⟨s4, hs4⟩ : ∃ s4 : Int, s4 = s3 + (cntL (cntT n) t.kids : Nat) := ⟨_, rfl⟩
  rw [← hs1] at hb hc hd
  rw [← hs2] at hc hd
  rw [← hs3] at hd
  have b1 : 0 ≤ s1 ∧ s1 ≤ 800000000 := by omega
  have b2 : 0 ≤ s2 ∧ s2 ≤ 800000000 := by omega
  have b3 : 0 ≤ s3 ∧ s3 + (cntL (cntT n) t.kids : Nat) ≤ 800000000 := by omega
  have b4 : 0 ≤ s4 := by omega
  have d1 : decide (s1 < 0) = false := by simp; omega
  have d2 : decide (s2 < 0) = false := by simp; omega
  have d3 : decide (s3 < 0) = false := by simp; omega
  have d4 : decide (s4 < 0) = false := by simp; omega
  have hk9 : k ≤ 1000000000 := by omega
  have HS := hide (And.intro hs1 (And.intro hs2 (And.intro hs3 hs4)))
  clear hs1 hs2 hs3 hs4 hcs
  go_enter Try.func17, Try.ntmps17
  go_wp2_with fail
  generalize (w.alloc (.cells #[.int .i64 z, .slice p1 t.name.length k1, .slice p2 t.text.length k2, .slice p3 t.attrs.length k3, .slice p4 t.kids.length k4] 32)) = w1 at *
  obtain ⟨x0, x1, x2, x3, x4⟩ := l1.five
  refine (heldB_any w1 _ t.name.length k (ha.keep hB1) (Nat.le_trans hx1 (by decide)) h0 hk9).mono ?_
  rintro e w1 ⟨rfl, rfl⟩
  rw [← (unhide HS).1]
  go_wp2_with fail
  refine (heldB_any w1 _ t.text.length s1 (hb.keep hB1) (Nat.le_trans hx2 (by decide)) b1.1 (by omega)).mono ?_
  rintro e w1 ⟨rfl, rfl⟩
  rw [← (unhide HS).2.1]
  go_wp2_with fail
  refine (heldA_any w1 _ t.attrs s2 (hc.keep hB1) hx3 b2.1 (by omega)).mono ?_
  rintro e w1 ⟨rfl, rfl⟩
  rw [← (unhide HS).2.2.1]
  go_wp2_with fail
  refine (heldK_any n w1 _ t.kids s3 (RdKids.keep hd hB1) hx4 b3.1 b3.2).mono ?_
  rintro e w1 ⟨rfl, rfl⟩
  rw [← (unhide HS).2.2.2]
  go_wp2_with fail
  go_ret
  refine ⟨?_, hB1⟩
  obtain ⟨e1, e2, e3, e4⟩ := unhide HS
  refine ret_i64 ?_
  omega
end Go.Proofs.Yteioihjgjbjmjaa

/- What marks count of a tree is no more than its size. -/
namespace Go.Proofs.Yteioihjgjbjmjaa
open Go.RowKit
set_option linter.unusedVariables false

theorem cntL_sum {α : Type} (f g : α → Nat) (H : ∀ x, f x ≤ g x) : ∀ l : List α, cntL f l ≤ l.length + (l.map g).sum
  | [] => by simp [cntL]
  | x :: l => by
    have h1 := cntL_sum f g H l
    have h2 := H x
    simp only [cntL, List.map_cons, List.length_cons, List.sum_cons]
    omega
theorem cntA_sum : ∀ l : List (List Int × List Int), cntA l ≤ szA l
  | [] => by simp [cntA, szA]
  | x :: l => by
    have h1 := cntA_sum l
    unfold szA at h1 ⊢
    simp only [cntA, List.map_cons, List.length_cons, List.sum_cons]
    omega
theorem cntT_sz : ∀ (n : Nat) (t : Tr n), cntT n t ≤ szT n t
  | 0, t => t.elim
  | n + 1, t => by
    have h1 := cntA_sum t.attrs
    have h2 := cntL_sum (cntT n) (szT n) (cntT_sz n) t.kids
    have h4 : szT (n + 1) t = t.name.length + t.text.length + szA t.attrs + (t.kids.length + (t.kids.map (szT n)).sum) := rfl
    rw [cntT_succ, h4]
    omega

end Go.Proofs.Yteioihjgjbjmjaa

/- The law on Tidy, walked by its callees' contracts, both Tidys' among them: it returns true and writes nothing that was there. -/
namespace Go.Proofs.Yteioihjgjbjmjaa
open Go.RowKit
set_option linter.unusedVariables false
set_option maxRecDepth 100000

/-- What the law asks of spec's Tidy and of impl's: they tell the tree that f names, in memory of their own. -/
def TidySSaid (f : (n : Nat) → Tr (n + 1) → Tr (n + 1)) : Prop := ∀ (n : Nat) (w : World) (a b c d e : Value) (t : Tr (n + 1)) (F : List Nat), OwNode (n + 1) w [a, b, c, d, e] t F → szT (n + 1) t ≤ 2097152 →
    Calls Try.prog 14 #[.agg #[a, b, c, d, e]] w fun e w' => ∃ (kd : Int) (a1 : Option Addr) (n1 c1 : Nat) (a2 : Option Addr) (n2 c2 : Nat) (a3 : Option Addr) (n3 c3 : Nat) (a4 : Option Addr) (n4 c4 : Nat), e = .returned (.agg #[.int .i64 kd, .slice a1 n1 c1, .slice a2 n2 c2, .slice a3 n3 c3, .slice a4 n4 c4]) ∧ ∃ F, OwNode (n + 1) w' [.int .i64 kd, .slice a1 n1 c1, .slice a2 n2 c2, .slice a3 n3 c3, .slice a4 n4 c4] (f n t) F ∧ F.Nodup ∧ Rng F w.heap.size w'.heap.size ∧ Below w.heap.size w w'
def TidyISaid (f : (n : Nat) → Tr (n + 1) → Tr (n + 1)) : Prop := ∀ (n : Nat) (w : World) (a b c d e : Value) (t : Tr (n + 1)) (F : List Nat), OwNode (n + 1) w [a, b, c, d, e] t F → szT (n + 1) t ≤ 2097152 →
    Calls Try.prog 15 #[.agg #[a, b, c, d, e]] w fun e w' => ∃ (kd : Int) (a1 : Option Addr) (n1 c1 : Nat) (a2 : Option Addr) (n2 c2 : Nat) (a3 : Option Addr) (n3 c3 : Nat) (a4 : Option Addr) (n4 c4 : Nat), e = .returned (.agg #[.int .i64 kd, .slice a1 n1 c1, .slice a2 n2 c2, .slice a3 n3 c3, .slice a4 n4 c4]) ∧ ∃ F, OwNode (n + 1) w' [.int .i64 kd, .slice a1 n1 c1, .slice a2 n2 c2, .slice a3 n3 c3, .slice a4 n4 c4] (f n t) F ∧ F.Nodup ∧ Rng F w.heap.size w'.heap.size ∧ Below w.heap.size w w'

set_option maxHeartbeats 6400000 in
theorem law_tidy (f : (n : Nat) → Tr (n + 1) → Tr (n + 1)) (hS : TidySSaid f) (hI : TidyISaid f) (hf : ∀ n t, szT (n + 1) (f n t) ≤ 3 * szT (n + 1) t) (n : Nat) (w : World) (a b c d e : Value) (t : Tr (n + 1)) (h : RdNode (n + 1) w [a, b, c, d, e] t) :
    Calls Try.prog 5 #[.agg #[a, b, c, d, e]] w fun e w' => e = .returned (.bool true) ∧ Below w.heap.size w w' := by
  have h' := h
  obtain ⟨_, _, _, _, e0, k1, k2, hb, hc, hd, he⟩ := h
  simp only [List.cons.injEq, and_true] at e0
  obtain ⟨rfl, rfl, rfl, rfl, rfl⟩ := e0
  obtain ⟨ab, cb, rfl, _, _⟩ := hb.shape
  obtain ⟨ac, cc, rfl, _, _⟩ := hc.shape
  obtain ⟨ad, cd, rfl, _, _⟩ := Elems.shape hd
  obtain ⟨ae, ce, rfl, _, _⟩ := Elems.shape he
  generalize t.name.length = nb at *
  generalize t.text.length = nc at *
  generalize t.attrs.length = nd at *
  generalize t.kids.length = ne at *
  generalize hz : t.kind = z at *
  clear hb hc hd he
  have HH := hide h'
  clear h'
  have hA : Below w.heap.size w (w.alloc (.cells #[.int .i64 z, .slice ab nb cb, .slice ac nc cc, .slice ad nd cd, .slice ae ne ce] 26)) := (Below.refl _ _).alloc (Nat.le_refl _) _
  have l0 := Loc.made w #[.int .i64 z, .slice ab nb cb, .slice ac nc cc, .slice ad nd cd, .slice ae ne ce] 26
  by_cases hbig : (szT (n + 1) t : Int) ≤ 1048576
  · have hr : rest (szT (n + 1) t) 1048576 = 1048576 - (szT (n + 1) t : Int) := rest_in hbig
    have hsz : szT (n + 1) t ≤ 2097152 := by omega
    have hcn := cntT_sz (n + 1) t
    have hcf := cntT_sz (n + 1) (f n t)
    have hsf := hf n t
    have HC := hide (show cntT (n + 1) t ≤ 1048576 by omega)
    have HP := hide (show cntT (n + 1) (f n t) ≤ 3145728 by omega)
    have hr0 : decide (1048576 - (szT (n + 1) t : Int) < 0) = false := by simp; omega
    have hr1 : ¬ 1048576 - (szT (n + 1) t : Int) < 0 := by omega
    clear hcn hcf hsf hf
    go_enter Try.func5, Try.ntmps5
    go_wp2_with fail
    refine (szNode_any (n + 1) _ _ _ _ _ _ t 1048576 ((unhide HH).keep hA) (by omega) (by omega)).mono ?_
    rintro e w1 ⟨rfl, hB1⟩
    rw [hr]
    generalize 1048576 - (szT (n + 1) t : Int) = r at *
    have hA1 := bstep hA hB1
    have l1 := l0.all hB1
    obtain ⟨x0, x1, x2, x3, x4⟩ := l1.five
    go_wp2_with fail
    refine (toNode_any (n + 1) w1 _ _ _ _ _ t ((unhide HH).keep hA1) hsz).mono ?_
    rintro e w2 ⟨kd, a1, n1, c1, a2, n2, c2, a3, n3, c3, a4, n4, c4, rfl, F, ho2, hF, hR, hB2⟩
    have hA2 := bstep hA1 hB2
    have l2 := l1.all hB2
    clear x0 x1 x2 x3 x4
    go_wp2_with fail
    refine (hS n w2 _ _ _ _ _ t F ho2 hsz).mono ?_
    rintro e w3 ⟨kds, a1s, n1s, c1s, a2s, n2s, c2s, a3s, n3s, c3s, a4s, n4s, c4s, rfl, Fs, ho3, hF3, hR3, hB3⟩
    generalize hp : f n t = p at *
    have HO := hide hp
    clear hp
    have hu3 := ho3.rd
    have hA3 := bstep hA2 hB3
    have l3 := l2.all hB3
    clear ho2 hF hR ho3 hF3 hR3
    obtain ⟨x0, x1, x2, x3, x4⟩ := (l3.alloc (.cells #[.int .i64 kds, .slice a1s n1s c1s, .slice a2s n2s c2s, .slice a3s n3s c3s, .slice a4s n4s c4s] 32)).five
    go_wp2_with fail
    have hB3' : Below w3.heap.size w3 (w3.alloc (.cells #[.int .i64 kds, .slice a1s n1s c1s, .slice a2s n2s c2s, .slice a3s n3s c3s, .slice a4s n4s c4s] 32)) := (Below.refl _ _).alloc (Nat.le_refl _) _
    have p4 := Loc.made w3 #[.int .i64 kds, .slice a1s n1s c1s, .slice a2s n2s c2s, .slice a3s n3s c3s, .slice a4s n4s c4s] 32
    generalize (w3.alloc (.cells #[.int .i64 kds, .slice a1s n1s c1s, .slice a2s n2s c2s, .slice a3s n3s c3s, .slice a4s n4s c4s] 32)) = w4 at *
    have hA4 := bstep hA3 hB3'
    have l4 := l3.all hB3'
    refine (toNode_any (n + 1) w4 _ _ _ _ _ t ((unhide HH).keep hA4) hsz).mono ?_
    rintro e w5 ⟨kd', a1', n1', c1', a2', n2', c2', a3', n3', c3', a4', n4', c4', rfl, F', ho5, hF', hR', hB5⟩
    have hA5 := bstep hA4 hB5
    have l5 := l4.all hB5
    have p5 := p4.all hB5
    clear x0 x1 x2 x3 x4
    have hFS : ∀ g ∈ F', w4.heap.size ≤ g ∧ g < w5.heap.size := fun g hg => ⟨(hR' g hg).1, (hR' g hg).2⟩
    have s34 := p4.lt
    have s4 := hA4.size
    have sl := l3.lt
    have s5 := hB5.size
    go_wp2_with fail
    have hB6 : Below w5.heap.size w5 (w5.alloc (.cells #[.int .i64 kd', .slice a1' n1' c1', .slice a2' n2' c2', .slice a3' n3' c3', .slice a4' n4' c4'] 32)) := (Below.refl _ _).alloc (Nat.le_refl _) _
    have m6 := Loc.made w5 #[.int .i64 kd', .slice a1' n1' c1', .slice a2' n2' c2', .slice a3' n3' c3', .slice a4' n4' c4'] 32
    generalize (w5.alloc (.cells #[.int .i64 kd', .slice a1' n1' c1', .slice a2' n2' c2', .slice a3' n3' c3', .slice a4' n4' c4'] 32)) = w6 at *
    have hA6 := bstep hA5 hB6
    have l6 := l5.all hB6
    have p6 := p5.all hB6
    have ho6 := ho5.keep hB6
    have s6 := m6.lt
    refine (hI n w6 _ _ _ _ _ t F' ho6 hsz).mono ?_
    rintro e w7 ⟨kdg, a1g, n1g, c1g, a2g, n2g, c2g, a3g, n3g, c3g, a4g, n4g, c4g, rfl, G, hg7, hG7, hRG, hB7⟩
    rw [unhide HO] at hg7
    have hA7 := bstep hA6 hB7
    have l7 := l6.all hB7
    have p7 := p6.all hB7
    have m7 := m6.all hB7
    have ho7 := ho6.keep hB7
    have s7 := hB7.size
    obtain ⟨x0, x1, x2, x3, x4⟩ := (p7.alloc (.cells #[.int .i64 kdg, .slice a1g n1g c1g, .slice a2g n2g c2g, .slice a3g n3g c3g, .slice a4g n4g c4g] 32)).five
    go_wp2_with fail
    have hB8 : Below w7.heap.size w7 (w7.alloc (.cells #[.int .i64 kdg, .slice a1g n1g c1g, .slice a2g n2g c2g, .slice a3g n3g c3g, .slice a4g n4g c4g] 32)) := (Below.refl _ _).alloc (Nat.le_refl _) _
    have r8 := Loc.made w7 #[.int .i64 kdg, .slice a1g n1g c1g, .slice a2g n2g c2g, .slice a3g n3g c3g, .slice a4g n4g c4g] 32
    generalize (w7.alloc (.cells #[.int .i64 kdg, .slice a1g n1g c1g, .slice a2g n2g c2g, .slice a3g n3g c3g, .slice a4g n4g c4g] 32)) = w8 at *
    have hA8 := bstep hA7 hB8
    have l8 := l7.all hB8
    have p8 := p7.all hB8
    have m8 := m7.all hB8
    have ho8 := ho7.keep hB8
    have hg8 := hg7.keep hB8
    have hE8 : Below w3.heap.size w3 w8 := bstep (bstep (bstep (bstep (bstep hB3' hB5) hB6) hB7) hB8) (Below.refl _ _)
    refine (eqNode_any (n + 1) _ _ _ _ _ _ _ _ _ _ _ p hg8.rd (hu3.keep hE8)).mono ?_
    rintro e w9 ⟨rfl, hB9⟩
    have hA9 := bstep hA8 hB9
    have l9 := l8.all hB9
    have p9 := p8.all hB9
    have m9 := m8.all hB9
    have r9 := r8.all hB9
    have ho9 := ho8.keep hB9
    have hg9 := hg8.keep hB9
    have hE9 := bstep hE8 hB9
    clear x0 x1 x2 x3 x4
    obtain ⟨x0, x1, x2, x3, x4⟩ := l9.five
    obtain ⟨y0, y1, y2, y3, y4⟩ := m9.five
    go_wp2_with fail
    go_region_held3 (fun w' => w'.cell? ⟨w.heap.size, 0, none⟩ = some (.int .i64 z) ∧ w'.cell? ⟨w.heap.size, 1, none⟩ = some (.slice ab nb cb) ∧ w'.cell? ⟨w.heap.size, 2, none⟩ = some (.slice ac nc cc) ∧ w'.cell? ⟨w.heap.size, 3, none⟩ = some (.slice ad nd cd) ∧ w'.cell? ⟨w.heap.size, 4, none⟩ = some (.slice ae ne ce) ∧ w'.cell? ⟨w5.heap.size, 0, none⟩ = some (.int .i64 kd') ∧ w'.cell? ⟨w5.heap.size, 1, none⟩ = some (.slice a1' n1' c1') ∧ w'.cell? ⟨w5.heap.size, 2, none⟩ = some (.slice a2' n2' c2') ∧ w'.cell? ⟨w5.heap.size, 3, none⟩ = some (.slice a3' n3' c3') ∧ w'.cell? ⟨w5.heap.size, 4, none⟩ = some (.slice a4' n4' c4'))
      (first | exact ⟨by assumption, by assumption, by assumption, by assumption, by assumption, by assumption, by assumption, by assumption, by assumption, by assumption⟩ | simp [*])
      (first | (go_at_call 9; refine (toNode_any (n + 1) _ _ _ _ _ _ t ((unhide HH).keep (hA9.drew)) hsz).mono ?_; rintro e w10 ⟨kd7, a17, n17, c17, a27, n27, c27, a37, n37, c37, a47, n47, c47, rfl, F7, ho10, hF7, hR7, hB10⟩; obtain ⟨x0, x1, x2, x3, x4⟩ := ((l9.all ((Below.refl _ _).drew)).all hB10).five; obtain ⟨y0, y1, y2, y3, y4⟩ := ((m9.all ((Below.refl _ _).drew)).all hB10).five) | (go_at_call 11; refine (eqNode_any (n + 1) _ _ _ _ _ _ _ _ _ _ _ t ((ho9.keep ((Below.refl _ _).drew)).keep hB10).rd ho10.rd).mono ?_; rintro e w11 ⟨rfl, hB11⟩; obtain ⟨x0, x1, x2, x3, x4⟩ := (((l9.all ((Below.refl _ _).drew)).all hB10).all hB11).five; obtain ⟨y0, y1, y2, y3, y4⟩ := (((m9.all ((Below.refl _ _).drew)).all hB10).all hB11).five))
    have hB911 : Below w9.heap.size w9 w11 := bstep (bstep ((Below.refl _ _).drew) hB10) hB11
    clear hB10 hB11 ho10 hF7 hR7
    have hA11 := bstep hA9 hB911
    have l11 := l9.all hB911
    have p11 := p9.all hB911
    have m11 := m9.all hB911
    have r11 := r9.all hB911
    have ho11 := ho9.keep hB911
    have hg11 := hg9.keep hB911
    have hE11 := bstep hE9 hB911
    go_wp2_with fail
    refine (markN_any n w11 _ _ _ _ _ t F' 1 ho11 hF' (by have := unhide HC; omega) (by omega) (by have := unhide HC; omega)).mono ?_
    rintro e w12 ⟨rfl, _, hM⟩
    have hA12 : Below w.heap.size w w12 := hA11.trans (hM.below hA11.size (fun g hg => by have := (hFS g hg).1; omega))
    have hE12 : Below w3.heap.size w3 w12 := hE11.trans (hM.below hE11.size (fun g hg => by have := (hFS g hg).1; omega))
    have l12 := l11.frm hM (fun hg => by have := (hFS _ hg).1; omega)
    have p12 := p11.frm hM (fun hg => by have := (hFS _ hg).1; omega)
    have r12 := r11.frm hM (fun hg => by have := (hFS _ hg).2; omega)
    have hg12 := hg11.frm hM (fun g hg hg' => by have := (hFS _ hg').2; have := (hRG g hg).1; omega)
    clear x0 x1 x2 x3 x4 y0 y1 y2 y3 y4 hM ho5 ho6 ho7 ho8 ho9 ho11 hF'
    have hcn := unhide HC
    generalize cntT (n + 1) t = ct at *
    have hk0 : decide ((1 + (ct : Int)) < 0) = false := by simp; omega
    have hk1 : ¬ (1 + (ct : Int)) < 0 := by omega
    obtain ⟨x0, x1, x2, x3, x4⟩ := p12.five
    obtain ⟨y0, y1, y2, y3, y4⟩ := r12.five
    go_wp2_with fail
    refine (eqNode_any (n + 1) _ _ _ _ _ _ _ _ _ _ _ p hg12.rd (hu3.keep hE12)).mono ?_
    rintro e w13 ⟨rfl, hB13⟩
    have hA13 := bstep hA12 hB13
    have l13 := l12.all hB13
    have p13 := p12.all hB13
    have r13 := r12.all hB13
    have hg13 := hg12.keep hB13
    have hE13 := bstep hE12 hB13
    clear x0 x1 x2 x3 x4 y0 y1 y2 y3 y4
    obtain ⟨y0, y1, y2, y3, y4⟩ := r13.five
    go_wp2_with fail
    refine (markN_any n w13 _ _ _ _ _ p G 1 hg13 hG7 (by have := unhide HP; omega) (by omega) (by have := unhide HP; omega)).mono ?_
    rintro e w14 ⟨rfl, hg14, hM⟩
    have hA14 : Below w.heap.size w w14 := hA13.trans (hM.below hA13.size (fun g hg => by have := (hRG g hg).1; omega))
    have hE14 : Below w3.heap.size w3 w14 := hE13.trans (hM.below hE13.size (fun g hg => by have := (hRG g hg).1; omega))
    have l14 := l13.frm hM (fun hg => by have := (hRG _ hg).1; omega)
    have p14 := p13.frm hM (fun hg => by have := (hRG _ hg).1; omega)
    have r14 := r13.frm hM (fun hg => by have := (hRG _ hg).2; omega)
    clear y0 y1 y2 y3 y4 hM
    obtain ⟨y0, y1, y2, y3, y4⟩ := r14.five
    have hpn := unhide HP
    have HG14 := hide hg14
    clear hg14
    go_wp2_with fail
    refine (heldN_any n w14 _ _ _ _ _ p 1 (unhide HG14).rd (by omega) (by omega) (by omega)).mono ?_
    rintro e w15 ⟨rfl, hB15⟩
    have hA15 := bstep hA14 hB15
    have hE15 := bstep hE14 hB15
    have l15 := l14.all hB15
    have p15 := p14.all hB15
    have r15 := r14.all hB15
    clear y0 y1 y2 y3 y4
    obtain ⟨x0, x1, x2, x3, x4⟩ := l15.five
    have hq0 : decide ((1 + (cntT (n + 1) p : Int)) < 0) = false := by simp; omega
    have hq1 : ¬ (1 + (cntT (n + 1) p : Int)) < 0 := by omega
    have HPC := hide (show cntT (n + 1) p = cntT (n + 1) p from rfl)
    go_wp2_with fail
    refine (toNode_any (n + 1) w15 _ _ _ _ _ t ((unhide HH).keep hA15) hsz).mono ?_
    rintro e w16 ⟨kd8, a18, n18, c18, a28, n28, c28, a38, n38, c38, a48, n48, c48, rfl, F8, ho16, hF8, hR8, hB16⟩
    have hA16 := bstep hA15 hB16
    have hE16 := bstep hE15 hB16
    have p16 := p15.all hB16
    have r16 := r15.all hB16
    clear x0 x1 x2 x3 x4
    go_wp2_with fail
    refine (hI n w16 _ _ _ _ _ t F8 ho16 hsz).mono ?_
    rintro e w17 ⟨kd9, a19, n19, c19, a29, n29, c29, a39, n39, c39, a49, n49, c49, rfl, F9, ho17, hF9, hR9, hB17⟩
    rw [unhide HO] at ho17
    have hA17 := bstep hA16 hB17
    have hE17 := bstep hE16 hB17
    have p17 := p16.all hB17
    have r17 := r16.all hB17
    obtain ⟨x0, x1, x2, x3, x4⟩ := (p17.alloc (.cells #[.int .i64 kd9, .slice a19 n19 c19, .slice a29 n29 c29, .slice a39 n39 c39, .slice a49 n49 c49] 32)).five
    go_wp2_with fail
    have hB18 : Below w17.heap.size w17 (w17.alloc (.cells #[.int .i64 kd9, .slice a19 n19 c19, .slice a29 n29 c29, .slice a39 n39 c39, .slice a49 n49 c49] 32)) := (Below.refl _ _).alloc (Nat.le_refl _) _
    generalize (w17.alloc (.cells #[.int .i64 kd9, .slice a19 n19 c19, .slice a29 n29 c29, .slice a39 n39 c39, .slice a49 n49 c49] 32)) = w18 at *
    have hA18 := bstep hA17 hB18
    have hE18 := bstep hE17 hB18
    have r18 := r17.all hB18
    refine (eqNode_any (n + 1) _ _ _ _ _ _ _ _ _ _ _ p (ho17.keep hB18).rd (hu3.keep hE18)).mono ?_
    rintro e w19 ⟨rfl, hB19⟩
    have hA19 := bstep hA18 hB19
    have r19 := r18.all hB19
    have hg19 := (((((unhide HG14).keep hB15).keep hB16).keep hB17).keep hB18).keep hB19
    have HG19 := hide hg19
    clear hg19 x0 x1 x2 x3 x4
    obtain ⟨y0, y1, y2, y3, y4⟩ := r19.five
    go_wp2_with fail
    refine (heldN_any n w19 _ _ _ _ _ p 1 (unhide HG19).rd (by omega) (by omega) (by omega)).mono ?_
    rintro e w20 ⟨rfl, hB20⟩
    go_wp2
    go_ret
    exact ⟨rfl, bstep hA19 hB20⟩
  · have hr : rest (szT (n + 1) t) 1048576 = -1 := rest_out hbig
    go_enter Try.func5, Try.ntmps5
    go_wp2_with fail
    refine (szNode_any (n + 1) _ _ _ _ _ _ t 1048576 ((unhide HH).keep hA) (by omega) (by omega)).mono ?_
    rintro e w1 ⟨rfl, hB1⟩
    rw [hr]
    go_wp2
    go_ret
    exact ⟨rfl, bstep hA hB1⟩
end Go.Proofs.Yteioihjgjbjmjaa

/- impl.Tidy tells a tree tidied, or the zero node. -/
namespace Go.Proofs.Yteioihjgjbjmjaa
open Go.RowKit
set_option linter.unusedVariables false
set_option maxRecDepth 100000

theorem no_kids {t : Tr 1} : t.kids = [] := by
  cases h : t.kids with
  | nil => rfl
  | cons k l => exact k.elim
theorem elems_nil {α β : Type} {w : World} {size : Nat} {v : Value} {R : List Value → α → Prop} {R' : List Value → β → Prop} (h : Elems w size v ([] : List α) R) : Elems w size v ([] : List β) R' := by
  obtain ⟨h1, ⟨h2, _⟩ | ⟨x, c, h2, h3, _⟩ | ⟨b, off, c, h2, h3, h4, h5, _⟩⟩ := h
  · exact ⟨h1, .inl ⟨h2, rfl⟩⟩
  · exact ⟨h1, .inr (.inl ⟨x, c, h2, h3, rfl⟩)⟩
  · exact absurd rfl h5
theorem owElems_nil {α β : Type} {w : World} {e : TypeId} {size : Nat} {v : Value} {R : List Value → α → List Nat → Prop} {R' : List Value → β → List Nat → Prop} {F : List Nat} (h : OwElems w e size v ([] : List α) R F) : OwElems w e size v ([] : List β) R' F := by
  obtain ⟨Cs, Fs, h1, h2, _, h4, h5⟩ := h
  exact ⟨Cs, Fs, h1, h2, fun i hi => by simp at hi, h4, h5⟩
/-- A node without kids, one deeper. -/
def up1 (t : Tr 1) : Tr 2 := (⟨t.kind, t.name, t.text, t.attrs, []⟩ : Nd (Tr 1))
theorem td_all : ∀ (n : Nat) (t : Tr n), NoT n t → TdAt n t
  | 0, t, _ => t.elim
  | 1, t, h => by
    intro w a b c d e hrd hsz
    have hk := no_kids (t := t)
    have hrd2 : RdNode 2 w [a, b, c, d, e] (up1 t) := by
      obtain ⟨a1, b1, c1, d1, e0, k1, k2, hb, hc, hd, he⟩ := hrd
      rw [hk] at he
      exact ⟨a1, b1, c1, d1, e0, k1, k2, hb, hc, hd, elems_nil he⟩
    have hsz2 : szT 2 (up1 t) ≤ 2097152 := by
      have h1 : szT 2 (up1 t) = t.name.length + t.text.length + szA t.attrs + (([] : List (Tr 1)).length + (([] : List (Tr 1)).map (szT 1)).sum) := rfl
      have h2 : szT 1 t = t.name.length + t.text.length + szA t.attrs + (t.kids.length + (t.kids.map (szT 0)).sum) := rfl
      rw [h1]
      simp only [List.length_nil, List.map_nil, List.sum_nil]
      omega
    refine (tidied_core 0 (up1 t) h (fun k hm => by cases hm) w a b c d e hrd2 hsz2).mono ?_
    rintro e' w' ⟨kd, a1, n1, c1, a2, n2, c2, a3, n3, c3, a4, n4, c4, rfl, F, hO, nd, rg, hB⟩
    refine ⟨kd, a1, n1, c1, a2, n2, c2, a3, n3, c3, a4, n4, c4, rfl, F, ?_, nd, rg, hB⟩
    obtain ⟨a', b', c', d', Fc, Fd, e1, k1, k2, o1, o2, o3, o4, o5⟩ := hO
    refine ⟨a', b', c', d', Fc, Fd, e1, k1, k2, o1, o2, o3, ?_, o5⟩
    show OwElems w' 32 5 d' t.kids (OwNode 0 w') Fd
    rw [hk]
    exact owElems_nil (show OwElems w' 32 5 d' ([] : List (Tr 1)) (OwNode 1 w') Fd from o4)
  | n + 2, t, h => tidied_core n t h.1 (fun k hm hk => td_all (n + 1) k (h.2 k hm hk))

set_option maxHeartbeats 3200000 in
theorem tidyI_any : TidyISaid tidyOf := by
  intro n w a b c d e t F ho hsz
  have h := ho.rd
  clear ho
  obtain ⟨z, ab, nb, cb, ac, nc, cc, ad, nd, cd, ae, ne, ce, rfl, rfl, rfl, rfl, rfl⟩ := rd_five h
  obtain ⟨l0, l1, hB1⟩ := two w #[.int .i64 z, .slice ab nb cb, .slice ac nc cc, .slice ad nd cd, .slice ae ne ce] #[.int .i64 0, .slice none 0 0, .slice none 0 0, .slice none 0 0, .slice none 0 0] 32 32
  have c1 := nodeI_any n _ _ _ _ _ _ t (h.keep hB1) hsz
  obtain ⟨x0, x1, x2, x3, x4⟩ := l0.five
  by_cases hk : okN n t = true
  · have hf : tidyOf n t = tidyT (n + 1) t := by unfold tidyOf; exact if_pos hk
    have HT := hide (td_all (n + 1) t (noT_ok hk))
    rw [hk] at c1
    rw [hf]
    clear hk hf
    go_enter Try.func15, Try.ntmps15
    go_wp2_with fail
    refine c1.mono ?_
    rintro e w1 ⟨rfl, hb⟩
    have hb' := hB1.trans (hb.mono hB1.size)
    obtain ⟨y0, y1, y2, y3, y4⟩ := (l0.all hb).five
    have l2 := l1.all hb
    clear x0 x1 x2 x3 x4
    go_wp2_with fail
    refine (unhide HT w1 _ _ _ _ _ (h.keep hb') hsz).mono ?_
    rintro e w2 ⟨kd, a1, n1, c1, a2, n2, c2, a3, n3, c3, a4, n4, c4, rfl, G, hO, ndG, rg, hB⟩
    have l3 := l2.all hB
    obtain ⟨g0, g1, g2, g3, g4⟩ := l3.five
    have i0 := l3.frozen 0
    have i1 := l3.frozen 1
    have i2 := l3.frozen 2
    have i3 := l3.frozen 3
    have i4 := l3.frozen 4
    obtain ⟨lX, fX⟩ := store5 l3 (.int .i64 kd) (.slice a1 n1 c1) (.slice a2 n2 c2) (.slice a3 n3 c3) (.slice a4 n4 c4)
    have hlt := l2.lt
    have hOX := hO.frm fX (fun q hq hq' => by
      have := (rg q hq).1
      have e : q = w.heap.size + 1 := by simpa using hq'
      omega)
    have hbb := bstep hb' hB
    have hBX := hbb.trans (fX.below hbb.size (fun q hq => by have e : q = w.heap.size + 1 := (by simpa using hq); omega))
    have hs1 := hb'.size
    have rgX : Rng G w.heap.size _ := rg.mono hs1 fX.size
    have HF := hide (And.intro hOX (And.intro rgX hBX))
    clear hOX rgX hBX hO rg fX hB hbb y0 y1 y2 y3 y4
    go_wp2_with fail
    obtain ⟨fin, rgX, bel⟩ := unhide HF
    exact bodyPost_ret (v := .agg #[.int .i64 kd, .slice a1 n1 c1, .slice a2 n2 c2, .slice a3 n3 c3, .slice a4 n4 c4]) (by simp [results, Try.results15, go_sem, g0, g1, g2, g3, g4]) rfl ⟨kd, a1, n1, c1, a2, n2, c2, a3, n3, c3, a4, n4, c4, rfl, G, fin, ndG, rgX, bel⟩
  · have hf : tidyOf n t = (⟨0, [], [], [], []⟩ : Nd (Tr n)) := by unfold tidyOf; exact if_neg hk
    have hk' : okN n t = false := by simpa using hk
    rw [hk'] at c1
    rw [hf]
    clear hk hk' hf
    go_enter Try.func15, Try.ntmps15
    go_wp2_with fail
    refine c1.mono ?_
    rintro e w1 ⟨rfl, hb⟩
    have hb' := hB1.trans (hb.mono hB1.size)
    have l3 := l1.all hb
    obtain ⟨g0, g1, g2, g3, g4⟩ := l3.five
    have i0 := l3.frozen 0
    have i1 := l3.frozen 1
    have i2 := l3.frozen 2
    have i3 := l3.frozen 3
    have i4 := l3.frozen 4
    obtain ⟨lX, fX⟩ := store5 l3 (.int .i64 0) (.slice none 0 0) (.slice none 0 0) (.slice none 0 0) (.slice none 0 0)
    have hBX := hb'.trans (fX.below hb'.size (fun q hq => by have e : q = w.heap.size + 1 := (by simpa using hq); omega))
    have fin : ∀ W : World, OwNode (n + 1) W [.int .i64 0, .slice none 0 0, .slice none 0 0, .slice none 0 0, .slice none 0 0] (⟨0, [], [], [], []⟩ : Nd (Tr n)) [] := fun W =>
      ⟨.slice none 0 0, .slice none 0 0, .slice none 0 0, .slice none 0 0, [], [], rfl, by show (-9223372036854775808 : Int) ≤ 0; omega, by show (0 : Int) ≤ 9223372036854775807; omega, ⟨okB_nil, World.ownsRow_nil _ _ _ _⟩, ⟨okB_nil, World.ownsRow_nil _ _ _ _⟩, OwElems.none _ _ _ _, OwElems.none _ _ _ _, by simp [FB, Value.ownBlock]⟩
    have HF := hide hBX
    clear hBX fX x0 x1 x2 x3 x4
    go_wp2_with fail
    exact bodyPost_ret (v := .agg #[.int .i64 0, .slice none 0 0, .slice none 0 0, .slice none 0 0, .slice none 0 0]) (by simp [results, Try.results15, go_sem, g0, g1, g2, g3, g4]) rfl ⟨0, none, 0, 0, none, 0, 0, none, 0, 0, none, 0, 0, rfl, [], fin _, List.nodup_nil, Rng.nil _ _, unhide HF⟩
end Go.Proofs.Yteioihjgjbjmjaa

/- spec.Tidy tells a tree tidied, or the zero node; the law on Tidy. -/
namespace Go.Proofs.Yteioihjgjbjmjaa
open Go.RowKit
set_option linter.unusedVariables false
set_option maxRecDepth 100000

theorem ts_all : ∀ (n : Nat) (t : Tr n), TsAt n t
  | 0, t => t.elim
  | 1, t => by
    intro w a b c d e hrd hsz
    have hk := no_kids (t := t)
    have hrd2 : RdNode 2 w [a, b, c, d, e] (up1 t) := by
      obtain ⟨a1, b1, c1, d1, e0, k1, k2, hb, hc, hd, he⟩ := hrd
      rw [hk] at he
      exact ⟨a1, b1, c1, d1, e0, k1, k2, hb, hc, hd, elems_nil he⟩
    have hsz2 : szT 2 (up1 t) ≤ 2097152 := by
      have h1 : szT 2 (up1 t) = t.name.length + t.text.length + szA t.attrs + (([] : List (Tr 1)).length + (([] : List (Tr 1)).map (szT 1)).sum) := rfl
      have h2 : szT 1 t = t.name.length + t.text.length + szA t.attrs + (t.kids.length + (t.kids.map (szT 0)).sum) := rfl
      rw [h1]
      simp only [List.length_nil, List.map_nil, List.sum_nil]
      omega
    refine (l2tidy_core 0 (up1 t) (fun k hm => by cases hm) w a b c d e hrd2 hsz2).mono ?_
    rintro e' w' ⟨kd, a1, n1, c1, a2, n2, c2, a3, n3, c3, a4, n4, c4, rfl, F, hO, nd, rg, hB⟩
    refine ⟨kd, a1, n1, c1, a2, n2, c2, a3, n3, c3, a4, n4, c4, rfl, F, ?_, nd, rg, hB⟩
    obtain ⟨a', b', c', d', Fc, Fd, e1, k1, k2, o1, o2, o3, o4, o5⟩ := hO
    refine ⟨a', b', c', d', Fc, Fd, e1, k1, k2, o1, o2, o3, ?_, o5⟩
    show OwElems w' 32 5 d' t.kids (OwNode 0 w') Fd
    rw [hk]
    exact owElems_nil (show OwElems w' 32 5 d' ([] : List (Tr 1)) (OwNode 1 w') Fd from o4)
  | n + 2, t => l2tidy_core n t (fun k hm hk => ts_all (n + 1) k)

set_option maxHeartbeats 3200000 in
theorem tidyS_any : TidySSaid tidyOf := by
  intro n w a b c d e t F ho hsz
  have h := ho.rd
  clear ho
  obtain ⟨z, ab, nb, cb, ac, nc, cc, ad, nd, cd, ae, ne, ce, rfl, rfl, rfl, rfl, rfl⟩ := rd_five h
  obtain ⟨l0, l1, hB1⟩ := two w #[.int .i64 z, .slice ab nb cb, .slice ac nc cc, .slice ad nd cd, .slice ae ne ce] #[.int .i64 0, .slice none 0 0, .slice none 0 0, .slice none 0 0, .slice none 0 0] 32 32
  have c1 := nodeS_any n _ _ _ _ _ _ t (h.keep hB1)
  obtain ⟨x0, x1, x2, x3, x4⟩ := l0.five
  by_cases hk : okN n t = true
  · have hf : tidyOf n t = tidyT (n + 1) t := by unfold tidyOf; exact if_pos hk
    have HT := hide (ts_all (n + 1) t)
    rw [hk] at c1
    rw [hf]
    clear hk hf
    go_enter Try.func14, Try.ntmps14
    go_wp2_with fail
    refine c1.mono ?_
    rintro e w1 ⟨rfl, hb⟩
    have hb' := hB1.trans (hb.mono hB1.size)
    obtain ⟨y0, y1, y2, y3, y4⟩ := (l0.all hb).five
    have l2 := l1.all hb
    clear x0 x1 x2 x3 x4
    go_wp2_with fail
    refine (unhide HT w1 _ _ _ _ _ (h.keep hb') hsz).mono ?_
    rintro e w2 ⟨kd, a1, n1, c1, a2, n2, c2, a3, n3, c3, a4, n4, c4, rfl, G, hO, ndG, rg, hB⟩
    have l3 := l2.all hB
    obtain ⟨g0, g1, g2, g3, g4⟩ := l3.five
    have i0 := l3.frozen 0
    have i1 := l3.frozen 1
    have i2 := l3.frozen 2
    have i3 := l3.frozen 3
    have i4 := l3.frozen 4
    obtain ⟨lX, fX⟩ := store5 l3 (.int .i64 kd) (.slice a1 n1 c1) (.slice a2 n2 c2) (.slice a3 n3 c3) (.slice a4 n4 c4)
    have hlt := l2.lt
    have hOX := hO.frm fX (fun q hq hq' => by
      have := (rg q hq).1
      have e : q = w.heap.size + 1 := by simpa using hq'
      omega)
    have hbb := bstep hb' hB
    have hBX := hbb.trans (fX.below hbb.size (fun q hq => by have e : q = w.heap.size + 1 := (by simpa using hq); omega))
    have hs1 := hb'.size
    have rgX : Rng G w.heap.size _ := rg.mono hs1 fX.size
    have HF := hide (And.intro hOX (And.intro rgX hBX))
    clear hOX rgX hBX hO rg fX hB hbb y0 y1 y2 y3 y4
    go_wp2_with fail
    obtain ⟨fin, rgX, bel⟩ := unhide HF
    exact bodyPost_ret (v := .agg #[.int .i64 kd, .slice a1 n1 c1, .slice a2 n2 c2, .slice a3 n3 c3, .slice a4 n4 c4]) (by simp [results, Try.results14, go_sem, g0, g1, g2, g3, g4]) rfl ⟨kd, a1, n1, c1, a2, n2, c2, a3, n3, c3, a4, n4, c4, rfl, G, fin, ndG, rgX, bel⟩
  · have hf : tidyOf n t = (⟨0, [], [], [], []⟩ : Nd (Tr n)) := by unfold tidyOf; exact if_neg hk
    have hk' : okN n t = false := by simpa using hk
    rw [hk'] at c1
    rw [hf]
    clear hk hk' hf
    go_enter Try.func14, Try.ntmps14
    go_wp2_with fail
    refine c1.mono ?_
    rintro e w1 ⟨rfl, hb⟩
    have hb' := hB1.trans (hb.mono hB1.size)
    have l3 := l1.all hb
    obtain ⟨g0, g1, g2, g3, g4⟩ := l3.five
    have i0 := l3.frozen 0
    have i1 := l3.frozen 1
    have i2 := l3.frozen 2
    have i3 := l3.frozen 3
    have i4 := l3.frozen 4
    obtain ⟨lX, fX⟩ := store5 l3 (.int .i64 0) (.slice none 0 0) (.slice none 0 0) (.slice none 0 0) (.slice none 0 0)
    have hBX := hb'.trans (fX.below hb'.size (fun q hq => by have e : q = w.heap.size + 1 := (by simpa using hq); omega))
    have fin : ∀ W : World, OwNode (n + 1) W [.int .i64 0, .slice none 0 0, .slice none 0 0, .slice none 0 0, .slice none 0 0] (⟨0, [], [], [], []⟩ : Nd (Tr n)) [] := fun W =>
      ⟨.slice none 0 0, .slice none 0 0, .slice none 0 0, .slice none 0 0, [], [], rfl, by show (-9223372036854775808 : Int) ≤ 0; omega, by show (0 : Int) ≤ 9223372036854775807; omega, ⟨okB_nil, World.ownsRow_nil _ _ _ _⟩, ⟨okB_nil, World.ownsRow_nil _ _ _ _⟩, OwElems.none _ _ _ _, OwElems.none _ _ _ _, by simp [FB, Value.ownBlock]⟩
    have HF := hide hBX
    clear hBX fX x0 x1 x2 x3 x4
    go_wp2_with fail
    exact bodyPost_ret (v := .agg #[.int .i64 0, .slice none 0 0, .slice none 0 0, .slice none 0 0, .slice none 0 0]) (by simp [results, Try.results14, go_sem, g0, g1, g2, g3, g4]) rfl ⟨0, none, 0, 0, none, 0, 0, none, 0, 0, none, 0, 0, rfl, [], fin _, List.nodup_nil, Rng.nil _ _, unhide HF⟩
end Go.Proofs.Yteioihjgjbjmjaa
