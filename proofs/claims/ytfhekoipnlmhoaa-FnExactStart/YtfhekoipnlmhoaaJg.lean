/- Own texts joined: ToT5, CntT, LStart, OpenI. -/
import Derived.Test.YtfhekoipnlmhoaaJa
import Derived.Test.YtfhekoipnlmhoaaJb
import Derived.Test.YtfhekoipnlmhoaaJc
import Derived.Test.YtfhekoipnlmhoaaJd
import Derived.Test.YtfhekoipnlmhoaaJe
import Derived.Test.YtfhekoipnlmhoaaJf
import Derived.Deep.RegionHeld3

/- The laws' own copy of a tree, whole: the node itself. -/
namespace Go.Proofs.Ytfhekoipnlmhoaa
open Go.RowKit
set_option linter.unusedVariables false

/-- Three new blocks. -/
theorem three (w : World) (A Z Y : Array Value) (TA T : TypeId) : Loc (((w.alloc (.cells A TA)).alloc (.cells Z T)).alloc (.cells Y T)) w.heap.size A TA ∧ Loc (((w.alloc (.cells A TA)).alloc (.cells Z T)).alloc (.cells Y T)) (w.heap.size + 1) Z T ∧
    Loc (((w.alloc (.cells A TA)).alloc (.cells Z T)).alloc (.cells Y T)) (w.heap.size + 1 + 1) Y T ∧ Below w.heap.size w (((w.alloc (.cells A TA)).alloc (.cells Z T)).alloc (.cells Y T)) ∧ (((w.alloc (.cells A TA)).alloc (.cells Z T)).alloc (.cells Y T)).heap.size = w.heap.size + 3 := by
  have l0 := ((Loc.made w A TA).alloc (.cells Z T)).alloc (.cells Y T)
  have l1 := (Loc.made (w.alloc (.cells A TA)) Z T).alloc (.cells Y T)
  have l2 := Loc.made ((w.alloc (.cells A TA)).alloc (.cells Z T)) Y T
  simp only [World.size_alloc] at l1 l2
  exact ⟨l0, l1, l2, (((Below.refl _ _).alloc (Nat.le_refl _) _).alloc (by simp) _).alloc (by simp; omega) _, by simp⟩

/-- A field of a local struct is stored. -/
theorem Loc3.store {w : World} {S : Nat} {A Z Y : Array Value} {TA T : TypeId} (h0 : Loc w S A TA) (h1 : Loc w (S + 1) Z T) (h2 : Loc w (S + 1 + 1) Y T) (j : Nat) (v : Value) :
    Loc (w.setCell ⟨S + 1 + 1, j, none⟩ v) S A TA ∧ Loc (w.setCell ⟨S + 1 + 1, j, none⟩ v) (S + 1) Z T ∧ Loc (w.setCell ⟨S + 1 + 1, j, none⟩ v) (S + 1 + 1) (Y.setIfInBounds j v) T :=
  ⟨h0.other _ _ _ (by omega), h1.other _ _ _ (by omega), h2.set j v⟩

set_option maxHeartbeats 3200000 in
theorem toNode_succ (n : Nat) (H : ToNodeSaid n) : ToNodeSaid (n + 1) := by
  intro w a b c d e t hr hs
  obtain ⟨_, _, _, _, e0, k1, k2, hb, hc, hd, he⟩ := hr
  simp only [List.cons.injEq, and_true] at e0
  obtain ⟨rfl, rfl, rfl, rfl, rfl⟩ := e0
  obtain ⟨ab, cb, rfl, _, _⟩ := hb.shape
  obtain ⟨ac, cc, rfl, _, _⟩ := hc.shape
  obtain ⟨ad, cd, rfl, _, _⟩ := Elems.shape hd
  obtain ⟨ae, ce, rfl, _, _⟩ := Elems.shape he
  have hz : t.name.length + t.text.length + szA t.attrs + szK n t.kids ≤ 2097152 := hs
  clear hs
  go_enter Try.func6, Try.ntmps6
  go_wp2_with fail
  obtain ⟨l0, l1, l2, hA, hWs⟩ := three w #[.int .i64 t.kind, .slice ab t.name.length cb, .slice ac t.text.length cc, .slice ad t.attrs.length cd, .slice ae t.kids.length ce] #[.int .i64 0, .slice none 0 0, .slice none 0 0, .slice none 0 0, .slice none 0 0] #[.int .i64 t.kind, .slice none 0 0, .slice none 0 0, .slice none 0 0, .slice none 0 0] 26 31
  generalize hW : (((w.alloc (.cells #[.int .i64 t.kind, .slice ab t.name.length cb, .slice ac t.text.length cc, .slice ad t.attrs.length cd, .slice ae t.kids.length ce] 26)).alloc (.cells #[.int .i64 0, .slice none 0 0, .slice none 0 0, .slice none 0 0, .slice none 0 0] 31)).alloc (.cells #[.int .i64 t.kind, .slice none 0 0, .slice none 0 0, .slice none 0 0, .slice none 0 0] 31)) = W at *
  have HWs := hide hWs
  clear hW hWs
  -- the name
  refine (toB_any W _ t.name (hb.keep hA) (by omega)).mono ?_
  rintro e w1 ⟨v1, rfl, ho1, _, hB1⟩
  obtain ⟨a1, c1, hv1, _, _⟩ := ho1.byt.shape
  subst hv1
  have r1 := ho1.rng
  have hA1 := bstep hA hB1
  replace l0 := l0.all hB1
  replace l1 := l1.all hB1
  replace l2 := l2.all hB1
  have p := l0.cell 2
  have q := l2.cell 1
  have f := l2.frozen 1
  simp at p q
  have s1 := hB1.size
  have M := hide (And.intro (Loc3.store l0 l1 l2 1 (.slice a1 t.name.length c1)) (And.intro (ho1.frm (set_frm w1 (w.heap.size + 1 + 1) 1 (.slice a1 t.name.length c1)) (fun g hg => by have := r1 g hg; have := unhide HWs; simp; omega)) (hA1.setCell (p := ⟨w.heap.size + 1 + 1, 1, none⟩) (by simp; omega) (.slice a1 t.name.length c1))))
  clear l0 l1 l2 ho1 hA hA1 hB1
  go_wp2_with fail
  -- the text
  obtain ⟨⟨l0, l1, l2⟩, ho1, hA1⟩ := unhide M
  clear M
  refine (toB_any _ _ t.text (hc.keep hA1) (by omega)).mono ?_
  rintro e w2 ⟨v2, rfl, ho2, _, hB2⟩
  obtain ⟨a2, c2, hv2, _, _⟩ := ho2.byt.shape
  subst hv2
  have r2 := ho2.rng
  have hA2 := bstep hA1 hB2
  replace l0 := l0.all hB2
  replace l1 := l1.all hB2
  replace l2 := l2.all hB2
  replace ho1 := ho1.keep hB2
  have s2 := hB2.size
  simp only [World.size_setCell] at s2 r2 ho2
  replace p := l0.cell 3
  replace q := l2.cell 2
  replace f := l2.frozen 2
  simp at p q
  have M := hide (And.intro (Loc3.store l0 l1 l2 2 (.slice a2 t.text.length c2)) (And.intro (And.intro (ho1.frm (set_frm w2 (w.heap.size + 1 + 1) 2 (.slice a2 t.text.length c2)) (fun g hg => by have := r1 g hg; have := unhide HWs; simp; omega)) (ho2.frm (set_frm w2 (w.heap.size + 1 + 1) 2 (.slice a2 t.text.length c2)) (fun g hg => by have := r2 g hg; have := unhide HWs; simp; omega))) (hA2.setCell (p := ⟨w.heap.size + 1 + 1, 2, none⟩) (by simp; omega) (.slice a2 t.text.length c2))))
  clear l0 l1 l2 ho1 ho2 hA1 hA2 hB2
  go_wp2_with fail
  -- the attributes
  obtain ⟨⟨l0, l1, l2⟩, ⟨ho1, ho2⟩, hA2⟩ := unhide M
  clear M
  refine (toAttrS_any _ _ t.attrs (hd.keep hA2) (by omega)).mono ?_
  rintro e w3 ⟨a3, c3, rfl, F3, ho3, nd3, r3, hB3⟩
  have hA3 := bstep hA2 hB3
  replace l0 := l0.all hB3
  replace l1 := l1.all hB3
  replace l2 := l2.all hB3
  replace ho1 := ho1.keep hB3
  replace ho2 := ho2.keep hB3
  have s3 := hB3.size
  simp only [World.size_setCell] at s3 r3
  replace p := l0.cell 4
  replace q := l2.cell 3
  replace f := l2.frozen 3
  simp at p q
  have M := hide (And.intro (Loc3.store l0 l1 l2 3 (.slice a3 t.attrs.length c3)) (And.intro (And.intro (ho1.frm (set_frm w3 (w.heap.size + 1 + 1) 3 (.slice a3 t.attrs.length c3)) (fun g hg => by have := r1 g hg; have := unhide HWs; simp; omega)) (And.intro (ho2.frm (set_frm w3 (w.heap.size + 1 + 1) 3 (.slice a3 t.attrs.length c3)) (fun g hg => by have := r2 g hg; have := unhide HWs; simp; omega)) (ho3.frm (set_frm w3 (w.heap.size + 1 + 1) 3 (.slice a3 t.attrs.length c3)) (fun g hg => by have := r3 g hg; have := unhide HWs; simp; omega)))) (hA3.setCell (p := ⟨w.heap.size + 1 + 1, 3, none⟩) (by simp; omega) (.slice a3 t.attrs.length c3))))
  clear l0 l1 l2 ho1 ho2 ho3 hA2 hA3 hB3
  go_wp2_with fail
  -- the kids
  obtain ⟨⟨l0, l1, l2⟩, ⟨ho1, ho2, ho3⟩, hA3⟩ := unhide M
  clear M
  refine (toNodeS_any n H _ _ t.kids (RdKids.keep he hA3) (by omega)).mono ?_
  rintro e w4 ⟨a4, c4, rfl, F4, ho4, nd4, r4, hB4⟩
  have hA4 := bstep hA3 hB4
  replace l0 := l0.all hB4
  replace l1 := l1.all hB4
  replace l2 := l2.all hB4
  replace ho1 := ho1.keep hB4
  replace ho2 := ho2.keep hB4
  replace ho3 := ho3.frm (Frm.ofBelow hB4 []) (fun _ _ => by simp)
  have s4 := hB4.size
  simp only [World.size_setCell] at s4 r4
  have g0 := l1.cell 0
  have g1 := l1.cell 1
  have g2 := l1.cell 2
  have g3 := l1.cell 3
  have g4 := l1.cell 4
  have b0 := l1.frozen 0
  have b1 := l1.frozen 1
  have b2 := l1.frozen 2
  have b3 := l1.frozen 3
  have b4 := l1.frozen 4
  have d0 := l2.cell 0
  have d1 := l2.cell 1
  have d2 := l2.cell 2
  have d3 := l2.cell 3
  have d4 := l2.cell 4
  have i4 := l2.frozen 4
  simp at g0 g1 g2 g3 g4 d0 d1 d2 d3 d4
  have hsz := unhide HWs
  obtain ⟨X, hX⟩ : ∃ X, X = (((((w4.setCell ⟨w.heap.size + 1 + 1, 4, none⟩ (.slice a4 t.kids.length c4)).setCell ⟨w.heap.size + 1, 0, none⟩ (.int .i64 t.kind)).setCell ⟨w.heap.size + 1, 1, none⟩ (.slice a1 t.name.length c1)).setCell ⟨w.heap.size + 1, 2, none⟩ (.slice a2 t.text.length c2)).setCell ⟨w.heap.size + 1, 3, none⟩ (.slice a3 t.attrs.length c3)).setCell ⟨w.heap.size + 1, 4, none⟩ (.slice a4 t.kids.length c4) := ⟨_, rfl⟩
  have hf : Frm w4 X [w.heap.size + 1 + 1, w.heap.size + 1] := by
    rw [hX]
    exact ((((((set_frm w4 _ _ _).mono (by simp)).trans ((set_frm _ _ _ _).mono (by simp))).trans ((set_frm _ _ _ _).mono (by simp))).trans ((set_frm _ _ _ _).mono (by simp))).trans ((set_frm _ _ _ _).mono (by simp))).trans ((set_frm _ _ _ _).mono (by simp))
  have fin : OwNode (n + 1) X [.int .i64 t.kind, .slice a1 t.name.length c1, .slice a2 t.text.length c2, .slice a3 t.attrs.length c3, .slice a4 t.kids.length c4] t (FB (.slice a1 t.name.length c1) ++ FB (.slice a2 t.text.length c2) ++ F3 ++ F4) :=
    ⟨_, _, _, _, F3, F4, rfl, k1, k2, (ho1.frm hf (fun g hg => by have := r1 g hg; simp; omega)).mono (Nat.zero_le _), (ho2.frm hf (fun g hg => by have := r2 g hg; simp; omega)).mono (Nat.zero_le _),
      ho3.frm hf (fun g hg => by have := r3 g hg; simp; omega), OwKids.frm ho4 hf (fun g hg => by have := r4 g hg; simp; omega), rfl⟩
  have nd : (FB (.slice a1 t.name.length c1) ++ FB (.slice a2 t.text.length c2) ++ F3 ++ F4).Nodup :=
    nodup_app (nodup_app (nodup_app (FB_nodup _) (FB_nodup _) r1 r2) nd3 ((r1.mono (Nat.le_refl _) (by omega)).app (r2.mono (by omega) (Nat.le_refl _))) r3) nd4 (((r1.mono (Nat.le_refl _) (by omega)).app (r2.mono (by omega) (by omega))).app (r3.mono (by omega) (Nat.le_refl _))) r4
  have rg : Rng (FB (.slice a1 t.name.length c1) ++ FB (.slice a2 t.text.length c2) ++ F3 ++ F4) w.heap.size X.heap.size := by
    have := hf.size
    exact (((r1.mono (by omega) (by omega)).app (r2.mono (by omega) (by omega))).app (r3.mono (by omega) (by omega))).app (r4.mono (by omega) (by omega))
  have bel := hA4.trans (hf.below hA4.size (fun g hg => by simp at hg; omega))
  subst hX
  have HP := hide (And.intro fin (And.intro nd (And.intro rg bel)))
  clear fin nd rg bel hf l0 l1 l2 ho1 ho2 ho3 ho4 hA3 hA4 hB4 r1 r2 r3 r4 nd3 nd4 hsz
  go_wp2_with fail
  obtain ⟨fin, nd, rg, bel⟩ := unhide HP
  exact bodyPost_ret (v := .agg #[.int .i64 t.kind, .slice a1 t.name.length c1, .slice a2 t.text.length c2, .slice a3 t.attrs.length c3, .slice a4 t.kids.length c4]) (by simp [results, Try.results6, go_sem, g0, g1, g2, g3, g4]) rfl ⟨t.kind, a1, _, c1, a2, _, c2, a3, _, c3, a4, _, c4, rfl, _, fin, nd, rg, bel⟩

theorem toNode_any (n : Nat) : ToNodeSaid n := by
  induction n with
  | zero => exact fun _ _ _ _ _ _ t => t.elim
  | succ n ih => exact toNode_succ n ih

end Go.Proofs.Ytfhekoipnlmhoaa

/- What marks count of a tree is no more than its size. -/
namespace Go.Proofs.Ytfhekoipnlmhoaa
open Go.RowKit
set_option linter.unusedVariables false

theorem cntL_sum {α : Type} (f g : α → Nat) (H : ∀ x, f x ≤ g x) : ∀ l : List α, cntL f l ≤ l.length + (l.map g).sum
  | [] => by simp [cntL]
  | x :: l => by
    have h1 := cntL_sum f g H l
    have h2 := H x
    simp only [cntL, List.map_cons, List.length_cons, List.sum_cons]
    omega
theorem cntA_sum : ∀ l : List (List Int × List Int), cntA l ≤ szA l
  | [] => by simp [cntA, szA]
  | x :: l => by
    have h1 := cntA_sum l
    unfold szA at h1 ⊢
    simp only [cntA, List.map_cons, List.length_cons, List.sum_cons]
    omega
theorem cntT_sz : ∀ (n : Nat) (t : Tr n), cntT n t ≤ szT n t
  | 0, t => t.elim
  | n + 1, t => by
    have h1 := cntA_sum t.attrs
    have h2 := cntL_sum (cntT n) (szT n) (cntT_sz n) t.kids
    have h4 : szT (n + 1) t = t.name.length + t.text.length + szA t.attrs + (t.kids.length + (t.kids.map (szT n)).sum) := rfl
    rw [cntT_succ, h4]
    omega

end Go.Proofs.Ytfhekoipnlmhoaa

/- The law on Start, walked by its callees' contracts. -/
namespace Go.Proofs.Ytfhekoipnlmhoaa
open Go.RowKit
set_option linter.unusedVariables false
set_option maxRecDepth 100000

/-- What both Start tell. -/
def StSaid (f : FuncId) (n : Nat) (id : Int) (t : Tr (n + 1)) (rid : Int) (st : Tr (n + 1)) (ok : Bool) : Prop := ∀ (w : World) (a b c d e : Value), RdNode (n + 1) w [a, b, c, d, e] t → Calls Try.prog f #[.int .i64 id, .agg #[a, b, c, d, e]] w fun e w' => ∃ (zk : Int) (pk : Option Addr) (npk cpk : Nat) (qk : Option Addr) (nqk cqk : Nat) (rk : Option Addr) (nrk crk : Nat) (uk : Option Addr) (nuk cuk : Nat), e = .returned (.tuple #[.agg #[.int .i64 rid, .int .i64 0, .int .i64 zk, .slice pk npk cpk, .slice qk nqk cqk, .slice rk nrk crk, .slice uk nuk cuk, .slice none 0 0, .slice none 0 0, .bool false], .bool ok]) ∧ ∃ F, OwNode (n + 1) w' [.int .i64 zk, .slice pk npk cpk, .slice qk nqk cqk, .slice rk nrk crk, .slice uk nuk cuk] st F ∧ F.Nodup ∧ Rng F w.heap.size w'.heap.size ∧ Below w.heap.size w w'
theorem stN_cnt (n : Nat) (id : Int) (t : Tr (n + 1)) : cntT (n + 1) (stN n id t) ≤ cntT (n + 1) t := by
  cases hst : startB n id t with
  | true => rw [stN_yes hst]; exact Nat.le_refl _
  | false =>
    rw [stN_no hst]
    have : cntT (n + 1) ((⟨0, [], [], [], []⟩ : Nd (Tr n)) : Tr (n + 1)) = 0 := rfl
    omega

set_option maxHeartbeats 40000000 in
theorem law_start (n : Nat) (w : World) (id : Int) (a b c d e : Value) (t : Tr (n + 1)) (h : RdNode (n + 1) w [a, b, c, d, e] t) :
    Calls Try.prog 3 #[.int .i64 id, .agg #[a, b, c, d, e]] w fun e w' => e = .returned (.bool true) ∧ Below w.heap.size w w' := by
  obtain ⟨za, pa, npa, cpa, qa, nqa, cqa, ra, nra, cra, ua, nua, cua, rfl, rfl, rfl, rfl, rfl⟩ := rd5 h
  have HZ := hide (fun W (hW : Below w.heap.size w W) => szNode_any (n + 1) W _ _ _ _ _ t 1048576 (h.keep hW) (by omega) (by omega))
  have HT := hide (fun (hs : szT (n + 1) t ≤ 2097152) W (hW : Below w.heap.size w W) => toNode_any (n + 1) W _ _ _ _ _ t (h.keep hW) hs)
  have HST := hide (fun (hs : szT (n + 1) t ≤ 2097152) => And.intro (show StSaid 5 n id t (sId n id t) (stN n id t) (startB n id t) from fun w a b c d e h => startSA_any n w id a b c d e t h hs) (show StSaid 7 n id t (sId n id t) (stN n id t) (startB n id t) from fun w a b c d e h => startIA_any n w id a b c d e t h hs))
  have hc1 := cntT_sz (n + 1) t
  have hc2 := stN_cnt n id t
  clear h
  generalize sId n id t = rid at *
  generalize startB n id t = ok at *
  generalize stN n id t = st at *
  have hA0 := (Below.refl w.heap.size w).alloc (Nat.le_refl _) (.cells #[.int .i64 za, .slice pa npa cpa, .slice qa nqa cqa, .slice ra nra cra, .slice ua nua cua] 26)
  have l0 := Loc.made w #[.int .i64 za, .slice pa npa cpa, .slice qa nqa cqa, .slice ra nra cra, .slice ua nua cua] 26
  go_enter Try.func3, Try.ntmps3
  go_wp2_with fail
  generalize (w.alloc (.cells #[.int .i64 za, .slice pa npa cpa, .slice qa nqa cqa, .slice ra nra cra, .slice ua nua cua] 26)) = wa at *
  generalize hSS : w.heap.size = S at *
  have BS := hide (show ∀ (b c : World), Below S w b → Below b.heap.size b c → Below S w c from fun b c h k => h.trans (k.mono (by have := h.size; omega)))
  have q0 := l0.lt
  refine (unhide HZ _ hA0).mono ?_
  rintro e w1 ⟨rfl, hB⟩
  have hA1 := unhide BS _ _ hA0 hB
  have z1 := hB.size
  replace l0 := l0.all hB
  clear hA0 hB HZ
  by_cases hbig : ((szT (n + 1) t : Nat) : Int) ≤ 1048576
  case neg =>
    rw [rest_out hbig]
    go_wp2_with fail
    go_ret
    exact ⟨rfl, by rw [hSS]; exact hA1⟩
  rw [rest_in hbig]
  have hd0 : ¬ 1048576 - ((szT (n + 1) t : Nat) : Int) < 0 := by omega
  have hsz : szT (n + 1) t ≤ 2097152 := by omega
  have hct : cntT (n + 1) t ≤ 4194304 := by omega
  have hcs : cntT (n + 1) st ≤ 4194304 := by omega
  obtain ⟨HS, HI⟩ := unhide HST hsz
  replace HS := hide HS
  replace HI := hide HI
  replace HT := hide (unhide HT hsz)
  clear HST hc1 hc2
  have hne : (ok != ok) = false := by simp
  have heq : (ok == ok) = true := by simp
  obtain ⟨v0, v1, v2, v3, v4⟩ := l0.five
  go_wp2_with fail
  refine (unhide HT _ hA1).mono ?_
  rintro e w2 ⟨zb, pb, npb, cpb, qb, nqb, cqb, rb, nrb, crb, ub, nub, cub, rfl, F2, ho2, _, _, hB⟩
  have hA2 := unhide BS _ _ hA1 hB
  have z2 := hB.size
  replace l0 := l0.all hB
  clear hA1 hB v0 v1 v2 v3 v4
  go_wp2_with fail
  refine (unhide HS w2 _ _ _ _ _ ho2.rd).mono ?_
  rintro e w3 ⟨zd, pd, npd, cpd, qd, nqd, cqd, rd, nrd, crd, ud, nud, cud, rfl, F3, ho3, _, hR3, hB⟩
  have hA3 := unhide BS _ _ hA2 hB
  have z3 := hB.size
  replace l0 := l0.all hB
  clear hA2 hB ho2
  have hB : Below w3.heap.size w3 (w3.alloc (.cells #[.int .i64 rid, .int .i64 0, .int .i64 zd, .slice pd npd cpd, .slice qd nqd cqd, .slice rd nrd crd, .slice ud nud cud, .slice none 0 0, .slice none 0 0, .bool false] 35)) := (Below.refl _ _).alloc (Nat.le_refl _) _
  have l6 := Loc.made w3 #[.int .i64 rid, .int .i64 0, .int .i64 zd, .slice pd npd cpd, .slice qd nqd cqd, .slice rd nrd crd, .slice ud nud cud, .slice none 0 0, .slice none 0 0, .bool false] 35
  have VV := (l0.all hB).five
  have LL := hide (And.intro (unhide BS _ _ hA3 hB) (And.intro (l0.all hB) (And.intro l6 (And.intro (ho3.keep hB) hB.size))))
  obtain ⟨v0, v1, v2, v3, v4⟩ := VV
  clear hA3 hB l0 l6 ho3
  go_wp2_with fail
  clear v0 v1 v2 v3 v4
  obtain ⟨hA4, l0, l6, ho3, z4⟩ := unhide LL
  clear LL
  generalize (w3.alloc (.cells #[.int .i64 rid, .int .i64 0, .int .i64 zd, .slice pd npd cpd, .slice qd nqd cqd, .slice rd nrd crd, .slice ud nud cud, .slice none 0 0, .slice none 0 0, .bool false] 35)) = w4 at *
  generalize hS6 : w3.heap.size = S6 at *
  have q6 := l6.lt
  refine (unhide HT _ hA4).mono ?_
  rintro e w5 ⟨ze, pe, npe, cpe, qe, nqe, cqe, re, nre, cre, ue, nue, cue, rfl, F5, ho5, hN5, hR5, hB⟩
  have hA5 := unhide BS _ _ hA4 hB
  have z5 := hB.size
  replace l0 := l0.all hB
  replace l6 := l6.all hB
  replace ho3 := ho3.keep hB
  clear hA4 hB
  have hB : Below w5.heap.size w5 (w5.alloc (.cells #[.int .i64 ze, .slice pe npe cpe, .slice qe nqe cqe, .slice re nre cre, .slice ue nue cue] 31)) := (Below.refl _ _).alloc (Nat.le_refl _) _
  have l8 := Loc.made w5 #[.int .i64 ze, .slice pe npe cpe, .slice qe nqe cqe, .slice re nre cre, .slice ue nue cue] 31
  have LL := hide (And.intro (unhide BS _ _ hA5 hB) (And.intro (l0.all hB) (And.intro (l6.all hB) (And.intro (ho3.keep hB) (And.intro (ho5.keep hB) (And.intro l8 hB.size))))))
  clear hA5 hB l0 l6 ho3 ho5 l8
  go_wp2_with fail
  obtain ⟨hA6, l0, l6, ho3, ho5, l8, z6⟩ := unhide LL
  clear LL
  generalize (w5.alloc (.cells #[.int .i64 ze, .slice pe npe cpe, .slice qe nqe cqe, .slice re nre cre, .slice ue nue cue] 31)) = w6 at *
  generalize hS8 : w5.heap.size = S8 at *
  have q8 := l8.lt
  refine (unhide HI w6 _ _ _ _ _ ho5.rd).mono ?_
  rintro e w7 ⟨zg, pg, npg, cpg, qg, nqg, cqg, rg, nrg, crg, ug, nug, cug, rfl, F7, ho7, hN7, hR7, hB⟩
  have hA7 := unhide BS _ _ hA6 hB
  have z7 := hB.size
  replace l0 := l0.all hB
  replace l6 := l6.all hB
  replace ho3 := ho3.keep hB
  replace ho5 := ho5.keep hB
  replace l8 := l8.all hB
  clear hA6 hB
  have hB : Below w7.heap.size w7 (w7.alloc (.cells #[.int .i64 rid, .int .i64 0, .int .i64 zg, .slice pg npg cpg, .slice qg nqg cqg, .slice rg nrg crg, .slice ug nug cug, .slice none 0 0, .slice none 0 0, .bool false] 35)) := (Below.refl _ _).alloc (Nat.le_refl _) _
  have l9 := Loc.made w7 #[.int .i64 rid, .int .i64 0, .int .i64 zg, .slice pg npg cpg, .slice qg nqg cqg, .slice rg nrg crg, .slice ug nug cug, .slice none 0 0, .slice none 0 0, .bool false] 35
  have LL := hide (And.intro (unhide BS _ _ hA7 hB) (And.intro (l0.all hB) (And.intro (l6.all hB) (And.intro (ho3.keep hB) (And.intro (ho5.keep hB) (And.intro (l8.all hB) (And.intro l9 (And.intro (ho7.keep hB) hB.size))))))))
  obtain ⟨x0, x1, x2, x3, x4, x5, x6, x7, x8, x9⟩ := (l6.all hB).tenA
  obtain ⟨y0, y1, y2, y3, y4, y5, y6, y7, y8, y9⟩ := l9.tenA
  clear hA7 hB l0 l6 ho3 ho5 l8 l9 ho7
  go_wp2_with fail
  clear x0 x1 x2 x3 x4 x5 x6 x7 x8 x9 y0 y1 y2 y3 y4 y5 y6 y7 y8 y9
  obtain ⟨hA8, l0, l6, ho3, ho5, l8, l9, ho7, z8⟩ := unhide LL
  clear LL
  generalize (w7.alloc (.cells #[.int .i64 rid, .int .i64 0, .int .i64 zg, .slice pg npg cpg, .slice qg nqg cqg, .slice rg nrg crg, .slice ug nug cug, .slice none 0 0, .slice none 0 0, .bool false] 35)) = w8 at *
  generalize hS9 : w7.heap.size = S9 at *
  have q9 := l9.lt
  refine (eqRA n w8 rid _ _ _ _ _ _ _ _ _ _ _ _ _ _ _ _ _ _ _ _ _ _ _ _ _ _ st ho7.rd ho3.rd).mono ?_
  rintro e w9 ⟨rfl, hB⟩
  have hA9 := unhide BS _ _ hA8 hB
  have z9 := hB.size
  replace l0 := l0.all hB
  replace l6 := l6.all hB
  replace ho3 := ho3.keep hB
  replace ho5 := ho5.keep hB
  replace l8 := l8.all hB
  replace l9 := l9.all hB
  replace ho7 := ho7.keep hB
  clear hA8 hB
  obtain ⟨v0, v1, v2, v3, v4⟩ := l0.five
  obtain ⟨t0, t1, t2, t3, t4⟩ := l8.five
  go_wp2_with fail
  go_region_held3 (fun w' => w'.cell? ⟨S, 0, none⟩ = some (.int .i64 za) ∧ w'.cell? ⟨S, 1, none⟩ = some (.slice pa npa cpa) ∧ w'.cell? ⟨S, 2, none⟩ = some (.slice qa nqa cqa) ∧ w'.cell? ⟨S, 3, none⟩ = some (.slice ra nra cra) ∧ w'.cell? ⟨S, 4, none⟩ = some (.slice ua nua cua) ∧ w'.cell? ⟨S8, 0, none⟩ = some (.int .i64 ze) ∧ w'.cell? ⟨S8, 1, none⟩ = some (.slice pe npe cpe) ∧ w'.cell? ⟨S8, 2, none⟩ = some (.slice qe nqe cqe) ∧ w'.cell? ⟨S8, 3, none⟩ = some (.slice re nre cre) ∧ w'.cell? ⟨S8, 4, none⟩ = some (.slice ue nue cue))
    (first | exact ⟨by assumption, by assumption, by assumption, by assumption, by assumption, by assumption, by assumption, by assumption, by assumption, by assumption⟩ | simp [*])
    (first
      | (go_at_call 6; refine (unhide HT _ hA9.drew).mono ?_; rintro e w10 ⟨zh, ph, nph, cph, qh, nqh, cqh, rh, nrh, crh, uh, nuh, cuh, rfl, F10, ho10, _, _, hB10⟩; have hE10 := bstep ((Below.refl w9.heap.size w9).drew) hB10; have hD10 := unhide BS _ _ hA9 hE10; obtain ⟨v0, v1, v2, v3, v4⟩ := (l0.all hE10).five; obtain ⟨t0, t1, t2, t3, t4⟩ := (l8.all hE10).five)
      | (go_at_call 9; refine (eqNode_any (n + 1) _ _ _ _ _ _ _ _ _ _ _ t (ho5.keep hE10).rd ho10.rd).mono ?_; rintro e w11 ⟨rfl, hB11⟩; have hE11 := bstep hE10 hB11; have hD11 := unhide BS _ _ hA9 hE11; obtain ⟨v0, v1, v2, v3, v4⟩ := (l0.all hE11).five; obtain ⟨t0, t1, t2, t3, t4⟩ := (l8.all hE11).five))
  have z11 := hE11.size
  replace l0 := l0.all hE11
  replace l6 := l6.all hE11
  replace ho3 := ho3.keep hE11
  replace ho5 := ho5.keep hE11
  replace l8 := l8.all hE11
  replace l9 := l9.all hE11
  replace ho7 := ho7.keep hE11
  clear ho10 hB10 hE10 hD10 hB11 hE11 hA9 v0 v1 v2 v3 v4
  go_wp2_with fail
  clear t0 t1 t2 t3 t4
  refine (markN_any n w11 _ _ _ _ _ t F5 1 ho5 hN5 hct (by omega) (by omega)).mono ?_
  rintro e w12 ⟨rfl, _, hF⟩
  have hA12 : Below S w w12 := hD11.trans (hF.below (by have := hD11.size; omega) (fun q hq => by have := (hR5 q hq).1; omega))
  replace l0 := l0.frm hF (fun hm => by have := hR5 _ hm; omega)
  replace l6 := l6.frm hF (fun hm => by have := hR5 _ hm; omega)
  replace ho3 := ho3.frm hF (fun g hg hm => by have := hR5 _ hm; have := hR3 _ hg; omega)
  replace l9 := l9.frm hF (fun hm => by have := hR5 _ hm; omega)
  replace ho7 := ho7.frm hF (fun g hg hm => by have := hR5 _ hm; have := hR7 _ hg; omega)
  have z12 := hF.size
  clear hF ho5 hD11 hN5 l8
  have hk1 : decide (1 + ((cntT (n + 1) t : Nat) : Int) < 0) = false := by simp; omega
  obtain ⟨x0, x1, x2, x3, x4, x5, x6, x7, x8, x9⟩ := l6.tenA
  obtain ⟨y0, y1, y2, y3, y4, y5, y6, y7, y8, y9⟩ := l9.tenA
  go_wp2_with fail
  clear x0 x1 x2 x3 x4 x5 x6 x7 x8 x9 y0 y1 y2 y3 y4 y5 y6 y7 y8 y9
  refine (eqRA n w12 rid _ _ _ _ _ _ _ _ _ _ _ _ _ _ _ _ _ _ _ _ _ _ _ _ _ _ st ho7.rd ho3.rd).mono ?_
  rintro e w13 ⟨rfl, hB⟩
  have hA13 := unhide BS _ _ hA12 hB
  have z13 := hB.size
  replace l0 := l0.all hB
  replace l6 := l6.all hB
  replace ho3 := ho3.keep hB
  replace l9 := l9.all hB
  replace ho7 := ho7.keep hB
  clear hA12 hB
  obtain ⟨y0, y1, y2, y3, y4, y5, y6, y7, y8, y9⟩ := l9.tenA
  go_wp2_with fail
  clear y0 y1 y2 y3 y4 y5 y6 y7 y8 y9
  refine (markRA n w13 rid _ _ _ _ _ _ _ _ _ _ _ _ _ st F7 1 ho7 hN7 hcs (by omega) (by omega)).mono ?_
  rintro e w14 ⟨rfl, ho14, hF⟩
  have hA14 : Below S w w14 := hA13.trans (hF.below (by have := hA13.size; omega) (fun q hq => by have := (hR7 q hq).1; omega))
  replace l0 := l0.frm hF (fun hm => by have := hR7 _ hm; omega)
  replace l6 := l6.frm hF (fun hm => by have := hR7 _ hm; omega)
  replace ho3 := ho3.frm hF (fun g hg hm => by have := hR7 _ hm; have := hR3 _ hg; omega)
  replace l9 := l9.frm hF (fun hm => by have := hR7 _ hm; omega)
  clear hF ho7 hA13 hN7
  have HH := hide (fun W (hW : Below w14.heap.size w14 W) => heldRA n W rid _ _ _ _ _ _ _ _ _ _ _ _ _ st 1 (ho14.rd.keep hW) hcs (by omega) (by omega))
  have hm1 : decide (1 + ((cntT (n + 1) st : Nat) : Int) < 0) = false := by simp; omega
  generalize 1 + ((cntT (n + 1) st : Nat) : Int) = M at *
  have hm2 : (M != M) = false := by simp
  have hm3 : (M == M) = true := by simp
  clear ho14
  obtain ⟨y0, y1, y2, y3, y4, y5, y6, y7, y8, y9⟩ := l9.tenA
  go_wp2_with fail
  clear y0 y1 y2 y3 y4 y5 y6 y7 y8 y9
  refine (unhide HH w14 (Below.refl _ _)).mono ?_
  rintro e w15 ⟨rfl, hB⟩
  have hA15 := unhide BS _ _ hA14 hB
  have hK := hB
  replace l0 := l0.all hB
  clear hA14 hB
  obtain ⟨v0, v1, v2, v3, v4⟩ := l0.five
  go_wp2_with fail
  clear v0 v1 v2 v3 v4
  refine (unhide HT _ hA15).mono ?_
  rintro e w16 ⟨zi, pi, npi, cpi, qi, nqi, cqi, ri, nri, cri, ui, nui, cui, rfl, F16, ho16, _, _, hB⟩
  have hA16 := unhide BS _ _ hA15 hB
  replace hK := bstep hK hB
  clear hA15 hB
  go_wp2_with fail
  refine (unhide HI w16 _ _ _ _ _ ho16.rd).mono ?_
  rintro e w17 ⟨zj, pj, npj, cpj, qj, nqj, cqj, rj, nrj, crj, uj, nuj, cuj, rfl, F17, ho17, _, _, hB⟩
  have hA17 := unhide BS _ _ hA16 hB
  replace hK := bstep hK hB
  clear hA16 hB ho16
  have hB : Below w17.heap.size w17 (w17.alloc (.cells #[.int .i64 rid, .int .i64 0, .int .i64 zj, .slice pj npj cpj, .slice qj nqj cqj, .slice rj nrj crj, .slice uj nuj cuj, .slice none 0 0, .slice none 0 0, .bool false] 35)) := (Below.refl _ _).alloc (Nat.le_refl _) _
  have l14 := Loc.made w17 #[.int .i64 rid, .int .i64 0, .int .i64 zj, .slice pj npj cpj, .slice qj nqj cqj, .slice rj nrj crj, .slice uj nuj cuj, .slice none 0 0, .slice none 0 0, .bool false] 35
  have LL := hide (And.intro (unhide BS _ _ hA17 hB) (And.intro (bstep hK hB) (And.intro l6 (And.intro ho3 (And.intro l9 (And.intro l14 (ho17.keep hB)))))))
  obtain ⟨x0, x1, x2, x3, x4, x5, x6, x7, x8, x9⟩ := (l6.all (bstep hK hB)).tenA
  obtain ⟨y0, y1, y2, y3, y4, y5, y6, y7, y8, y9⟩ := l14.tenA
  clear hA17 hB l0 l6 ho3 l9 l14 ho17 hK
  go_wp2_with fail
  clear x0 x1 x2 x3 x4 x5 x6 x7 x8 x9 y0 y1 y2 y3 y4 y5 y6 y7 y8 y9
  obtain ⟨hA18, hK, l6, ho3, l9, l14, ho17⟩ := unhide LL
  clear LL
  generalize (w17.alloc (.cells #[.int .i64 rid, .int .i64 0, .int .i64 zj, .slice pj npj cpj, .slice qj nqj cqj, .slice rj nrj crj, .slice uj nuj cuj, .slice none 0 0, .slice none 0 0, .bool false] 35)) = w18 at *
  refine (eqRA n w18 rid _ _ _ _ _ _ _ _ _ _ _ _ _ _ _ _ _ _ _ _ _ _ _ _ _ _ st ho17.rd (ho3.keep hK).rd).mono ?_
  rintro e w19 ⟨rfl, hB⟩
  have hA19 := unhide BS _ _ hA18 hB
  replace hK := bstep hK hB
  clear hA18 hB ho17 ho3 l6 l14
  obtain ⟨y0, y1, y2, y3, y4, y5, y6, y7, y8, y9⟩ := (l9.all hK).tenA
  clear l9
  go_wp2_with fail
  clear y0 y1 y2 y3 y4 y5 y6 y7 y8 y9
  refine (unhide HH w19 hK).mono ?_
  rintro e w20 ⟨rfl, hB⟩
  have hA20 := unhide BS _ _ hA19 hB
  go_wp2_with fail
  go_ret
  exact ⟨rfl, by rw [hSS]; exact hA20⟩
end Go.Proofs.Ytfhekoipnlmhoaa

/- An argument of a law that can be read as data is a number. No condition. -/
namespace Go.Proofs.Ytfhekoipnlmhoaa
open Go.RowKit Go.ChangeShapes
set_option linter.unusedVariables false
set_option maxRecDepth 100000

variable {H : Type} {enc : TypeId × Value → H} {W : World} {held : Bool}

theorem arg_int {r : Reach} {base : Nat} {v : Value} {d : DataW H} {p : List MemPlace} (hv : Value.okWide Try.prog W r base 3 v) (h : DataW.Trod enc Try.prog W 0 (fun _ => true) held 3 v d p) : ∃ z : Int, v = .int .i64 z ∧ True := by
  obtain ⟨z, e⟩ := WideShapes.okWide_int Try.underlying3 hv
  exact ⟨z, e, trivial⟩
end Go.Proofs.Ytfhekoipnlmhoaa
