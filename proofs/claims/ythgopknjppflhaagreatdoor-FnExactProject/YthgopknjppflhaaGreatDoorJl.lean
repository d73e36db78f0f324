/- Own texts joined: LProj. -/
import Derived.Test.YthgopknjppflhaaGreatDoorJa
import Derived.Test.YthgopknjppflhaaGreatDoorJb
import Derived.Test.YthgopknjppflhaaGreatDoorJc
import Derived.Test.YthgopknjppflhaaGreatDoorJd
import Derived.Test.YthgopknjppflhaaGreatDoorJe
import Derived.Test.YthgopknjppflhaaGreatDoorJf
import Derived.Test.YthgopknjppflhaaGreatDoorJg
import Derived.Test.YthgopknjppflhaaGreatDoorJh
import Derived.Test.YthgopknjppflhaaGreatDoorJi
import Derived.Test.YthgopknjppflhaaGreatDoorJj
import Derived.Test.YthgopknjppflhaaGreatDoorJk
import Derived.Deep.RegionHeld3
import Derived.Deep.CutBlock

/- The law on Project, walked by its callees' contracts. -/
namespace Go.Proofs.YthgopknjppflhaaGreatDoor
open Go.RowKit
set_option linter.unusedVariables false
set_option maxRecDepth 100000

/-- What both Project tell. -/
def PjSaid (f : FuncId) (l : List PlV) (fb : Bool) (t : Tr 20) : Prop := ∀ (W : World) (a : Option Addr) (c : Nat) (F : List Nat), OwPlsM W (.slice a l.length c) l F → Glo W → Calls Tryz.prog f #[.agg #[.slice a l.length c]] W fun e w' => ∃ (kd : Int) (a1 : Option Addr) (n1 c1 : Nat) (a2 : Option Addr) (n2 c2 : Nat) (a3 : Option Addr) (n3 c3 : Nat) (a4 : Option Addr) (n4 c4 : Nat), e = .returned (.tuple #[.agg #[.int .i64 kd, .slice a1 n1 c1, .slice a2 n2 c2, .slice a3 n3 c3, .slice a4 n4 c4], .bool fb]) ∧ ∃ G, OwNode 20 w' [.int .i64 kd, .slice a1 n1 c1, .slice a2 n2 c2, .slice a3 n3 c3, .slice a4 n4 c4] t G ∧ G.Nodup ∧ Rng G W.heap.size w'.heap.size ∧ Below W.heap.size W w'
theorem pjS_said {l : List PlV} (hb : ∀ p ∈ l, bndP p) : PjSaid 5 l (stB l) (pjR l) := by
  intro W a c F h _
  have hc := pjS_any W a c l F h (fun p hp => (hb p hp).1)
  unfold PjA at hc
  exact hc
theorem pjI_said {l : List PlV} (hb : ∀ p ∈ l, bndP p) : PjSaid 7 l (stB l) (pjR l) := by
  intro W a c F h hG
  have hc := pjI_any W a c l (OwPlsM.rd h) (fun p hp => (hb p hp).1) (fun p hp => (hb p hp).2) hG
  unfold PjA at hc
  exact hc

set_option maxHeartbeats 40000000 in
theorem law_proj (w : World) (v : Value) (l : List PlV) (h : RdPls w v l) (hb : ∀ p ∈ l, bndP p) (hG : Glo w) :
    Calls Tryz.prog 3 #[.agg #[v]] w fun e w' => e = .returned (.bool true) ∧ Below w.heap.size w w' := by
  have HG := hide (fun W (hW : Below w.heap.size w W) => hG.keep hW)
  have HZ := hide (fun W (hW : Below w.heap.size w W) => szSt_any W v l 1048576 (h.keep hW) (by omega) (by omega))
  have HT := hide (fun W (hW : Below w.heap.size w W) hs => toSt_any W v l (h.keep hW) hs)
  obtain ⟨av, cv, rfl, _, _⟩ := Elems.shape h
  have HS := hide (pjS_said hb)
  have HI := hide (pjI_said hb)
  have hct : cntT (19 + 1) (pjR l) ≤ 24120 := Nat.le_trans (cntT_sz 20 (pjR l)) (pjR_sz l)
  clear h hb hG
  have hcl := cntPls_sz l
  have HCA := hide (fun x (hx : x ∈ l) => cntPls_each hx)
  generalize pjR l = t at *
  generalize stB l = fb at *
  have hA0 := (Below.refl w.heap.size w).alloc (Nat.le_refl _) (.cells #[.slice av l.length cv] 24)
  have l0 := Loc.made w #[.slice av l.length cv] 24
  have x0 := l0.cell 0
  simp only [List.getElem?_toArray, List.getElem?_cons_zero] at x0
  go_enter Tryz.func3, Tryz.ntmps3
  go_wp2_with fail
  generalize (w.alloc (.cells #[.slice av l.length cv] 24)) = wa at *
  generalize hSS : w.heap.size = S at *
  have BS := hide (show ∀ (b c : World), Below S w b → Below b.heap.size b c → Below S w c from fun b c h k => h.trans (k.mono (by have := h.size; omega)))
  have q0 := l0.lt
  refine (unhide HZ _ hA0).mono ?_
  rintro e w1 ⟨rfl, hB⟩
  have hA1 := unhide BS _ _ hA0 hB
  have l1 := l0.all hB
  have z1 := hB.size
  clear hA0 l0 hB HZ x0
  by_cases hbig : ((szPls l : Nat) : Int) ≤ 1048576
  case neg =>
    rw [rest_out hbig]
    go_wp2_with fail
    go_ret
    exact ⟨rfl, by rw [hSS]; exact hA1⟩
  rw [rest_in hbig]
  have hd0 : ¬ 1048576 - ((szPls l : Nat) : Int) < 0 := by omega
  have hs1 : szPls l ≤ 2097152 := by omega
  have hcl2 : cntPls l ≤ 8388608 := by omega
  replace HCA := hide (fun (x : PlV) hx => (show cntA x.attrs ≤ 4194304 by have := unhide HCA x hx; omega))
  replace HT := hide (fun W hW => unhide HT W hW hs1)
  clear hcl hbig hs1
  generalize ((szPls l : Nat) : Int) = zz at *
  have hne : (fb != fb) = false := by simp
  have heq : (fb == fb) = true := by simp
  have HCO := hide hcl2
  have HCT := hide hct
  have hD := hA1
  have l0 := l1
  clear hcl2 hct hA1 l1
  have x0 := l0.cell 0
  simp only [List.getElem?_toArray, List.getElem?_cons_zero] at x0
  go_wp2_with fail
  clear x0
  refine (unhide HT _ hD).mono ?_
  rintro e wb ⟨a3, c3, rfl, F3, o3_, nd3, rg3, hB⟩
  replace hD := unhide BS _ _ hD hB
  replace l0 := l0.all hB
  have zb := hB.size
  clear hB
  go_wp2_with fail
  refine (unhide HS _ _ _ _ (OwPls.toM o3_) (unhide HG _ hD)).mono ?_
  rintro e w3 ⟨k5, a51, n51, c51, a52, n52, c52, a53, n53, c53, a54, n54, c54, rfl, FV, oV, ndV, rgV, hB⟩
  clear o3_ nd3 rg3 HS
  replace hD := unhide BS _ _ hD hB
  replace l0 := l0.all hB
  have z3 := hB.size
  clear hB
  have hB : Below w3.heap.size w3 (w3.alloc (.cells #[.int .i64 k5, .slice a51 n51 c51, .slice a52 n52 c52, .slice a53 n53 c53, .slice a54 n54 c54] 30)) := (Below.refl _ _).alloc (Nat.le_refl _) _
  have lg := Loc.made w3 #[.int .i64 k5, .slice a51 n51 c51, .slice a52 n52 c52, .slice a53 n53 c53, .slice a54 n54 c54] 30
  replace oV := oV.keep hB
  replace hD := unhide BS _ _ hD hB
  replace l0 := l0.all hB
  have z4 := hB.size
  clear hB
  have LL := hide (And.intro hD (And.intro l0 (And.intro lg (oV))))
  clear hD l0 lg oV
  go_upto_region 6 with fail
  generalize (w3.alloc (.cells #[.int .i64 k5, .slice a51 n51 c51, .slice a52 n52 c52, .slice a53 n53 c53, .slice a54 n54 c54] 30)) = w4 at *
  obtain ⟨hD, l0, lg, oV⟩ := unhide LL
  clear LL
  generalize hSSg : w3.heap.size = Sg at *
  have qSg := lg.lt
  have x0 := l0.cell 0
  simp only [List.getElem?_toArray, List.getElem?_cons_zero] at x0
  go_wp2_with fail
  clear x0
  refine (unhide HT _ hD).mono ?_
  rintro e w5 ⟨a4, c4, rfl, F4, o4p, nd4, rg4, hB⟩
  have o4_ := OwPls.toM o4p
  clear o4p
  replace hD := unhide BS _ _ hD hB
  replace l0 := l0.all hB
  replace lg := lg.all hB
  replace oV := oV.keep hB
  have z5 := hB.size
  clear hB
  have hB : Below w5.heap.size w5 (w5.alloc (.cells #[.slice a4 l.length c4] 35)) := (Below.refl _ _).alloc (Nat.le_refl _) _
  have l4 := Loc.made w5 #[.slice a4 l.length c4] 35
  replace o4_ := o4_.keep hB
  replace hD := unhide BS _ _ hD hB
  replace l0 := l0.all hB
  replace lg := lg.all hB
  replace oV := oV.keep hB
  have z6 := hB.size
  clear hB
  have LL := hide (And.intro hD (And.intro l0 (And.intro lg (And.intro l4 (And.intro oV (o4_))))))
  clear hD l0 lg l4 oV o4_
  go_upto_region 7 with fail
  generalize (w5.alloc (.cells #[.slice a4 l.length c4] 35)) = w6 at *
  obtain ⟨hD, l0, lg, l4, oV, o4_⟩ := unhide LL
  clear LL
  generalize hSS4 : w5.heap.size = S4 at *
  have qS4 := l4.lt
  have x4 := l4.cell 0
  simp only [List.getElem?_toArray, List.getElem?_cons_zero] at x4
  go_wp2_with fail
  clear x4
  refine (unhide HI _ _ _ _ o4_ (unhide HG _ hD)).mono ?_
  rintro e w8 ⟨k8, a81, n81, c81, a82, n82, c82, a83, n83, c83, a84, n84, c84, rfl, F8, o8_, nd8, rg8, hB⟩
  replace hD := unhide BS _ _ hD hB
  replace l0 := l0.all hB
  replace lg := lg.all hB
  replace l4 := l4.all hB
  replace oV := oV.keep hB
  replace o4_ := o4_.keep hB
  have z8 := hB.size
  clear hB
  have hB : Below w8.heap.size w8 (w8.alloc (.cells #[.int .i64 k8, .slice a81 n81 c81, .slice a82 n82 c82, .slice a83 n83 c83, .slice a84 n84 c84] 30)) := (Below.refl _ _).alloc (Nat.le_refl _) _
  have l8 := Loc.made w8 #[.int .i64 k8, .slice a81 n81 c81, .slice a82 n82 c82, .slice a83 n83 c83, .slice a84 n84 c84] 30
  replace o8_ := o8_.keep hB
  replace hD := unhide BS _ _ hD hB
  replace l0 := l0.all hB
  replace lg := lg.all hB
  replace l4 := l4.all hB
  replace oV := oV.keep hB
  replace o4_ := o4_.keep hB
  have z9 := hB.size
  clear hB
  have LL := hide (And.intro hD (And.intro l0 (And.intro lg (And.intro l4 (And.intro l8 (And.intro oV (And.intro o4_ (o8_))))))))
  clear hD l0 lg l4 l8 oV o4_ o8_
  go_upto_region 8 with fail
  generalize (w8.alloc (.cells #[.int .i64 k8, .slice a81 n81 c81, .slice a82 n82 c82, .slice a83 n83 c83, .slice a84 n84 c84] 30)) = w9 at *
  obtain ⟨hD, l0, lg, l4, l8, oV, o4_, o8_⟩ := unhide LL
  clear LL
  generalize hSS8 : w8.heap.size = S8 at *
  have qS8 := l8.lt
  obtain ⟨xa0, xa1, xa2, xa3, xa4⟩ := lg.five
  obtain ⟨ya0, ya1, ya2, ya3, ya4⟩ := l8.five
  go_wp2_with fail
  clear xa0 xa1 xa2 xa3 xa4 ya0 ya1 ya2 ya3 ya4
  refine (eqNode_any 20 _ _ _ _ _ _ _ _ _ _ _ t o8_.rd oV.rd).mono ?_
  rintro e w10 ⟨rfl, hB⟩
  replace hD := unhide BS _ _ hD hB
  replace l0 := l0.all hB
  replace lg := lg.all hB
  replace l4 := l4.all hB
  replace l8 := l8.all hB
  replace oV := oV.keep hB
  replace o4_ := o4_.keep hB
  replace o8_ := o8_.keep hB
  have z10 := hB.size
  clear hB
  have x0 := l0.cell 0
  simp only [List.getElem?_toArray, List.getElem?_cons_zero] at x0
  have x4 := l4.cell 0
  simp only [List.getElem?_toArray, List.getElem?_cons_zero] at x4
  go_wp2_with fail
  go_region_held3 (fun w' => w'.cell? ⟨S, 0, none⟩ = some (.slice av l.length cv) ∧ w'.cell? ⟨S4, 0, none⟩ = some (.slice a4 l.length c4))
    (first | exact ⟨by assumption, by assumption⟩ | simp [*])
    (first
      | (go_at_call 6; refine (unhide HT _ hD.drew).mono ?_; rintro e w11 ⟨ae, ce, rfl, F11, o11, _, _, hB11⟩; have hE11 := bstep ((Below.refl w10.heap.size w10).drew) hB11; have x0 := (l0.all hE11).cell 0; have x4 := (l4.all hE11).cell 0; simp only [List.getElem?_toArray, List.getElem?_cons_zero] at x0 x4)
      | (go_at_call 9; refine (eqSt_same _ _ _ l (OwPlsM.rd (o4_.keep hE11)) (OwPls.rd o11)).mono ?_; rintro e w12 ⟨rfl, hB12⟩; have hE12 := bstep hE11 hB12; have x0 := (l0.all hE12).cell 0; have x4 := (l4.all hE12).cell 0; simp only [List.getElem?_toArray, List.getElem?_cons_zero] at x0 x4))
  clear o11 hB11 hE11 hB12 x0 x4
  replace hD := unhide BS _ _ hD hE12
  replace l0 := l0.all hE12
  replace lg := lg.all hE12
  replace l4 := l4.all hE12
  replace l8 := l8.all hE12
  replace oV := oV.keep hE12
  replace o4_ := o4_.keep hE12
  replace o8_ := o8_.keep hE12
  have z12 := hE12.size
  clear hE12
  have x4 := l4.cell 0
  simp only [List.getElem?_toArray, List.getElem?_cons_zero] at x4
  go_wp2_with fail
  clear x4
  refine (markSt_any w12 _ l F4 1 o4_ nd4 (unhide HCO) (unhide HCA) (by omega) (by omega)).mono ?_
  rintro e w16 ⟨rfl, _, hF⟩
  replace hD := hD.trans (hF.below (by have := hD.size; omega) (fun q hq => by have := (rg4 q hq).1; omega))
  replace l0 := l0.frm hF (fun hm => by have := rg4 _ hm; omega)
  replace lg := lg.frm hF (fun hm => by have := rg4 _ hm; omega)
  replace l8 := l8.frm hF (fun hm => by have := rg4 _ hm; omega)
  replace oV := OwNode.frm oV hF (fun q hq hm => by have := rg4 _ hm; have := rgV _ hq; omega)
  replace o8_ := OwNode.frm o8_ hF (fun q hq hm => by have := rg4 _ hm; have := rg8 _ hq; omega)
  have z16 := hF.size
  clear hF o4_ l4 nd4
  have hk3 : decide (1 + ((cntPls l : Nat) : Int) < 0) = false := by simp; omega
  generalize 1 + ((cntPls l : Nat) : Int) = K at *
  obtain ⟨xa0, xa1, xa2, xa3, xa4⟩ := lg.five
  obtain ⟨ya0, ya1, ya2, ya3, ya4⟩ := l8.five
  go_wp2_with fail
  clear xa0 xa1 xa2 xa3 xa4 ya0 ya1 ya2 ya3 ya4
  refine (eqNode_any 20 _ _ _ _ _ _ _ _ _ _ _ t o8_.rd oV.rd).mono ?_
  rintro e w18 ⟨rfl, hB⟩
  replace hD := unhide BS _ _ hD hB
  replace l0 := l0.all hB
  replace lg := lg.all hB
  replace l8 := l8.all hB
  replace oV := oV.keep hB
  replace o8_ := o8_.keep hB
  have z18 := hB.size
  clear hB
  obtain ⟨ya0, ya1, ya2, ya3, ya4⟩ := l8.five
  go_wp2_with fail
  clear ya0 ya1 ya2 ya3 ya4
  refine (markN_any 19 w18 _ _ _ _ _ t F8 1 o8_ nd8 (by have := unhide HCT; omega) (by omega) (by have := unhide HCT; omega)).mono ?_
  rintro e w19 ⟨rfl, om, hF⟩
  replace hD := hD.trans (hF.below (by have := hD.size; omega) (fun q hq => by have := (rg8 q hq).1; omega))
  replace l0 := l0.frm hF (fun hm => by have := rg8 _ hm; omega)
  replace lg := lg.frm hF (fun hm => by have := rg8 _ hm; omega)
  replace l8 := l8.frm hF (fun hm => by have := rg8 _ hm; omega)
  replace oV := OwNode.frm oV hF (fun q hq hm => by have := rg8 _ hm; have := rgV _ hq; omega)
  have z19 := hF.size
  clear hF o8_ nd8
  have HH := hide (fun W (hW : Below w19.heap.size w19 W) => heldN_any 19 W _ _ _ _ _ t 1 ((OwNode.rd om).keep hW) (by have := unhide HCT; omega) (by omega) (by have := unhide HCT; omega))
  have hct9 := unhide HCT
  have hm1 : decide (1 + ((cntT (19 + 1) t : Nat) : Int) < 0) = false := by simp; omega
  clear hct9
  generalize 1 + ((cntT (19 + 1) t : Nat) : Int) = M at *
  have hm2 : (M != M) = false := by simp
  have hm3 : (M == M) = true := by simp
  clear om
  obtain ⟨ya0, ya1, ya2, ya3, ya4⟩ := l8.five
  go_wp2_with fail
  clear ya0 ya1 ya2 ya3 ya4
  refine (unhide HH w19 (Below.refl _ _)).mono ?_
  rintro e w20 ⟨rfl, hB⟩
  replace HH := hide (fun W (hW : Below w20.heap.size w20 W) => unhide HH W (bstep hB hW))
  replace hD := unhide BS _ _ hD hB
  replace l0 := l0.all hB
  replace lg := lg.all hB
  replace l8 := l8.all hB
  replace oV := oV.keep hB
  have z20 := hB.size
  clear hB
  have x0 := l0.cell 0
  simp only [List.getElem?_toArray, List.getElem?_cons_zero] at x0
  go_wp2_with fail
  clear x0
  refine (unhide HT _ hD).mono ?_
  rintro e w21 ⟨a7, c7, rfl, F7, o7_, nd7, rg7, hB⟩
  replace HH := hide (fun W (hW : Below w21.heap.size w21 W) => unhide HH W (bstep hB hW))
  replace hD := unhide BS _ _ hD hB
  replace l0 := l0.all hB
  replace lg := lg.all hB
  replace l8 := l8.all hB
  replace oV := oV.keep hB
  have z21 := hB.size
  clear hB
  go_wp2_with fail
  refine (unhide HI _ _ _ _ (OwPls.toM o7_) (unhide HG _ hD)).mono ?_
  rintro e w23 ⟨k9, a91, n91, c91, a92, n92, c92, a93, n93, c93, a94, n94, c94, rfl, F9, o9_, nd9, rg9, hB⟩
  replace HH := hide (fun W (hW : Below w23.heap.size w23 W) => unhide HH W (bstep hB hW))
  clear o7_
  replace hD := unhide BS _ _ hD hB
  replace l0 := l0.all hB
  replace lg := lg.all hB
  replace l8 := l8.all hB
  replace oV := oV.keep hB
  have z23 := hB.size
  clear hB
  have hB : Below w23.heap.size w23 (w23.alloc (.cells #[.int .i64 k9, .slice a91 n91 c91, .slice a92 n92 c92, .slice a93 n93 c93, .slice a94 n94 c94] 30)) := (Below.refl _ _).alloc (Nat.le_refl _) _
  replace HH := hide (fun W (hW : Below (w23.alloc (.cells #[.int .i64 k9, .slice a91 n91 c91, .slice a92 n92 c92, .slice a93 n93 c93, .slice a94 n94 c94] 30)).heap.size (w23.alloc (.cells #[.int .i64 k9, .slice a91 n91 c91, .slice a92 n92 c92, .slice a93 n93 c93, .slice a94 n94 c94] 30)) W) => unhide HH W (bstep hB hW))
  clear hB
  have hB : Below w23.heap.size w23 (w23.alloc (.cells #[.int .i64 k9, .slice a91 n91 c91, .slice a92 n92 c92, .slice a93 n93 c93, .slice a94 n94 c94] 30)) := (Below.refl _ _).alloc (Nat.le_refl _) _
  have l9 := Loc.made w23 #[.int .i64 k9, .slice a91 n91 c91, .slice a92 n92 c92, .slice a93 n93 c93, .slice a94 n94 c94] 30
  replace o9_ := o9_.keep hB
  replace hD := unhide BS _ _ hD hB
  replace l0 := l0.all hB
  replace lg := lg.all hB
  replace l8 := l8.all hB
  replace oV := oV.keep hB
  have z24 := hB.size
  clear hB
  have LL := hide (And.intro hD (And.intro l0 (And.intro lg (And.intro l8 (And.intro l9 (And.intro oV (o9_)))))))
  clear hD l0 lg l8 l9 oV o9_
  go_upto_region 25 with fail
  generalize (w23.alloc (.cells #[.int .i64 k9, .slice a91 n91 c91, .slice a92 n92 c92, .slice a93 n93 c93, .slice a94 n94 c94] 30)) = w24 at *
  obtain ⟨hD, l0, lg, l8, l9, oV, o9_⟩ := unhide LL
  clear LL
  generalize hSS9 : w23.heap.size = S9 at *
  have qS9 := l9.lt
  obtain ⟨xa0, xa1, xa2, xa3, xa4⟩ := lg.five
  obtain ⟨ya0, ya1, ya2, ya3, ya4⟩ := l9.five
  go_wp2_with fail
  clear xa0 xa1 xa2 xa3 xa4 ya0 ya1 ya2 ya3 ya4
  refine (eqNode_any 20 _ _ _ _ _ _ _ _ _ _ _ t o9_.rd oV.rd).mono ?_
  rintro e w25 ⟨rfl, hB⟩
  replace hD := unhide BS _ _ hD hB
  replace l8 := l8.all hB
  obtain ⟨ya0, ya1, ya2, ya3, ya4⟩ := l8.five
  go_wp2_with fail
  refine (unhide HH w25 hB).mono ?_
  rintro e w26 ⟨rfl, hB⟩
  replace hD := unhide BS _ _ hD hB
  go_wp2_with fail
  go_ret
  exact ⟨rfl, by rw [hSS]; exact hD⟩
end Go.Proofs.YthgopknjppflhaaGreatDoor
