/- Own texts joined: LDoc, OpenO, OpenP, OpenQ, OpenR. -/
import Derived.Test.YtlpnibbdmkeklaaGreatDoorJa
import Derived.Test.YtlpnibbdmkeklaaGreatDoorJb
import Derived.Test.YtlpnibbdmkeklaaGreatDoorJc
import Derived.Test.YtlpnibbdmkeklaaGreatDoorJd
import Derived.Test.YtlpnibbdmkeklaaGreatDoorJe
import Derived.Test.YtlpnibbdmkeklaaGreatDoorJf
import Derived.Test.YtlpnibbdmkeklaaGreatDoorJg
import Derived.Test.YtlpnibbdmkeklaaGreatDoorJh
import Derived.Test.YtlpnibbdmkeklaaGreatDoorJi
import Derived.Test.YtlpnibbdmkeklaaGreatDoorJj
import Derived.Test.YtlpnibbdmkeklaaGreatDoorJk
import Derived.Test.YtlpnibbdmkeklaaGreatDoorJl
import Derived.Test.YtlpnibbdmkeklaaGreatDoorJm
import Derived.Test.YtlpnibbdmkeklaaGreatDoorJn
import Derived.Deep.RegionHeld3
import Derived.Deep.CutBlock
import Derived.Test.YtlpnibbdmkeklaaGreatDoorProg
import Derived.ChangeArms
import Derived.ChangeSlices
import Derived.WideShapes
namespace Go.Proofs.YtlpnibbdmkeklaaGreatDoor
open Go.RowKit
set_option linter.unusedVariables false
set_option maxRecDepth 100000
theorem ziL:∀(l:List OpV),zaL l≤9*szOs l
 | []=>by simp [zaL]
 | x::r=>by
  have h2:=ziL r
  unfold szOs at h2 ⊢
  simp only [zaL,List.length_cons,List.map_cons,List.sum_cons]
  omega
theorem zpv {n:Nat} (r:RepV n):(docV r).length≤144725:=by
 unfold docV
 by_cases h:repB r=true
 ·rw [if_pos h];exact zlH h
 ·rw [if_neg h];simp
theorem OwRep.keepD {n:Nat} {w w':World} {a b c d e vo vu:Value} {r:RepV n} {F:List Nat} (h:OwRep n w a b c d e vo vu r F) (hb:Below w.heap.size w w'):OwRep n w' a b c d e vo vu r F:=by
 obtain⟨F1,F2,F3,h1,h2,h3,e⟩:=h
 exact⟨F1,F2,F3,h1.keep hb,OwOps.frm h2 (Frm.ofBelow hb []) (fun _ _=>by simp),OwElems.frm h3 (Frm.ofBelow hb []) (fun _ _=>by simp) (fun C x G hr hG=>hr),e⟩
set_option maxHeartbeats 40000000 in
theorem zre (n:Nat) (w:World) (a b c d e vo vu:Value) (r:RepV n) (h:RdRep n w a b c d e vo vu r) (hG:Glo w) :
  Calls Tryz.prog 3 #[zaO r a b c d e vo vu] w fun e w'=>e=.returned (.bool true)∧Below w.heap.size w w':=by
 have HG:=hide (fun W (hW:Below w.heap.size w W)=>hG.keep hW)
 have HZ:=hide (fun W (hW:Below w.heap.size w W)=>znU n W _ _ _ _ _ _ _ r 1048576 (h.keep hW) (by omega) (by omega))
 have HT:=hide (fun (hz:szR r≤1048576) W (hW:Below w.heap.size w W)=>zon n W _ _ _ _ _ _ _ r (h.keep hW) (by unfold szR at hz;omega) (by unfold szR at hz;omega) (by unfold szR at hz;omega))
 have HS:=hide (fun W a b c d e vo vu h=>zqd n W a b c d e vo vu r h)
 have HI:=hide (fun (hz:szR r≤1048576) W a b c d e vo vu h hG=>zpn n W a b c d e vo vu r h (by unfold szR at hz;omega) hG)
 have HM:=hide (fun (hz:szR r≤1048576) W a b c d e vo vu F h hF hlt=>zlt n W a b c d e vo vu r F 1 h hF hlt (by have:=zlX (n+1) r.first;unfold szR at hz;omega) (by have:=ziL r.ops;unfold szR at hz;omega) (by unfold szR at hz;omega) (by omega) (by omega))
 have HQ:=hide (fun W a b c d e vo vu a' b' c' d' e' vo' vu' h h'=>zmS n W a b c d e vo vu a' b' c' d' e' vo' vu' r h h')
 have hlen:=zpv r
 obtain⟨z,ab,nb,cb,ac,nc,cc,ad,nd,cd,ae,ne,ce,ao,no,co,au,nu,cu,rfl,rfl,rfl,rfl,rfl,rfl,rfl⟩:=rd5v h
 clear h hG
 unfold zaO at *
 generalize docV r=dv at *
 generalize repB r=fb at *
 generalize r.ops.length=zo at *
 generalize r.und.length=zu at *
 generalize r.id=ri at *
 generalize r.clock=rc at *
 generalize r.lost=rl at *
 have hA0:=(Below.refl w.heap.size w).alloc (Nat.le_refl _) (.cells #[.int .i64 ri,.int .i64 rc,.int .i64 z,.slice ab nb cb,.slice ac nc cc,.slice ad nd cd,.slice ae ne ce,.slice ao no co,.slice au nu cu,.bool rl] 30)
 have l0:=Loc.made w #[.int .i64 ri,.int .i64 rc,.int .i64 z,.slice ab nb cb,.slice ac nc cc,.slice ad nd cd,.slice ae ne ce,.slice ao no co,.slice au nu cu,.bool rl] 30
 obtain⟨xa0,xa1,xa2,xa3,xa4,xa5,xa6,xa7,xa8,xa9⟩:=l0.ten
 go_enter Tryz.func3,Tryz.ntmps3
 go_wp2_with fail
 clear xa0 xa1 xa2 xa3 xa4 xa5 xa6 xa7 xa8 xa9
 generalize (w.alloc (.cells #[.int .i64 ri,.int .i64 rc,.int .i64 z,.slice ab nb cb,.slice ac nc cc,.slice ad nd cd,.slice ae ne ce,.slice ao no co,.slice au nu cu,.bool rl] 30))=wa at *
 generalize hSS:w.heap.size=S at *
 have BS:=hide (show ∀(b c:World),Below S w b→Below b.heap.size b c→Below S w c from fun b c h k=>h.trans (k.mono (by have:=h.size;omega)))
 have q0:=l0.lt
 refine (zaa HZ _ hA0).mono ?_
 rintro e w1 ⟨rfl,hB⟩
 have hA1:=zaa BS _ _ hA0 hB
 have l1:=l0.all hB
 have z1:=hB.size
 clear hA0 l0 hB HZ
 by_cases hbig:((szR r:Nat):Int)≤1048576
 case neg=>
  rw [zaA hbig]
  go_wp2_with fail
  go_ret
  exact⟨rfl,by rw [hSS];exact hA1⟩
 rw [zaB hbig]
 have hd0:¬ 1048576-((szR r:Nat):Int)<0:=by omega
 have hsz:szR r≤1048576:=by omega
 replace HT:=hide (zaa HT hsz)
 replace HI:=hide (zaa HI hsz)
 replace HM:=hide (zaa HM hsz)
 clear hbig hsz
 generalize ((szR r:Nat):Int)=zz at *
 have hne:(fb != fb)=false:=by simp
 have heq:(fb == fb)=true:=by simp
 have HLN:=hide hlen
 have hD:=hA1
 have l0:=l1
 clear hA1 l1 hlen
 obtain⟨xa0,xa1,xa2,xa3,xa4,xa5,xa6,xa7,xa8,xa9⟩:=l0.ten
 go_wp2_with fail
 clear xa0 xa1 xa2 xa3 xa4 xa5 xa6 xa7 xa8 xa9
 refine (zaa HT _ hD).mono ?_
 rintro e wb ⟨k3,a31,n31,c31,a32,n32,c32,a33,n33,c33,a34,n34,c34,a35,c35,a36,c36,rfl,F3,o3_,nd3,rg3,hB⟩
 replace hD:=zaa BS _ _ hD hB
 replace l0:=l0.all hB
 have zb:=hB.size
 clear hB
 go_wp2_with fail
 refine (zaa HS _ _ _ _ _ _ _ _ o3_.rd).mono ?_
 rintro e w3 ⟨vV,rfl,oV,hB⟩
 clear o3_ nd3 rg3 HS
 have rgV:=oV.rng
 obtain⟨awV,cwV,hvV,_,_⟩:=oV.byt.shape
 subst hvV
 replace hD:=zaa BS _ _ hD hB
 replace l0:=l0.all hB
 have z3:=hB.size
 clear hB
 obtain⟨xa0,xa1,xa2,xa3,xa4,xa5,xa6,xa7,xa8,xa9⟩:=l0.ten
 go_wp2_with fail
 clear xa0 xa1 xa2 xa3 xa4 xa5 xa6 xa7 xa8 xa9
 refine (zaa HT _ hD).mono ?_
 rintro e w5 ⟨k4,a41,n41,c41,a42,n42,c42,a43,n43,c43,a44,n44,c44,a45,c45,a46,c46,rfl,F4,o4q,nd4,rg4,hB⟩
 have hlt4:∀g∈F4,g<w5.heap.size:=fun g hg=>(rg4 g hg).2
 replace hD:=zaa BS _ _ hD hB
 replace l0:=l0.all hB
 replace oV:=oV.keep hB
 have z5:=hB.size
 clear hB
 have hB:Below w5.heap.size w5 (w5.alloc (.cells #[.int .i64 ri,.int .i64 rc,.int .i64 k4,.slice a41 n41 c41,.slice a42 n42 c42,.slice a43 n43 c43,.slice a44 n44 c44,.slice a45 zo c45,.slice a46 zu c46,.bool rl] 41)):=(Below.refl _ _).alloc (Nat.le_refl _) _
 replace o4q:=hide (OwRep.keepD o4q hB)
 clear hB
 have hB:Below w5.heap.size w5 (w5.alloc (.cells #[.int .i64 ri,.int .i64 rc,.int .i64 k4,.slice a41 n41 c41,.slice a42 n42 c42,.slice a43 n43 c43,.slice a44 n44 c44,.slice a45 zo c45,.slice a46 zu c46,.bool rl] 41)):=(Below.refl _ _).alloc (Nat.le_refl _) _
 have l4:=Loc.made w5 #[.int .i64 ri,.int .i64 rc,.int .i64 k4,.slice a41 n41 c41,.slice a42 n42 c42,.slice a43 n43 c43,.slice a44 n44 c44,.slice a45 zo c45,.slice a46 zu c46,.bool rl] 41
 replace oV:=oV.keep hB
 replace hD:=zaa BS _ _ hD hB
 replace l0:=l0.all hB
 have z6:=hB.size
 clear hB
 have LL:=hide (And.intro hD (And.intro l0 (And.intro l4 (oV))))
 clear hD l0 l4 oV
 go_upto_region 7 with fail
 generalize (w5.alloc (.cells #[.int .i64 ri,.int .i64 rc,.int .i64 k4,.slice a41 n41 c41,.slice a42 n42 c42,.slice a43 n43 c43,.slice a44 n44 c44,.slice a45 zo c45,.slice a46 zu c46,.bool rl] 41))=w6 at *
 obtain⟨hD,l0,l4,oV⟩:=zaa LL
 clear LL
 generalize hSS4:w5.heap.size=S4 at *
 have qS4:=l4.lt
 replace o4q:=zaa o4q
 obtain⟨ya0,ya1,ya2,ya3,ya4,ya5,ya6,ya7,ya8,ya9⟩:=l4.ten
 go_wp2_with fail
 clear ya0 ya1 ya2 ya3 ya4 ya5 ya6 ya7 ya8 ya9
 refine (zaa HI _ _ _ _ _ _ _ _ o4q.rd (zaa HG _ hD)).mono ?_
 rintro e w8 ⟨v8,rfl,o8,hB⟩
 replace o4q:=OwRep.keepD o4q hB
 have rg8:=o8.rng
 obtain⟨aw8,cw8,hv8,_,_⟩:=o8.byt.shape
 subst hv8
 replace hD:=zaa BS _ _ hD hB
 replace l0:=l0.all hB
 replace l4:=l4.all hB
 replace oV:=oV.keep hB
 have z8:=hB.size
 clear hB
 go_wp2_with fail
 refine (zcL w8 _ _ dv o8.byt oV.byt).mono ?_
 rintro e w10 ⟨rfl,hB⟩
 replace o4q:=OwRep.keepD o4q hB
 replace hD:=zaa BS _ _ hD hB
 replace l0:=l0.all hB
 replace l4:=l4.all hB
 replace oV:=oV.keep hB
 replace o8:=o8.keep hB
 have z10:=hB.size
 clear hB
 obtain⟨xa0,xa1,xa2,xa3,xa4,xa5,xa6,xa7,xa8,xa9⟩:=l0.ten
 obtain⟨ya0,ya1,ya2,ya3,ya4,ya5,ya6,ya7,ya8,ya9⟩:=l4.ten
 go_wp2_with fail
 go_region_held3 (fun w'=>w'.cell? ⟨S,0,none⟩=some (.int .i64 ri)∧w'.cell? ⟨S,1,none⟩=some (.int .i64 rc)∧w'.cell? ⟨S,2,none⟩=some (.int .i64 z)∧w'.cell? ⟨S,3,none⟩=some (.slice ab nb cb)∧w'.cell? ⟨S,4,none⟩=some (.slice ac nc cc)∧w'.cell? ⟨S,5,none⟩=some (.slice ad nd cd)∧w'.cell? ⟨S,6,none⟩=some (.slice ae ne ce)∧w'.cell? ⟨S,7,none⟩=some (.slice ao no co)∧w'.cell? ⟨S,8,none⟩=some (.slice au nu cu)∧w'.cell? ⟨S,9,none⟩=some (.bool rl)∧w'.cell? ⟨S4,0,none⟩=some (.int .i64 ri)∧w'.cell? ⟨S4,1,none⟩=some (.int .i64 rc)∧w'.cell? ⟨S4,2,none⟩=some (.int .i64 k4)∧w'.cell? ⟨S4,3,none⟩=some (.slice a41 n41 c41)∧w'.cell? ⟨S4,4,none⟩=some (.slice a42 n42 c42)∧w'.cell? ⟨S4,5,none⟩=some (.slice a43 n43 c43)∧w'.cell? ⟨S4,6,none⟩=some (.slice a44 n44 c44)∧w'.cell? ⟨S4,7,none⟩=some (.slice a45 zo c45)∧w'.cell? ⟨S4,8,none⟩=some (.slice a46 zu c46)∧w'.cell? ⟨S4,9,none⟩=some (.bool rl))
  (first | exact⟨by assumption,by assumption,by assumption,by assumption,by assumption,by assumption,by assumption,by assumption,by assumption,by assumption,by assumption,by assumption,by assumption,by assumption,by assumption,by assumption,by assumption,by assumption,by assumption,by assumption⟩ | simp [*])
  (first
   | (go_at_call 6;refine (zaa HT _ hD.drew).mono ?_;rintro e w11 ⟨ke,ae1,ne1,ce1,ae2,ne2,ce2,ae3,ne3,ce3,ae4,ne4,ce4,ae5,ce5,ae6,ce6,rfl,F11,o11,_,_,hB11⟩;have hE11:=zad ((Below.refl w10.heap.size w10).drew) hB11;obtain⟨xa0,xa1,xa2,xa3,xa4,xa5,xa6,xa7,xa8,xa9⟩:=(l0.all hE11).ten;obtain⟨ya0,ya1,ya2,ya3,ya4,ya5,ya6,ya7,ya8,ya9⟩:=(l4.all hE11).ten)
   | (go_at_call 9;refine (zaa HQ _ _ _ _ _ _ _ _ _ _ _ _ _ _ _ (OwRep.keepD o4q hE11).rd o11.rd).mono ?_;rintro e w12 ⟨rfl,hB12⟩;have hE12:=zad hE11 hB12;obtain⟨xa0,xa1,xa2,xa3,xa4,xa5,xa6,xa7,xa8,xa9⟩:=(l0.all hE12).ten;obtain⟨ya0,ya1,ya2,ya3,ya4,ya5,ya6,ya7,ya8,ya9⟩:=(l4.all hE12).ten))
 clear o11 hB11 hE11 hB12 xa0 xa1 xa2 xa3 xa4 xa5 xa6 xa7 xa8 xa9 ya0 ya1 ya2 ya3 ya4 ya5 ya6 ya7 ya8 ya9
 replace o4q:=OwRep.keepD o4q hE12
 replace hD:=zaa BS _ _ hD hE12
 replace l0:=l0.all hE12
 replace l4:=l4.all hE12
 replace oV:=oV.keep hE12
 replace o8:=o8.keep hE12
 have z12:=hE12.size
 clear hE12
 obtain⟨ya0,ya1,ya2,ya3,ya4,ya5,ya6,ya7,ya8,ya9⟩:=l4.ten
 go_wp2_with fail
 clear ya0 ya1 ya2 ya3 ya4 ya5 ya6 ya7 ya8 ya9
 refine (zaa HM w12 _ _ _ _ _ _ _ F4 o4q nd4 (fun g hg=>by have:=hlt4 g hg;omega)).mono ?_
 rintro e w16 ⟨rfl,_,hF⟩
 replace hD:=hD.trans (hF.below (by have:=hD.size;omega) (fun q hq=>by have:=(rg4 q hq).1;omega))
 replace l0:=l0.frm hF (fun hm=>by have:=rg4 _ hm;omega)
 replace oV:=oV.frm hF (fun q hq hm=>by have:=rg4 _ hm;have:=rgV _ hq;omega)
 replace o8:=o8.frm hF (fun q hq hm=>by have:=rg4 _ hm;have:=rg8 _ hq;omega)
 have z16:=hF.size
 clear hF o4q l4 nd4
 have hk3:decide (1+((zgt r:Nat):Int)<0)=false:=by simp;omega
 generalize 1+((zgt r:Nat):Int)=K at *
 go_wp2_with fail
 refine (zcL w16 _ _ dv o8.byt oV.byt).mono ?_
 rintro e w18 ⟨rfl,hB⟩
 replace hD:=zaa BS _ _ hD hB
 replace l0:=l0.all hB
 replace oV:=oV.keep hB
 replace o8:=o8.keep hB
 have z18:=hB.size
 clear hB
 go_wp2_with fail
 refine (zbP w18 _ _ dv 1 o8 (by have:=zaa HLN;omega) (by omega) (by omega)).mono ?_
 rintro e w19 ⟨rfl,om,hgr⟩
 have hF:=Frm.ofGrown hgr
 replace hD:=hD.trans (hF.below (by have:=hD.size;omega) (fun q hq=>by have:=rg8 q hq;omega))
 replace l0:=l0.frm hF (fun hm=>by have:=rg8 _ hm;omega)
 replace oV:=oV.frm hF (fun q hq hm=>by have:=rg8 _ hm;have:=rgV _ hq;omega)
 have z19:=hF.size
 clear hF o8 hgr
 have HH:=hide (fun W (hW:Below w19.heap.size w19 W)=>zok W _ dv.length 1 (om.byt.keep hW) (by have:=zaa HLN;omega) (by omega) (by omega))
 have hm1:decide (1+((dv.length:Nat):Int)<0)=false:=by simp;omega
 obtain⟨M,hM⟩:∃M:Int,1+((dv.length:Nat):Int)=M:=⟨_,rfl⟩
 rw [hM]at HH hm1 ⊢
 have hm2:(M != M)=false:=by simp
 have hm3:(M == M)=true:=by simp
 clear om hM
 go_wp2_with fail
 refine (zaa HH w19 (Below.refl _ _)).mono ?_
 rintro e w20 ⟨rfl,rfl⟩
 obtain⟨xa0,xa1,xa2,xa3,xa4,xa5,xa6,xa7,xa8,xa9⟩:=l0.ten
 go_wp2_with fail
 clear xa0 xa1 xa2 xa3 xa4 xa5 xa6 xa7 xa8 xa9
 refine (zaa HT _ hD).mono ?_
 rintro e w21 ⟨k7,a71,n71,c71,a72,n72,c72,a73,n73,c73,a74,n74,c74,a75,c75,a76,c76,rfl,F7,o7_,nd7,rg7,hB⟩
 replace HH:=hide (fun W (hW:Below w21.heap.size w21 W)=>zaa HH W (zad hB hW))
 replace hD:=zaa BS _ _ hD hB
 replace l0:=l0.all hB
 replace oV:=oV.keep hB
 have z21:=hB.size
 clear hB
 go_wp2_with fail
 refine (zaa HI _ _ _ _ _ _ _ _ o7_.rd (zaa HG _ hD)).mono ?_
 rintro e w23 ⟨v9,rfl,o9,hB⟩
 replace HH:=hide (fun W (hW:Below w23.heap.size w23 W)=>zaa HH W (zad hB hW))
 clear o7_
 obtain⟨aw9,cw9,hv9,_,_⟩:=o9.byt.shape
 subst hv9
 replace hD:=zaa BS _ _ hD hB
 replace l0:=l0.all hB
 replace oV:=oV.keep hB
 have z23:=hB.size
 clear hB
 go_wp2_with fail
 refine (zcL w23 _ _ dv o9.byt oV.byt).mono ?_
 rintro e w25 ⟨rfl,hB⟩
 replace hD:=zaa BS _ _ hD hB
 go_wp2_with fail
 refine (zaa HH w25 hB).mono ?_
 rintro e w26 ⟨rfl,rfl⟩
 go_wp2_with fail
 go_ret
 exact⟨rfl,by rw [hSS];exact hD⟩
end Go.Proofs.YtlpnibbdmkeklaaGreatDoor
namespace Go.Proofs.YtlpnibbdmkeklaaGreatDoor
open Go.RowKit Go.ChangeShapes
set_option linter.unusedVariables false
set_option maxRecDepth 100000
variable {H:Type} {enc:TypeId×Value→H} {W:World} {held:Bool}
theorem zgA {fuel:Nat} {cs:List Value} {x:DataW H×List MemPlace} (h:DataW.trod enc Tryz.prog W 0 (fun _=>true) held fuel 22 cs=some x) :
  ∃v l,cs=[v]∧Byt W v l:=by
 rcases open_ints Tryz.underlying22 Tryz.underlying5 (by kernel_rfl) h with ⟨hcs,_⟩ | ⟨a,len,cap,zs,hcs,_,hl,hm,hz,_,hcell,hwz⟩
 ·exact⟨_,_,hcs,zdG (zs:=[]) (.inl ⟨rfl,rfl,rfl,rfl⟩)⟩
 ·exact⟨_,_,hcs,zdG (.inr ⟨_,rfl,hl,hm,by simpa using hz,hcell,hwz⟩)⟩
theorem zmX {fuel:Nat} {cs:List Value} {x:DataW H×List MemPlace} (h:DataW.trod enc Tryz.prog W 0 (fun _=>true) held fuel 75 cs=some x) :
  ∃v l,cs=[v]∧Ints W v l:=by
 rcases open_ints Tryz.underlying75 Tryz.underlying3 (by kernel_rfl) h with ⟨hcs,_⟩ | ⟨a,len,cap,zs,hcs,_,hl,hm,hz,_,hcell,hwz⟩
 ·exact⟨_,_,hcs,zgO (zs:=[]) (.inl ⟨rfl,rfl,rfl,rfl⟩)⟩
 ·exact⟨_,_,hcs,zgO (.inr ⟨_,rfl,hl,hm,by simpa using hz,hcell,hwz⟩)⟩
theorem zba {α:Type} {l:List α} {n i:Nat} (h:l.length=n) (hi:i<n):∃y,l[i]? = some y:=⟨l[i]'(by omega),List.getElem?_eq_getElem (by omega)⟩
theorem zgl {fuel:Nat} {cs:List Value} {x:DataW H×List MemPlace} (h:DataW.trod enc Tryz.prog W 0 (fun _=>true) held fuel 74 cs=some x):∃n r:Int,cs=[.int .i64 n,.int .i64 r]:=by
 obtain⟨xs,n,_,_,hlen,hxs,hf⟩:=DataW.trod_struct Tryz.underlying74 h
 have hlen2:cs.length=2:=hlen.trans (by kernel_rfl)
 match cs,hlen2 with
 | [c0,c1],_=>
  obtain⟨y0,e0⟩:=zba (i:=0) hxs (by simp)
  obtain⟨y1,e1⟩:=zba (i:=1) hxs (by simp)
  have h0:DataW.trod enc Tryz.prog W 0 (fun _=>true) held n 3 (([c0,c1].drop 0).take (Tryz.prog.cellsOf 3))=some y0:=(hf 0 _ rfl).trans e0
  have h1:DataW.trod enc Tryz.prog W 0 (fun _=>true) held n 3 (([c0,c1].drop 1).take (Tryz.prog.cellsOf 3))=some y1:=(hf 1 _ rfl).trans e1
  have k1:Tryz.prog.cellsOf 3=1:=by kernel_rfl
  simp only [k1,List.drop,List.take]at h0 h1
  obtain⟨z0,g0,_,_⟩:=DataW.trod_int Tryz.underlying3 h0
  obtain⟨z1,g1,_,_⟩:=DataW.trod_int Tryz.underlying3 h1
  simp at g0 g1
  subst g0;subst g1
  exact⟨z0,z1,rfl⟩
end Go.Proofs.YtlpnibbdmkeklaaGreatDoor
namespace Go.Proofs.YtlpnibbdmkeklaaGreatDoor
open Go.RowKit Go.ChangeShapes
set_option linter.unusedVariables false
set_option maxRecDepth 100000
variable {H:Type} {enc:TypeId×Value→H} {W:World} {held:Bool}
theorem zqR {fuel:Nat} {cs:List Value} {x:DataW H×List MemPlace} (h:DataW.trod enc Tryz.prog W 0 (fun _=>true) held fuel 77 cs=some x):∃o,RdOp W (.agg cs.toArray) o:=by
 obtain⟨xs,n,_,_,hlen,hxs,hf⟩:=DataW.trod_struct Tryz.underlying77 h
 have hlen2:cs.length=12:=hlen.trans (by kernel_rfl)
 match cs,hlen2 with
 | [c0,c1,c2,c3,c4,c5,c6,c7,c8,c9,c10,c11],_=>
  obtain⟨y0,e0⟩:=zba (i:=0) hxs (by simp)
  obtain⟨y1,e1⟩:=zba (i:=1) hxs (by simp)
  obtain⟨y2,e2⟩:=zba (i:=2) hxs (by simp)
  obtain⟨y3,e3⟩:=zba (i:=3) hxs (by simp)
  obtain⟨y4,e4⟩:=zba (i:=4) hxs (by simp)
  obtain⟨y5,e5⟩:=zba (i:=5) hxs (by simp)
  obtain⟨y6,e6⟩:=zba (i:=6) hxs (by simp)
  obtain⟨y7,e7⟩:=zba (i:=7) hxs (by simp)
  obtain⟨y8,e8⟩:=zba (i:=8) hxs (by simp)
  have h0:DataW.trod enc Tryz.prog W 0 (fun _=>true) held n 3 (([c0,c1,c2,c3,c4,c5,c6,c7,c8,c9,c10,c11].drop 0).take (Tryz.prog.cellsOf 3))=some y0:=(hf 0 _ rfl).trans e0
  have h1:DataW.trod enc Tryz.prog W 0 (fun _=>true) held n 74 (([c0,c1,c2,c3,c4,c5,c6,c7,c8,c9,c10,c11].drop 1).take (Tryz.prog.cellsOf 74))=some y1:=(hf 1 _ rfl).trans e1
  have h2:DataW.trod enc Tryz.prog W 0 (fun _=>true) held n 74 (([c0,c1,c2,c3,c4,c5,c6,c7,c8,c9,c10,c11].drop 3).take (Tryz.prog.cellsOf 74))=some y2:=(hf 2 _ rfl).trans e2
  have h3:DataW.trod enc Tryz.prog W 0 (fun _=>true) held n 74 (([c0,c1,c2,c3,c4,c5,c6,c7,c8,c9,c10,c11].drop 5).take (Tryz.prog.cellsOf 74))=some y3:=(hf 3 _ rfl).trans e3
  have h4:DataW.trod enc Tryz.prog W 0 (fun _=>true) held n 75 (([c0,c1,c2,c3,c4,c5,c6,c7,c8,c9,c10,c11].drop 7).take (Tryz.prog.cellsOf 75))=some y4:=(hf 4 _ rfl).trans e4
  have h5:DataW.trod enc Tryz.prog W 0 (fun _=>true) held n 3 (([c0,c1,c2,c3,c4,c5,c6,c7,c8,c9,c10,c11].drop 8).take (Tryz.prog.cellsOf 3))=some y5:=(hf 5 _ rfl).trans e5
  have h6:DataW.trod enc Tryz.prog W 0 (fun _=>true) held n 22 (([c0,c1,c2,c3,c4,c5,c6,c7,c8,c9,c10,c11].drop 9).take (Tryz.prog.cellsOf 22))=some y6:=(hf 6 _ rfl).trans e6
  have h7:DataW.trod enc Tryz.prog W 0 (fun _=>true) held n 22 (([c0,c1,c2,c3,c4,c5,c6,c7,c8,c9,c10,c11].drop 10).take (Tryz.prog.cellsOf 22))=some y7:=(hf 7 _ rfl).trans e7
  have h8:DataW.trod enc Tryz.prog W 0 (fun _=>true) held n 4 (([c0,c1,c2,c3,c4,c5,c6,c7,c8,c9,c10,c11].drop 11).take (Tryz.prog.cellsOf 4))=some y8:=(hf 8 _ rfl).trans e8
  have ki:Tryz.prog.cellsOf 3=1:=by kernel_rfl
  have k1:Tryz.prog.cellsOf 22=1:=by kernel_rfl
  have k2:Tryz.prog.cellsOf 75=1:=by kernel_rfl
  have k3:Tryz.prog.cellsOf 74=2:=by kernel_rfl
  have k4:Tryz.prog.cellsOf 4=1:=by kernel_rfl
  simp only [ki,k1,k2,k3,k4,List.drop,List.take]at h0 h1 h2 h3 h4 h5 h6 h7 h8
  obtain⟨z0,g0,_,_⟩:=DataW.trod_int Tryz.underlying3 h0
  obtain⟨z1,z2,g1⟩:=zgl h1
  obtain⟨z3,z4,g2⟩:=zgl h2
  obtain⟨z5,z6,g3⟩:=zgl h3
  obtain⟨v7,l7,g4,b7⟩:=zmX h4
  obtain⟨z8,g5,_,_⟩:=DataW.trod_int Tryz.underlying3 h5
  obtain⟨v9,l9,g6,b9⟩:=zgA h6
  obtain⟨v10,l10,g7,b10⟩:=zgA h7
  obtain⟨z11,g8,_⟩:=DataW.trod_bool Tryz.underlying4 h8
  simp at g0 g1 g2 g3 g4 g5 g6 g7 g8
  obtain⟨rfl,rfl⟩:=g1
  obtain⟨rfl,rfl⟩:=g2
  obtain⟨rfl,rfl⟩:=g3
  subst g0;subst g4;subst g5;subst g6;subst g7;subst g8
  exact⟨⟨z0,z1,z2,z3,z4,z5,z6,l7,z8,l9,l10,z11⟩,_,_,_,rfl,b7,b9,b10⟩
end Go.Proofs.YtlpnibbdmkeklaaGreatDoor
namespace Go.Proofs.YtlpnibbdmkeklaaGreatDoor
open Go.RowKit Go.ChangeShapes
set_option linter.unusedVariables false
set_option maxRecDepth 100000
variable {H:Type} {enc:TypeId×Value→H} {W:World} {held:Bool}
theorem zsc {C:List Value} {o:OpV} (h:RdOp W (.agg C.toArray) o):zhA W C o:=by
 obtain⟨k,n,t,e,h1,h2,h3⟩:=h
 refine⟨k,n,t,?_,h1,h2,h3⟩
 unfold zaU at e
 have e1:=Value.agg.inj e
 have e2:=congrArg Array.toList e1
 simpa using e2
end Go.Proofs.YtlpnibbdmkeklaaGreatDoor
namespace Go.Proofs.YtlpnibbdmkeklaaGreatDoor
open Go.RowKit Go.ChangeShapes
set_option linter.unusedVariables false
set_option maxRecDepth 100000
variable {H:Type} {enc:TypeId×Value→H} {W:World} {held:Bool}
theorem zpi {fuel:Nat} {cs:List Value} {x:DataW H×List MemPlace} (h:DataW.trod enc Tryz.prog W 0 (fun _=>true) held fuel 30 cs=some x):∃(m:Nat) (r:RepV m) (a b c d e vo vu:Value),cs=[.int .i64 r.id,.int .i64 r.clock,a,b,c,d,e,vo,vu,.bool r.lost]∧RdRep m W a b c d e vo vu r:=by
 obtain⟨xs,n,_,_,hlen,hxs,hf⟩:=DataW.trod_struct Tryz.underlying30 h
 have hlen2:cs.length=10:=hlen.trans (by kernel_rfl)
 match cs,hlen2 with
 | [c0,c1,c2,c3,c4,c5,c6,c7,c8,c9],_=>
  obtain⟨y0,e0⟩:=zba (i:=0) hxs (by simp)
  obtain⟨y1,e1⟩:=zba (i:=1) hxs (by simp)
  obtain⟨y2,e2⟩:=zba (i:=2) hxs (by simp)
  obtain⟨y3,e3⟩:=zba (i:=3) hxs (by simp)
  obtain⟨y4,e4⟩:=zba (i:=4) hxs (by simp)
  obtain⟨y5,e5⟩:=zba (i:=5) hxs (by simp)
  have h0:DataW.trod enc Tryz.prog W 0 (fun _=>true) held n 3 (([c0,c1,c2,c3,c4,c5,c6,c7,c8,c9].drop 0).take (Tryz.prog.cellsOf 3))=some y0:=(hf 0 _ rfl).trans e0
  have h1:DataW.trod enc Tryz.prog W 0 (fun _=>true) held n 3 (([c0,c1,c2,c3,c4,c5,c6,c7,c8,c9].drop 1).take (Tryz.prog.cellsOf 3))=some y1:=(hf 1 _ rfl).trans e1
  have h2:DataW.trod enc Tryz.prog W 0 (fun _=>true) held n 26 (([c0,c1,c2,c3,c4,c5,c6,c7,c8,c9].drop 2).take (Tryz.prog.cellsOf 26))=some y2:=(hf 2 _ rfl).trans e2
  have h3:DataW.trod enc Tryz.prog W 0 (fun _=>true) held n 27 (([c0,c1,c2,c3,c4,c5,c6,c7,c8,c9].drop 7).take (Tryz.prog.cellsOf 27))=some y3:=(hf 3 _ rfl).trans e3
  have h4:DataW.trod enc Tryz.prog W 0 (fun _=>true) held n 28 (([c0,c1,c2,c3,c4,c5,c6,c7,c8,c9].drop 8).take (Tryz.prog.cellsOf 28))=some y4:=(hf 4 _ rfl).trans e4
  have h5:DataW.trod enc Tryz.prog W 0 (fun _=>true) held n 4 (([c0,c1,c2,c3,c4,c5,c6,c7,c8,c9].drop 9).take (Tryz.prog.cellsOf 4))=some y5:=(hf 5 _ rfl).trans e5
  have ki:Tryz.prog.cellsOf 3=1:=by kernel_rfl
  have k1:Tryz.prog.cellsOf 26=5:=by kernel_rfl
  have k2:Tryz.prog.cellsOf 27=1:=by kernel_rfl
  have k3:Tryz.prog.cellsOf 28=1:=by kernel_rfl
  have k4:Tryz.prog.cellsOf 4=1:=by kernel_rfl
  simp only [ki,k1,k2,k3,k4,List.drop,List.take]at h0 h1 h2 h3 h4 h5
  obtain⟨z0,g0,_,_⟩:=DataW.trod_int Tryz.underlying3 h0
  obtain⟨z1,g1,_,_⟩:=DataW.trod_int Tryz.underlying3 h1
  obtain⟨t,ht⟩:=zja (n+1) (by omega) h2
  obtain⟨v3,l3,g3,b3⟩:=zdT (sz:=12) (R:=zhA W) Tryz.underlying27 (by kernel_rfl) (by omega) (fun n C y _ hy=>(zqR hy).imp fun o ho=>zsc ho) h3
  obtain⟨v4,l4,g4,b4⟩:=zdT (sz:=2) (R:=zqC) Tryz.underlying28 (by kernel_rfl) (by omega) (fun n C y _ hy=>by
   obtain⟨p,q,e⟩:=zgl hy
   exact⟨(p,q),e⟩) h4
  obtain⟨z5,g5,_⟩:=DataW.trod_bool Tryz.underlying4 h5
  simp at g0 g1 g3 g4 g5
  subst g0;subst g1;subst g3;subst g4;subst g5
  exact⟨n,⟨z0,z1,t,l3,l4,z5⟩,_,_,_,_,_,_,_,rfl,ht,b3,b4⟩
theorem zrv {r:Reach} {base:Nat} {v:Value} {x:DataW H} {p:List MemPlace} (hv:Value.okWide Tryz.prog W r base 30 v) (h:DataW.Trod enc Tryz.prog W 0 (fun _=>true) held 30 v x p) :
  ∃(a b c d e vo vu:Value) (m:Nat) (r:RepV m),v=zaO r a b c d e vo vu∧RdRep m W a b c d e vo vu r:=by
 obtain⟨cs,rfl,hsz⟩:=WideShapes.okWide_struct Tryz.underlying30 hv
 obtain⟨fuel,hf⟩:=h
 obtain⟨l⟩:=cs
 obtain⟨m,r,a,b,c,d,e,vo,vu,el,hr⟩:=zpi hf
 have el':l=[.int .i64 r.id,.int .i64 r.clock,a,b,c,d,e,vo,vu,.bool r.lost]:=el
 exact⟨a,b,c,d,e,vo,vu,m,r,by rw [el'];rfl,hr⟩
end Go.Proofs.YtlpnibbdmkeklaaGreatDoor
