/- Own texts joined: FoE, FoJ, FoO, NodeI, OpI, OpsI, FoI, RootI. -/
import Derived.Test.YtlpnibbdmkeklaaGreatDoorJa
import Derived.Test.YtlpnibbdmkeklaaGreatDoorJb
import Derived.Test.YtlpnibbdmkeklaaGreatDoorJc
import Derived.Test.YtlpnibbdmkeklaaGreatDoorJd
import Derived.Test.YtlpnibbdmkeklaaGreatDoorJe
import Derived.Test.YtlpnibbdmkeklaaGreatDoorJf
import Derived.Test.YtlpnibbdmkeklaaGreatDoorJg
import Derived.Test.YtlpnibbdmkeklaaGreatDoorJh
import Derived.Test.YtlpnibbdmkeklaaGreatDoorJi
import Derived.Test.YtlpnibbdmkeklaaGreatDoorJj
import Derived.Test.YtlpnibbdmkeklaaGreatDoorJk
import Derived.Test.YtlpnibbdmkeklaaGreatDoorJl
import Derived.Deep.RegionHeld3
import Derived.Deep.QuietTactic
import Derived.BigQuiet
namespace Go.Proofs.YtlpnibbdmkeklaaGreatDoor
open Go.RowKit Go.Maps
set_option linter.unusedVariables false
set_option maxRecDepth 100000
set_option maxHeartbeats 12800000 in
theorem zsr {B:Nat} {w0 w:Xe} {g mb:Nat} {a:Xc} {c:Nat} {l:List PlV} {F:Xb} (h:FoS B w g mb a c l F) (hB0:w0.heap.size<=B) (hw0:Below w0.heap.size w0 w) (o:OpV) (k1 k2 k3:Xc) (d1 d2 d3:Nat)
  (h1:Ints w0 (.slice k1 o.key.length d1) o.key) (h2:Byt w0 (.slice k2 o.name.length d2) o.name) (h3:Byt w0 (.slice k3 o.text.length d3) o.text) (hs1:o.key.length<=1000000) (hs2:o.name.length<=1000000) (hs3:o.text.length<=1000000) (ho:opB o=true) (hk:o.kind=1) (hno:okI o.node) (hpa:okI o.par) (hFr:Fr l) (hG:Glo w) (hB2:2<=B) (k:Nat) (hp:posP l o.node=some k) :
  Calls Tryz.prog 88 #[.pointer (some ⟨g,0,none⟩),.agg #[.int .i64 o.kind,.int .i64 o.atN,.int .i64 o.atR,.int .i64 o.nodeN,.int .i64 o.nodeR,.int .i64 o.parN,.int .i64 o.parR,.slice k1 o.key.length d1,.int .i64 o.elem,.slice k2 o.name.length d2,.slice k3 o.text.length d3,.bool o.gone]] w fun e w'=>e=.returned (.tuple #[])∧FoT B w g mb (doV l o) F w':=by
 refine zaf ?_
 intro Q HQ
 have hA:Below w.heap.size w (w.alloc (.cells #[.int .i64 o.kind,.int .i64 o.atN,.int .i64 o.atR,.int .i64 o.nodeN,.int .i64 o.nodeR,.int .i64 o.parN,.int .i64 o.parR,.slice k1 o.key.length d1,.int .i64 o.elem,.slice k2 o.name.length d2,.slice k3 o.text.length d3,.bool o.gone] 83)):=(Below.refl _ _).alloc (Nat.le_refl _) _
 have lb:=Loc.made w #[.int .i64 o.kind,.int .i64 o.atN,.int .i64 o.atR,.int .i64 o.nodeN,.int .i64 o.nodeR,.int .i64 o.parN,.int .i64 o.parR,.slice k1 o.key.length d1,.int .i64 o.elem,.slice k2 o.name.length d2,.slice k3 o.text.length d3,.bool o.gone] 83
 have hq1:=h.keep hA
 have b0:=lb.cell 0
 have b3:=lb.cell 3
 have b4:=lb.cell 4
 have HF:=hide (zco hq1 o.node hno)
 unfold OpV.node zaq at HF
 have hgl:=h.set.lt
 have hml:=h.map.lt
 have hFl:=OwPlsM.lt h.row
 have hkl:k<l.length:=(posP_some.1 hp).1
 have hdo:=zhu (o:=o) (by omega) hp hkl
 have hk0:¬ o.kind=0:=by omega
 have HX:=hide (And.intro hA (And.intro hdo (And.intro hq1 (And.intro hp (And.intro lb (And.intro (hw0.trans (hA.mono hw0.size)) (And.intro h1 (And.intro h2 h3))))))))
 have HGL:=hide hG
 clear hG
 have HKK:=hide hk
 clear hk
 clear h hq1 hA lb hw0 h1 h2 h3 hdo ho hno hp
 go_enter Tryz.func88,Tryz.ntmps88
 go_wp2_with fail
 refine (zaa HF).mono ?_
 rintro e w2 ⟨_,hs2_,hb2⟩
 obtain⟨hA,hdo,hq1,hp,lb,hw0,h1,h2,h3⟩:=zaa HX
 obtain⟨gr,rfl,rfl⟩:=hs2_ k hp
 have hs:=hq1.keep hb2
 have lb2:=lb.all hb2
 have hw2:=hw0.trans (hb2.mono hw0.size)
 have hA2:=zad hA hb2
 have hB2_:B<=w2.heap.size:=by have:=hs.geg;have:=hs.set.lt;omega
 have hge:∀q∈g::mb::F,B<=q:=fun q hq=>by rcases List.mem_cons.1 hq with rfl | hq;(exact hs.geg);(rcases List.mem_cons.1 hq with rfl | hq;(exact hs.gem);(exact hs.ge q hq))
 clear HX HF hs2_ hb2 hA hq1 lb hw0 b0 b3 b4
 have b0:=lb2.cell 0
 have hk:=zaa HKK
 rw [hk]at b0
 have b3:=lb2.cell 3
 have b4:=lb2.cell 4
 have b5:=lb2.cell 5
 have b6:=lb2.cell 6
 have hme:=zsT hFr hp
 have HM:=hide (zlg hs hFr ((zaa HGL).keep hA2) hB2 o.node o.par hpa)
 unfold OpV.node OpV.par zaq at HM
 have HX2:=hide (And.intro hs (And.intro hA2 (And.intro hdo (And.intro lb2 (And.intro hw2 (And.intro h1 hme))))))
 have hbx:w.heap.size<w2.heap.size:=lb2.lt
 clear hs hA2 hdo lb2 hw2 h1 h2 h3 hme
 go_wp2_with fail
 refine (zaa HM).mono ?_
 rintro e w3 ⟨rfl,hs3_,hf3⟩
 obtain⟨hs,hA2,hdo,lb2,hw2,h1,hme⟩:=zaa HX2
 have lb3:=lb2.frm hf3 (by simp;omega)
 have hfa:Frm w w3 [g]:=(Frm.ofBelow hA2 [g]).trans hf3
 have hw3:Below w0.heap.size w0 w3:=hw2.trans (hf3.below hw2.size (fun q hq=>by have e9:q=g:=(by simpa using hq);have:=hge g (by simp);omega))
 have hs23:=hf3.size
 clear HX2 HM hs lb2 hw2 hf3 b0 b3 b4 b5 b6
 cases hm:mayI l (o.nodeN,o.nodeR) (o.parN,o.parR)with
 | false=>
  have hdo2:doV l o=l:=by rw [hdo,if_pos hk,hme,show mayI l o.node o.par=false from hm];rfl
  have HE:=hide (zaa HQ (.returned (.tuple #[])) w3 ⟨rfl,_,_,F,by rw [hdo2];exact hs3_,hfa.mono (fun q hq=>by have e9:q=g:=(by simpa using hq);simp [e9]),fun q hq=>.inl hq⟩)
  clear hs3_ hfa lb3 hw3 hdo hdo2 hme hm HQ hA2
  go_wp2_with fail
  go_end0
  exact zaa HE
 | true=>
  have hdo2:doV l o=l.set k (zdz o l[k]):=by rw [hdo,if_pos hk,hme,show mayI l o.node o.par=true from hm];rfl
  clear hdo hme hm
  have hd:Below w3.heap.size w3 w3.drew:=(Below.refl _ _).drew
  obtain⟨Cs,C,G,hR,hC,hGN,hGF,hgF,hgG,hcl⟩:=hs3_.upd hkl
  have hlt3:=OwPlsM.lt hs3_.row
  have hgl3:=hlt3 gr hgF
  have hFl3:=hFl gr hgF
  have hnb:w.heap.size≠gr:=by omega
  have HC:=hide (zgI w3.drew _ o.key (h1.keep (hw3.trans (hd.mono hw3.size))) (by omega))
  have d5:w3.drew.cell? ⟨w.heap.size,5,none⟩=some (.int .i64 o.parN):=(lb3.all hd).cell 5
  have d6:w3.drew.cell? ⟨w.heap.size,6,none⟩=some (.int .i64 o.parR):=(lb3.all hd).cell 6
  have d7:w3.drew.cell? ⟨w.heap.size,7,none⟩=some (.slice k1 o.key.length d1):=(lb3.all hd).cell 7
  have HK:=hide (fun (W:Xe) (hW:Below w3.heap.size w3 W)=>And.intro (lb3.all hW) (hR.frm (Frm.ofBelow hW []) (by simp)))
  obtain⟨K,N,T,A,Fa,eC,q1,q2,q3,q4,eG⟩:=hC
  obtain⟨_,_,eK,_⟩:=q1.ints.shape
  have HY:=hide (And.intro hs3_ (And.intro hfa (And.intro hdo2 (And.intro q1 (And.intro q2 (And.intro q3 (And.intro q4 (And.intro eG (And.intro hGN (And.intro hGF hlt3))))))))))
  have HCL:=hide hcl
  clear hs3_ hfa hdo2 lb3 hw3 hcl q1 q2 q3 q4 eG hGN hGF hlt3 hR h1 hA2
  go_wp2_with fail
  go_region_held3 (fun w'=>w'.cell? ⟨w.heap.size,5,none⟩=some (.int .i64 o.parN)∧w'.cell? ⟨w.heap.size,6,none⟩=some (.int .i64 o.parR)∧w'.cell? ⟨w.heap.size,7,none⟩=some (.slice k1 o.key.length d1))
   (first | exact⟨by assumption,by assumption,by assumption⟩ | simp [*])
   (first
    | (go_at_call 122;refine (zaa HC).mono ?_;clear HC;rintro e w5 ⟨a5,c5,rfl,ho5,hb5⟩;have hK5:=zad hd hb5;have lb5:=(zaa HK w5 hK5).1;have hR5:=(zaa HK w5 hK5).2;have x5:=lb5.cell 5;have x6:=lb5.cell 6;have x7:=lb5.cell 7;have y2:=hR5.cell 2 (by omega);have y3:=hR5.cell 3 (by omega);have y4:=hR5.cell 4 (by omega);rw [eC]at y2 y3 y4;rw [eK]at y4;have z2:=hR5.frozen (k*9+2);have z3:=hR5.frozen (k*9+3);have z4:=hR5.frozen (k*9+4);have lbS:=(lb5.other gr (k*9+2) (.int .i64 o.parN) hnb).other gr (k*9+3) (.int .i64 o.parR) hnb;have hRS:=(hR5.put 2 (by omega) (.int .i64 o.parN)).put 3 (by omega) (.int .i64 o.parR);have s5:=lbS.cell 5;have s6:=lbS.cell 6;have s7:=lbS.cell 7;have v4:=hRS.cell 4 (by omega);rw [eC]at v4;rw [eK]at v4;have u4:=hRS.frozen (k*9+4);have lbT:=lbS.other gr (k*9+4) (.slice a5 o.key.length c5) hnb;have t5:=lbT.cell 5;have t6:=lbT.cell 6;have t7:=lbT.cell 7;have HRT:=hide (hRS.put 4 (by omega) (.slice a5 o.key.length c5));clear lb5 hR5 lbS hRS lbT))
  all_goals
   obtain⟨hs3_,hfa,hdo2,q1,q2,q3,q4,eG,hGN,hGF,hlt3⟩:=zaa HY
   have hRT:=zaa HRT
   clear x5 x6 x7 y2 y3 y4 z2 z3 z4 s5 s6 s7 v4 u4 t5 t6 t7 HRT HY HK d5 d6 d7
   have fs:Frm w5 (((w5.setCell ⟨gr,k*9+2,none⟩ (.int .i64 o.parN)).setCell ⟨gr,k*9+3,none⟩ (.int .i64 o.parR)).setCell ⟨gr,k*9+4,none⟩ (.slice a5 o.key.length c5)) [gr]:=((zab _ gr _ _).trans (zab _ gr _ _)).trans (zab _ gr _ _)
   have hf35:=(Frm.ofBelow hK5 [gr]).trans fs
   have hnew:∀q∈FB (.slice a5 o.key.length c5),w3.heap.size<=q:=fun q hq=>(ho5.lt q (by simpa [FB]using hq)).1
   have hng:∀q∈G,q∉[gr]:=fun q hq e=>by have e9:q=gr:=(by simpa using e);exact hgG (by rw [<-e9];exact hq)
   have hB3:B<=w3.heap.size:=by omega
   obtain⟨F',g1,g2⟩:=(zaa HCL) _ [gr] _ (zdz o l[k]) (FB (.slice a5 o.key.length c5)++FB N++FB T++Fa) hRT hf35 (fun q hq=>.inl (by simpa using hq))
    (by rw [eC];exact⟨_,N,T,A,Fa,rfl,⟨ho5.1,zap (zbn ho5.2 0 (Nat.zero_le _)) fs (fun q hq e=>by have e9:q=gr:=(by simpa using e);have:=hnew q hq;omega)⟩,q2.frm hf35 (fun q hq=>hng q (by rw [eG];simp [hq])),q3.frm hf35 (fun q hq=>hng q (by rw [eG];simp [hq])),OwAttrs.frm q4 hf35 (fun q hq=>hng q (by rw [eG];simp [hq])),rfl⟩)
    (by
     have h9:=zmx (X:=[]) (T:=FB K) (T':=FB (.slice a5 o.key.length c5)) (Y:=FB N++FB T++Fa) (by rw [List.nil_append];rw [eG]at hGN;simpa [List.append_assoc]using hGN) (zaF _) (fun q hq e=>by have:=hnew q hq;have:=hlt3 q (hGF q (by rw [eG];simpa [List.append_assoc]using e));omega)
     simpa [List.append_assoc]using h9)
    (fun q hq=>by
     rw [List.append_assoc,List.append_assoc]at hq
     rcases List.mem_append.1 hq with hq | hq
     ·exact .inr ⟨fun e=>by have:=hnew q hq;have:=hlt3 q e;omega,by have:=hnew q hq;omega⟩
     ·exact .inl (by rw [eG,List.append_assoc,List.append_assoc];exact List.mem_append_right _ hq))
    rfl hpa
   have HE:=hide (zaa HQ (.returned (.tuple #[])) _ ⟨rfl,_,_,F',by rw [hdo2];exact g1,(hfa.mono (fun q hq=>by have e9:q=g:=(by simpa using hq);simp [e9])).trans (hf35.mono (fun q hq=>by have e9:q=gr:=(by simpa using hq);rw [e9];simp [hgF])),fun q hq=>by
    rcases g2 q hq with e | e
    ·exact .inl e
    ·rw [List.append_assoc,List.append_assoc]at e
     rcases List.mem_append.1 e with e | e
     ·have:=hnew q e;right;omega
     ·exact .inl (hGF q (by rw [eG,List.append_assoc,List.append_assoc];exact List.mem_append_right _ e))⟩)
   clear HQ HCL hs3_ hfa hdo2 q1 q2 q3 q4 g1 g2 fs hf35 hRT ho5
   go_wp2_with fail
   go_end0
   exact zaa HE
theorem zsI {B:Nat} {w0 w:Xe} {g mb:Nat} {a:Xc} {c:Nat} {l:List PlV} {F:Xb} (h:FoS B w g mb a c l F) (hB0:w0.heap.size<=B) (hw0:Below w0.heap.size w0 w) (o:OpV) (k1 k2 k3:Xc) (d1 d2 d3:Nat)
  (h1:Ints w0 (.slice k1 o.key.length d1) o.key) (h2:Byt w0 (.slice k2 o.name.length d2) o.name) (h3:Byt w0 (.slice k3 o.text.length d3) o.text) (hs1:o.key.length<=1000000) (hs2:o.name.length<=1000000) (hs3:o.text.length<=1000000) (ho:opB o=true) (hFr:Fr l) (hAt:AtI l) (hK2:Kd2 l) (hG:Glo w) (hB2:2<=B) (hnew:o.kind=0->posP l o.at'=none) (hlen:l.length+1<=100000) :
  Calls Tryz.prog 88 #[.pointer (some ⟨g,0,none⟩),.agg #[.int .i64 o.kind,.int .i64 o.atN,.int .i64 o.atR,.int .i64 o.nodeN,.int .i64 o.nodeR,.int .i64 o.parN,.int .i64 o.parR,.slice k1 o.key.length d1,.int .i64 o.elem,.slice k2 o.name.length d2,.slice k3 o.text.length d3,.bool o.gone]] w fun e w'=>e=.returned (.tuple #[])∧FoT B w g mb (doV l o) F w':=by
 rcases zis ho with hk | hk | hk | hk
 ·exact zta h hB0 hw0 o k1 k2 k3 d1 d2 d3 h1 h2 h3 hs1 hs2 hs3 ho hk (hnew hk) hlen
 ·obtain⟨hno,hpa⟩:=zrt ho hk
  cases hp:posP l o.node with
  | none=>exact zit h hB0 hw0 o k1 k2 k3 d1 d2 d3 h1 h2 h3 hs1 hs2 hs3 ho (.inl hk) hno hp
  | some k=>exact zsr h hB0 hw0 o k1 k2 k3 d1 d2 d3 h1 h2 h3 hs1 hs2 hs3 ho hk hno hpa hFr hG hB2 k hp
 ·have hno:=zrF ho hk
  cases hp:posP l o.node with
  | none=>exact zit h hB0 hw0 o k1 k2 k3 d1 d2 d3 h1 h2 h3 hs1 hs2 hs3 ho (.inr (.inl hk)) hno hp
  | some k=>exact zro h hB0 hw0 o k1 k2 k3 d1 d2 d3 h1 h2 h3 hs1 hs2 hs3 ho hk hno hK2 k hp
 ·obtain⟨hno,hnm⟩:=zsw ho hk
  cases hp:posP l o.node with
  | none=>exact zit h hB0 hw0 o k1 k2 k3 d1 d2 d3 h1 h2 h3 hs1 hs2 hs3 ho (.inr (.inr hk)) hno hp
  | some k=>exact zrQ h hB0 hw0 o k1 k2 k3 d1 d2 d3 h1 h2 h3 hs1 hs2 hs3 ho hk hno hnm hFr hAt hG k hp
def zgC (n:Nat):Prop:=∀(w0:Xe) (B:Nat) (w:Xe) (g mb:Nat) (a:Xc) (c:Nat) (l:List PlV) (F:Xb) (iN iR:Int) (ks:List (Tr n)) (a4:Xc) (c4:Nat),w0.heap.size<=B->Below w0.heap.size w0 w->FoS B w g mb a c l F->RdKids n w0 (.slice a4 ks.length c4) ks->okI (iN,iR)->SeedIds l->(zaB n (iN,iR) ks l).length<=100000->(∀x∈ks,szT n x<=2097152)->
  Calls Tryz.prog 87 #[.pointer (some ⟨g,0,none⟩),.agg #[.int .i64 iN,.int .i64 iR],.slice a4 ks.length c4] w fun e w'=>e=.returned (.tuple #[])∧FoT B w g mb (zaB n (iN,iR) ks l) F w'
def Aj4 (w3:Xe) (g kb:Nat) (a_:Xc) (c_:Nat) (m:List PlV) {n:Nat} (x:Nd (Tr n)) (ad1 ad2 ad3 ad4:Xc) (cp1 cp2 cp3 cp4:Nat) (s1 s2 s3 s4 s5 s6 s9 s10 s11 s12 s13 s14 s15 s24 s25 s26 s27 s28 s29 s30 s31 s32 s33 s34 s35 s36 s37 s38 s39:Xf) (L:Array Bool) (a:Act) (w:Xe):Prop:=
 ∀C:Prop,(∀(b0 b1 b2 b3 b4 b5 b6 b7 b8 b9:Bool) (x8 x16 x17 x18 x19 x20 x21 x22 x23:Xf),L = #[b0,b1,b2,b3,b4,b5,b6,b7,b8,b9]->a={ tmps:= #[.pointer (some ⟨g,0,none⟩),s1,s2,s3,s4,s5,s6,.pointer (some ⟨kb,0,none⟩),x8,s9,s10,s11,s12,s13,s14,s15,x16,x17,x18,x19,x20,x21,x22,x23,s24,s25,s26,s27,s28,s29,s30,s31,s32,s33,s34,s35,s36,s37,s38,s39],defers:=[] }->Below w3.heap.size w3 w->(b0=true->x16=.pointer (some ⟨g,0,none⟩))->(b1=true->x17=.pointer (some ⟨g,0,none⟩))->(b2=true->x18=.pointer (some ⟨g,0,none⟩))->(b3=true->x19=.slice a_ m.length c_)->(b4=true->x20=.int .i64 (m.length:Int))->(b5=true->x21=.agg #[.int .i64 0,.int .i64 (m.length:Int)])->(b6=true->x22=.agg #[.int .i64 x.kind,.slice ad1 x.name.length cp1,.slice ad2 x.text.length cp2,.slice ad3 x.attrs.length cp3,.slice ad4 x.kids.length cp4])->(b7=true->∃p2 k2 p3 k3 p4 k4 Fa,x23=.agg #[.int .i64 0,.int .i64 (m.length:Int),.int .i64 0,.int .i64 0,.slice none 0 0,.int .i64 x.kind,.slice p2 x.name.length k2,.slice p3 x.text.length k3,.slice p4 x.attrs.length k4]∧Own w 0 (.slice p2 x.name.length k2) x.name∧Own w 0 (.slice p3 x.text.length k3) x.text∧OwAttrs w (.slice p4 x.attrs.length k4) x.attrs Fa∧(FB (.slice p2 x.name.length k2)++FB (.slice p3 x.text.length k3)++Fa).Nodup∧(∀q∈FB (.slice p2 x.name.length k2)++FB (.slice p3 x.text.length k3)++Fa,w3.heap.size<=q))->(b8=true->∃pb,x8=.pointer (some ⟨pb,0,none⟩)∧w3.heap.size<=pb∧(b9=false->Loc w pb #[.int .i64 0,.int .i64 0,.int .i64 0,.int .i64 0,.slice none 0 0,.int .i64 0,.slice none 0 0,.slice none 0 0,.slice none 0 0] 117))->(b9=true->b8=true∧∃pb p2 k2 p3 k3 p4 k4 Fa,x8=.pointer (some ⟨pb,0,none⟩)∧Loc w pb #[.int .i64 0,.int .i64 (m.length:Int),.int .i64 0,.int .i64 0,.slice none 0 0,.int .i64 x.kind,.slice p2 x.name.length k2,.slice p3 x.text.length k3,.slice p4 x.attrs.length k4] 117∧Own w 0 (.slice p2 x.name.length k2) x.name∧Own w 0 (.slice p3 x.text.length k3) x.text∧OwAttrs w (.slice p4 x.attrs.length k4) x.attrs Fa∧(FB (.slice p2 x.name.length k2)++FB (.slice p3 x.text.length k3)++Fa).Nodup∧(∀q∈FB (.slice p2 x.name.length k2)++FB (.slice p3 x.text.length k3)++Fa,w3.heap.size<=q))->C)->C
theorem zod {i:Nat} (h:i<10):i=0∨i=1∨i=2∨i=3∨i=4∨i=5∨i=6∨i=7∨i=8∨i=9:=by omega
set_option maxHeartbeats 25600000 in
theorem zks (n:Nat) (hI:zgC n):zgC (n+1):=by
 intro w0 B w g mb a c l F iN iR ks a4 c4 hB0 hw0 h hK hi hS hN hZ
 refine zaf ?_
 intro Q HQ
 have HI:=hide hI
 have hA:Below w.heap.size w (w.alloc (.cells #[.int .i64 iN,.int .i64 iR] 81)):=(Below.refl _ _).alloc (Nat.le_refl _) _
 have l0:=Loc.made w #[.int .i64 iN,.int .i64 iR] 81
 have LL:=hide (And.intro hA (And.intro l0 (And.intro (h.keep hA) (show (w.alloc (.cells #[.int .i64 iN,.int .i64 iR] 81)).heap.size=w.heap.size+1 by simp))))
 obtain⟨R,hR⟩:∃R,R=zaB (n+1) (iN,iR) ks l:=⟨_,rfl⟩
 rw [<-hR]at HQ
 have HR:=hide hR
 have hjl:∀j,(zbm n (iN,iR) ks l j).length<=100000:=fun j=>Nat.le_trans (zkq n (iN,iR) ks l j) hN
 have hK63:ks.length<=maxLen:=hK.1
 unfold maxLen at hK63
 have HGF:=hide (show g<w.heap.size∧mb<w.heap.size∧(∀q∈F,q<w.heap.size)∧(∀q∈g::mb::F,B<=q) from ⟨h.set.lt,h.map.lt,OwPlsM.lt h.row,fun q hq=>by rcases List.mem_cons.1 hq with rfl | hq;(exact h.geg);(rcases List.mem_cons.1 hq with rfl | hq;(exact h.gem);(exact h.ge q hq))⟩)
 have HK:=hide (And.intro hK (And.intro hi (And.intro hS (And.intro hjl (And.intro hZ (And.intro hB0 hw0))))))
 clear hA l0 hR hK hI hjl hN h hi hS hZ hB0 hw0
 go_enter Tryz.func87,Tryz.ntmps87
 go_wp2_with fail
 obtain⟨hA,l0,h1,hsz1⟩:=zaa LL
 clear LL
 generalize (w.alloc (.cells #[.int .i64 iN,.int .i64 iR] 81))=w1 at *
 go_loopw [11] (fun xv wr=>∃(j:Nat) (a':Xc) (c':Nat) (F':Xb),j<=ks.length∧xv=.int .i64 (j:Int)∧FoS B wr g mb a' c' (zbm n (iN,iR) ks l j) F'∧Frm w wr (g::mb::F)∧(∀q∈F',q∈F∨w.heap.size+1<=q)∧Loc wr w.heap.size #[.int .i64 iN,.int .i64 iR] 81) (fun xv _=>((ks.length:Int)-intOf xv).toNat)
 case atStart=>exact⟨0,a,c,F,Nat.zero_le _,rfl,h1,Frm.ofBelow hA _,fun q hq=>.inl hq,l0⟩
 case round=>
  clear l0 h1 hA
  obtain⟨j,a',c',F',hj,rfl,hs,hf,hF',l0⟩:=hrel
  by_cases hlt:j<ks.length
  ·have hlt':(j:Int)<(ks.length:Int):=by omega
   have hj0:(0:Int)<=(j:Int):=by omega
   obtain⟨bk,off,rfl,hb9,_,_,C,hC,hcell,hrd⟩:=Elems.at (zaa HK).1 hlt
   obtain⟨x,hx⟩:∃x:Nd (Tr n),x=ks[j]:=⟨_,rfl⟩
   have hnext:zbm n (iN,iR) ks l (j+1)=zaZ n (iN,iR) (zbm n (iN,iR) ks l j) (x,j):=by rw [hx];exact zhS n (iN,iR) ks l hlt
   have hsx:szT (n+1) x<=2097152:=(zaa HK).2.2.2.2.1 x (by rw [hx];exact List.getElem_mem hlt)
   replace hrd:RdNode (n+1) w0 C x:=by rw [hx];exact hrd
   have hrd0:=hrd
   obtain⟨_,_,_,_,eC,_,_,q1,q2,q3,q4⟩:=hrd
   obtain⟨ad1,cp1,rfl,_⟩:=q1.shape
   obtain⟨ad2,cp2,rfl,_⟩:=q2.shape
   obtain⟨ad3,cp3,rfl,_⟩:=Elems.shape q3
   obtain⟨ad4,cp4,rfl,_⟩:=Elems.shape q4
   have h06:Below w0.heap.size w0 wr:=(zaa HK).2.2.2.2.2.2.trans (hf.below (zaa HK).2.2.2.2.2.2.size (fun q hq=>Nat.le_trans (zaa HK).2.2.2.2.2.1 ((zaa HGF).2.2.2 q hq)))
   have v0_:wr.cell? ⟨bk,off+j*5,none⟩=some (.int .i64 x.kind):=by have h7:=hcell 0 (by decide);rw [eC]at h7;simp only [List.getElem?_cons_zero,Nat.add_zero]at h7;exact (h06.cell (p:=⟨bk,off+j*5,none⟩) hb9).trans h7
   have v1_:wr.cell? ⟨bk,off+j*5+1,none⟩=some (.slice ad1 x.name.length cp1):=by have h7:=hcell 1 (by decide);rw [eC]at h7;simp only [List.getElem?_cons_zero,List.getElem?_cons_succ]at h7;exact (h06.cell (p:=⟨bk,off+j*5+1,none⟩) hb9).trans h7
   have v2_:wr.cell? ⟨bk,off+j*5+2,none⟩=some (.slice ad2 x.text.length cp2):=by have h7:=hcell 2 (by decide);rw [eC]at h7;simp only [List.getElem?_cons_zero,List.getElem?_cons_succ]at h7;exact (h06.cell (p:=⟨bk,off+j*5+2,none⟩) hb9).trans h7
   have v3_:wr.cell? ⟨bk,off+j*5+3,none⟩=some (.slice ad3 x.attrs.length cp3):=by have h7:=hcell 3 (by decide);rw [eC]at h7;simp only [List.getElem?_cons_zero,List.getElem?_cons_succ]at h7;exact (h06.cell (p:=⟨bk,off+j*5+3,none⟩) hb9).trans h7
   have v4_:wr.cell? ⟨bk,off+j*5+4,none⟩=some (.slice ad4 x.kids.length cp4):=by have h7:=hcell 4 (by decide);rw [eC]at h7;simp only [List.getElem?_cons_zero,List.getElem?_cons_succ]at h7;exact (h06.cell (p:=⟨bk,off+j*5+4,none⟩) hb9).trans h7
   have hAa:Below wr.heap.size wr (wr.alloc (.cells #[.int .i64 x.kind,.slice ad1 x.name.length cp1,.slice ad2 x.text.length cp2,.slice ad3 x.attrs.length cp3,.slice ad4 x.kids.length cp4] 37)):=(Below.refl _ _).alloc (Nat.le_refl _) _
   rw [eC]at hrd0
   have LL:=hide (And.intro (Loc.made wr #[.int .i64 x.kind,.slice ad1 x.name.length cp1,.slice ad2 x.text.length cp2,.slice ad3 x.attrs.length cp3,.slice ad4 x.kids.length cp4] 37) (And.intro (hs.keep hAa) (And.intro (hf.moreS (Frm.ofBelow hAa []) (fun q hq=>by cases hq)) (And.intro (l0.all hAa) (And.intro (hrd0.keep (zad h06 hAa)) (And.intro (zad h06 hAa) (show wr.heap.size<(wr.alloc (.cells #[.int .i64 x.kind,.slice ad1 x.name.length cp1,.slice ad2 x.text.length cp2,.slice ad3 x.attrs.length cp3,.slice ad4 x.kids.length cp4] 37)).heap.size by simp)))))))
   have HN:=hide hnext
   have HQ4:=hide q4
   have HFK:=hide (show ∀q∈F',q<wr.heap.size from fun q hq=>OwPlsM.lt hs.row q hq)
   have LW:=hide (show w.heap.size+1<=wr.heap.size from l0.lt)
   have HSJ:=hide (SeedIds.J n (iN,iR) ks l j (zaa HK).2.2.1)
   have hml:=(zaa HK).2.2.2.1 j
   clear hs hf l0 hAa hnext q1 q2 q3 q4 eC hcell hx h06 hrd0
   generalize hml':zbm n (iN,iR) ks l j=m at *
   go_upto_region 4 with fail
   obtain⟨lk,hs,hf,l0,hrd3,h03,hw3⟩:=zaa LL
   clear LL v0_ v1_ v2_ v3_ v4_
   have hkb0:=zaa LW
   clear LW
   generalize wr.alloc (.cells #[.int .i64 x.kind,.slice ad1 x.name.length cp1,.slice ad2 x.text.length cp2,.slice ad3 x.attrs.length cp3,.slice ad4 x.kids.length cp4] 37)=w3 at *
   generalize wr.heap.size=kb at *
   have hFk:∀q∈F',q<kb:=zaa HFK
   clear HFK
   obtain⟨cs3,lg3,hc3,_⟩:=hs.set.loc
   have y0:w3.cell? ⟨g,0,none⟩=some (.slice a' m.length c'):=(lg3.cell 0).trans hc3
   have k0_0:=lk.cell 0
   have k1_0:=lk.cell 1
   have k2_0:=lk.cell 2
   have k3_0:=lk.cell 3
   have k4_0:=lk.cell 4
   have gz3:=hs.set.lt
   have kb3:=lk.lt
   have HX:=hide (And.intro lk (And.intro hs (And.intro hf (And.intro l0 h03))))
   clear lk hs hf l0 lg3 hc3 h03
   refine zbT (by kernel_rfl) (Aj4 w3 g kb a' c' m x ad1 ad2 ad3 ad4 cp1 cp2 cp3 cp4 (.agg #[.int .i64 iN,.int .i64 iR]) (.slice (some ⟨bk,off,none⟩) ks.length c4) (undef) (.pointer (some ⟨w.heap.size,0,none⟩)) (undef) (.int .i64 (j:Int)) (.slice (some ⟨bk,off,none⟩) ks.length c4) (.int .i64 (ks.length:Int)) (.int .i64 (j:Int)) (.bool true) (.int .i64 (j:Int)) (.pointer (some ⟨bk,off+j*5,none⟩)) (.agg #[.int .i64 x.kind,.slice ad1 x.name.length cp1,.slice ad2 x.text.length cp2,.slice ad3 x.attrs.length cp3,.slice ad4 x.kids.length cp4]) (u24) (u25) (u26) (u27) (u28) (u29) (u30) (u31) (u32) (u33) (u34) (u35) (u36) (u37) (u38) (u39)) ?sz ?h0 ?stp ?dn
   case sz=>
    intro L a w hI
    refine hI _ ?_
    intro b0 b1 b2 b3 b4 b5 b6 b7 b8 b9 x8 x16 x17 x18 x19 x20 x21 x22 x23 eL eA h0 f0 f1 f2 f3 f4 f5 f6 f7 f8 f9
    subst eL
    rfl
   case h0=>
    exact fun _ k_=>k_ false false false false false false false false false false _ _ _ _ _ _ _ _ _ rfl rfl ((Below.refl _ _).drew) (fun h=>by cases h) (fun h=>by cases h) (fun h=>by cases h) (fun h=>by cases h) (fun h=>by cases h) (fun h=>by cases h) (fun h=>by cases h) (fun h=>by cases h) (fun h=>by cases h) (fun h=>by cases h)
   case stp=>
    intro L a_9 w9_ i_ o_ hI hi ho
    refine hI _ ?_
    clear hI
    intro b0 b1 b2 b3 b4 b5 b6 b7 b8 b9 x8 x16 x17 x18 x19 x20 x21 x22 x23 eL eA h0 f0 f1 f2 f3 f4 f5 f6 f7 f8 f9
    subst eL eA
    rcases zod (zcs hi)with rfl | rfl | rfl | rfl | rfl | rfl | rfl | rfl | rfl | rfl
    ·obtain rfl:=Option.some.inj ho
     go_simp
     exact fun _ k_=>k_ true b1 b2 b3 b4 b5 b6 b7 b8 b9 x8 _ x17 x18 x19 x20 x21 x22 x23 rfl rfl h0 (fun _=>rfl) f1 f2 f3 f4 f5 f6 f7 f8 f9
    ·have g0:=zac hi ho 0
     obtain rfl:=Option.some.inj ho
     have e0:=f0 (g0 (by kernel_rfl))
     subst e0
     go_simp
     exact fun _ k_=>k_ b0 true b2 b3 b4 b5 b6 b7 b8 b9 x8 _ _ x18 x19 x20 x21 x22 x23 rfl rfl h0 f0 (fun _=>rfl) f2 f3 f4 f5 f6 f7 f8 f9
    ·have g1:=zac hi ho 1
     obtain rfl:=Option.some.inj ho
     have e1:=f1 (g1 (by kernel_rfl))
     subst e1
     go_simp
     exact fun _ k_=>k_ b0 b1 true b3 b4 b5 b6 b7 b8 b9 x8 x16 _ _ x19 x20 x21 x22 x23 rfl rfl h0 f0 f1 (fun _=>rfl) f3 f4 f5 f6 f7 f8 f9
    ·have g2:=zac hi ho 2
     obtain rfl:=Option.some.inj ho
     have e2:=f2 (g2 (by kernel_rfl))
     subst e2
     have y0_:=(h0.cell (p:=⟨g,0,none⟩) gz3).trans y0
     go_simp
     exact fun _ k_=>k_ b0 b1 b2 true b4 b5 b6 b7 b8 b9 x8 x16 x17 _ _ x20 x21 x22 x23 rfl rfl h0 f0 f1 f2 (fun _=>rfl) f4 f5 f6 f7 f8 f9
    ·have g3:=zac hi ho 3
     obtain rfl:=Option.some.inj ho
     have e3:=f3 (g3 (by kernel_rfl))
     subst e3
     go_simp
     exact fun _ k_=>k_ b0 b1 b2 b3 true b5 b6 b7 b8 b9 x8 x16 x17 x18 _ _ x21 x22 x23 rfl rfl h0 f0 f1 f2 f3 (fun _=>rfl) f5 f6 f7 f8 f9
    ·have g4:=zac hi ho 4
     obtain rfl:=Option.some.inj ho
     have e4:=f4 (g4 (by kernel_rfl))
     subst e4
     go_simp
     exact fun _ k_=>k_ b0 b1 b2 b3 b4 true b6 b7 b8 b9 x8 x16 x17 x18 x19 _ _ x22 x23 rfl rfl h0 f0 f1 f2 f3 f4 (fun _=>rfl) f6 f7 f8 f9
    ·obtain rfl:=Option.some.inj ho
     have k0_:=(h0.cell (p:=⟨kb,0,none⟩) kb3).trans k0_0
     have k1_:=(h0.cell (p:=⟨kb,1,none⟩) kb3).trans k1_0
     have k2_:=(h0.cell (p:=⟨kb,2,none⟩) kb3).trans k2_0
     have k3_:=(h0.cell (p:=⟨kb,3,none⟩) kb3).trans k3_0
     have k4_:=(h0.cell (p:=⟨kb,4,none⟩) kb3).trans k4_0
     go_simp
     exact fun _ k_=>k_ b0 b1 b2 b3 b4 b5 true b7 b8 b9 x8 x16 x17 x18 x19 x20 x21 _ x23 rfl rfl h0 f0 f1 f2 f3 f4 f5 (fun _=>rfl) f7 f8 f9
    ·have g5:=zac hi ho 5
     have g6:=zac hi ho 6
     obtain rfl:=Option.some.inj ho
     have e5:=f5 (g5 (by kernel_rfl))
     have e6:=f6 (g6 (by kernel_rfl))
     subst e5 e6
     have HC:=hide (zeM n w9_ (0,(m.length:Int)) x _ _ _ _ (RdNode.keep (n:=n+1) hrd3 h0) hsx)
     unfold zaq at HC
     have hw39:=h0.size
     go_simp
     refine (zaa HC).mono ?_
     rintro e w8 ⟨p2,k2,p3,k3,p4,k4,Fa,rfl,o1,o2,o3,o4,o5,hb9⟩
     exact fun _ k_=>k_ b0 b1 b2 b3 b4 b5 b6 true b8 b9 x8 x16 x17 x18 x19 x20 _ _ _ rfl rfl (zad h0 hb9) f0 f1 f2 f3 f4 (fun _=>rfl) (fun _=>rfl) (fun _=>⟨p2,k2,p3,k3,p4,k4,Fa,rfl,o1,o2,o3,o4,fun q hq=>Nat.le_trans hw39 (o5 q hq)⟩) (fun h=>by obtain⟨pb,e,hz,t⟩:=f8 h;exact⟨pb,e,hz,fun h=>(t h).all hb9⟩) (fun h=>by obtain⟨z,pb,p2,k2,p3,k3,p4,k4,Fa,e,l9,o1,o2,o3,o4,o5⟩:=f9 h;exact⟨z,pb,p2,k2,p3,k3,p4,k4,Fa,e,l9.all hb9,o1.keep hb9,o2.keep hb9,OwAttrs.frm o3 (Frm.ofBelow hb9 []) (fun _ _=>by simp),o4,o5⟩)
    ·have hbz:b8=false:=by simpa using zai rfl hi
     obtain rfl:=Option.some.inj ho
     have hb9:Below w9_.heap.size w9_ (w9_.alloc (.cells #[.int .i64 0,.int .i64 0,.int .i64 0,.int .i64 0,.slice none 0 0,.int .i64 0,.slice none 0 0,.slice none 0 0,.slice none 0 0] 117)):=(Below.refl _ _).alloc (Nat.le_refl _) _
     have lm9:=Loc.made w9_ #[.int .i64 0,.int .i64 0,.int .i64 0,.int .i64 0,.slice none 0 0,.int .i64 0,.slice none 0 0,.slice none 0 0,.slice none 0 0] 117
     have hw9:=h0.size
     have HBZ:=hide hbz
     clear hbz
     go_simp
     exact fun _ k_=>k_ b0 b1 b2 b3 b4 b5 b6 b7 true b9 _ x16 x17 x18 x19 x20 x21 x22 x23 rfl rfl (zad h0 hb9) f0 f1 f2 f3 f4 f5 f6 (fun h=>by obtain⟨p2,k2,p3,k3,p4,k4,Fa,e,o1,o2,o3,o4,o5⟩:=f7 h;exact⟨p2,k2,p3,k3,p4,k4,Fa,e,o1.keep hb9,o2.keep hb9,OwAttrs.frm o3 (Frm.ofBelow hb9 []) (fun _ _=>by simp),o4,o5⟩) (fun _=>⟨w9_.heap.size,rfl,hw9,fun _=>lm9⟩) (fun h=>by have:=(f9 h).1;rw [zaa HBZ]at this;cases this)
    ·have g7:=zac hi ho 7
     have g8:=zac hi ho 8
     have hbz:b9=false:=by simpa using zai rfl hi
     obtain rfl:=Option.some.inj ho
     have t8:b8=true:=g8 (by kernel_rfl)
     obtain⟨p2,k2,p3,k3,p4,k4,Fa,en,o1,o2,o3,o4,o5⟩:=f7 (g7 (by kernel_rfl))
     obtain⟨pb,ep,hp,lp0⟩:=f8 t8
     have lp:=lp0 hbz
     obtain⟨lpn,fpn⟩:=zkZ lp (.int .i64 0) (.int .i64 (m.length:Int)) (.int .i64 0) (.int .i64 0) (.slice none 0 0) (.int .i64 x.kind) (.slice p2 x.name.length k2) (.slice p3 x.text.length k3) (.slice p4 x.attrs.length k4)
     have hB9:=h0.trans (fpn.below h0.size (fun q hq=>by simp at hq;omega))
     have q1:=o1.frm fpn (fun q hq hq'=>zdl o1.2 lp (by decide) (by have e9:q=pb:=(by simpa using hq');rw [<-e9];exact hq))
     have q2:=o2.frm fpn (fun q hq hq'=>zdl o2.2 lp (by decide) (by have e9:q=pb:=(by simpa using hq');rw [<-e9];exact hq))
     have q3:=OwAttrs.frm o3 fpn (fun q hq hq'=>zhV o3 lp (by have e9:q=pb:=(by simpa using hq');rw [<-e9];exact hq))
     have fz0:=lp.frozen 0
     have fz1:=lp.frozen 1
     have fz2:=lp.frozen 2
     have fz3:=lp.frozen 3
     have fz4:=lp.frozen 4
     have fz5:=lp.frozen 5
     have fz6:=lp.frozen 6
     have fz7:=lp.frozen 7
     have fz8:=lp.frozen 8
     have cz0:=lp.cell 0
     have cz1:=lp.cell 1
     have cz2:=lp.cell 2
     have cz3:=lp.cell 3
     have cz4:=lp.cell 4
     have cz5:=lp.cell 5
     have cz6:=lp.cell 6
     have cz7:=lp.cell 7
     have cz8:=lp.cell 8
     have HW:=hide (And.intro t8 (And.intro lpn (And.intro hB9 (And.intro q1 (And.intro q2 q3)))))
     clear t8 lpn fpn hB9 hbz lp lp0 q1 q2 q3 o1 o2 o3
     subst ep en
     go_simp
     exact fun _ k_=>k_ b0 b1 b2 b3 b4 b5 b6 b7 b8 true _ x16 x17 x18 x19 x20 x21 x22 _ rfl rfl ((zaa HW).2.2.1) f0 f1 f2 f3 f4 f5 f6 (fun _=>⟨p2,k2,p3,k3,p4,k4,Fa,rfl,(zaa HW).2.2.2.1,(zaa HW).2.2.2.2.1,(zaa HW).2.2.2.2.2,o4,o5⟩) (fun _=>⟨pb,rfl,hp,fun h=>by cases h⟩) (fun _=>⟨(zaa HW).1,pb,p2,k2,p3,k3,p4,k4,Fa,rfl,(zaa HW).2.1,(zaa HW).2.2.2.1,(zaa HW).2.2.2.2.1,(zaa HW).2.2.2.2.2,o4,o5⟩)
   case dn=>
    intro L a_9 w9_ hI hre
    have hall:=zbF (L:=L) (by refine hI _ ?_;intro b0 b1 b2 b3 b4 b5 b6 b7 b8 b9 x8 x16 x17 x18 x19 x20 x21 x22 x23 eL eA h0 f0 f1 f2 f3 f4 f5 f6 f7 f8 f9;subst eL;rfl) (by kernel_rfl) hre 10
    refine hI _ ?_
    clear hI
    intro b0 b1 b2 b3 b4 b5 b6 b7 b8 b9 x8 x16 x17 x18 x19 x20 x21 x22 x23 eL eA h0 f0 f1 f2 f3 f4 f5 f6 f7 f8 f9
    subst eL eA
    have t9:b9=true:=hall 9 (by omega) (by decide)
    obtain⟨t8,pb9,p2,k2,p3,k3,p4,k4,Fa,ep,lp5,o1,o2,o3,o4,o5⟩:=f9 t9
    obtain⟨pb',ep9,hp9,_⟩:=f8 t8
    have EP:=ep9.symm.trans ep
    injection EP with y1
    injection y1 with y1
    injection y1 with y1 _ _
    subst y1
    clear ep9
    subst ep
    obtain⟨lk,hs,hf,l0,h03⟩:=zaa HX
    clear HX hall hre t9 t8 f0 f1 f2 f3 f4 f5 f6 f7 f8 f9 y0 k0_0 k1_0 k2_0 k3_0 k4_0 hrd3
    replace lk:=lk.all h0
    replace l0:=l0.all h0
    have hgz:=hs.set.lt
    have hmz:=hs.map.lt
    replace hs:=hs.keep h0
    replace hf:=hf.moreS (Frm.ofBelow h0 []) (fun q hq=>by cases hq)
    replace h03:=h03.trans (h0.mono h03.size)
    have hw35:=h0.size
    clear h0
    obtain⟨w5,hw5⟩:∃w5,w5=w9_:=⟨_,rfl⟩
    rw [<-hw5]at lp5 lk l0 hs hf o1 o2 o3 hw35 h03 ⊢
    clear hw5
    obtain⟨pb,hpb⟩:∃pb,pb=pb':=⟨_,rfl⟩
    rw [<-hpb]at lp5 hp9 ⊢
    clear hpb
    have hwr:IntKind.i64.wrap ((j:Int)+1)=(j:Int)+1:=by rw [IntKind.wrap_i64];have:=hK63;omega
    have i0:=l0.cell 0
    have i1:=l0.cell 1
    have hb6:Below w5.heap.size w5 (w5.alloc (.cells #[.int .i64 ((j:Int)+1)] 3)):=(Below.refl _ _).alloc (Nat.le_refl _) _
    have lz:=Loc.made w5 #[.int .i64 ((j:Int)+1)] 3
    have lp6:=lp5.all hb6
    have z0:(w5.alloc (.cells #[.int .i64 ((j:Int)+1)] 3)).cell? ⟨pb,2,none⟩=_:=lp6.cell 2
    have z1:(w5.alloc (.cells #[.int .i64 ((j:Int)+1)] 3)).cell? ⟨pb,3,none⟩=_:=lp6.cell 3
    have z2:(w5.alloc (.cells #[.int .i64 ((j:Int)+1)] 3)).cell? ⟨pb,4,none⟩=_:=lp6.cell 4
    have i0':(w5.alloc (.cells #[.int .i64 ((j:Int)+1)] 3)).cell? ⟨w.heap.size,0,none⟩=_:=(l0.all hb6).cell 0
    have i1':(w5.alloc (.cells #[.int .i64 ((j:Int)+1)] 3)).cell? ⟨w.heap.size,1,none⟩=_:=(l0.all hb6).cell 1
    have zf0:=lp6.frozen 2
    have zf1:=lp6.frozen 3
    have zf2:=lp6.frozen 4
    have lp7:=((lp6.set 2 (.int .i64 iN)).set 3 (.int .i64 iR)).set 4 (.slice (some ⟨w5.heap.size,0,none⟩) 1 1)
    have f7:Frm (w5.alloc (.cells #[.int .i64 ((j:Int)+1)] 3)) ((((w5.alloc (.cells #[.int .i64 ((j:Int)+1)] 3)).setCell ⟨pb,2,none⟩ (.int .i64 iN)).setCell ⟨pb,3,none⟩ (.int .i64 iR)).setCell ⟨pb,4,none⟩ (.slice (some ⟨w5.heap.size,0,none⟩) 1 1)) [pb]:=((zab _ pb 2 _).trans (zab _ pb 3 _)).trans (zab _ pb 4 _)
    have HS:=hide (And.intro lp7 (And.intro f7 (And.intro hb6 (And.intro lz (And.intro lp5 (And.intro lk (And.intro l0 (And.intro hs (And.intro hf (And.intro o1 (And.intro o2 o3)))))))))))
    clear lp7 f7 hb6 lz lp5 lp6 lk l0 hs hf o1 o2 o3
    go_upto_region 6 with fail
    obtain⟨lp7,f7,hb6,lz,lp5,lk,l0,hs,hf,o1,o2,o3⟩:=zaa HS
    have hs6:(w5.alloc (.cells #[.int .i64 ((j:Int)+1)] 3)).heap.size=w5.heap.size+1:=by simp
    have hpz:=lp5.lt
    have hw6:(((((w5.alloc (.cells #[.int .i64 ((j:Int)+1)] 3)).setCell ⟨pb,2,none⟩ (.int .i64 iN)).setCell ⟨pb,3,none⟩ (.int .i64 iR)).setCell ⟨pb,4,none⟩ (.slice (some ⟨w5.heap.size,0,none⟩) 1 1))).heap.size=w5.heap.size+1:=by simp
    clear HS z0 z1 z2 zf0 zf1 zf2 i0 i1 i0' i1'
    generalize hWW:(((((w5.alloc (.cells #[.int .i64 ((j:Int)+1)] 3)).setCell ⟨pb,2,none⟩ (.int .i64 iN)).setCell ⟨pb,3,none⟩ (.int .i64 iR)).setCell ⟨pb,4,none⟩ (.slice (some ⟨w5.heap.size,0,none⟩) 1 1)))=w7 at *
    have hnpb:∀q,q<kb->q∉[pb]:=fun q hq e=>by have e9:q=pb:=(by simpa using e);omega
    have hs7:=(hs.keep hb6).frm f7 (hnpb g (by have:=hFk;have:=(zaa HGF).1;omega)) (hnpb mb (by have:=(zaa HGF).2.1;omega)) (fun q hq=>hnpb q (hFk q hq)) (fun q hq=>by have e9:q=pb:=(by simpa using hq);rw [e9];exact Cells.ofL (lp5.all hb6))
    have lk7:=(lk.all hb6).frm f7 (by simp;omega)
    have l07:=(l0.all hb6).frm f7 (by simp;omega)
    have lz7:=lz.frm f7 (by simp;omega)
    have o17:=(o1.keep hb6).frm f7 (fun q hq e=>by have e9:q=pb:=(by simpa using e);exact zdl o1.2 lp5 (by decide) (by rw [<-e9];exact hq))
    have o27:=(o2.keep hb6).frm f7 (fun q hq e=>by have e9:q=pb:=(by simpa using e);exact zdl o2.2 lp5 (by decide) (by rw [<-e9];exact hq))
    have o37:=OwAttrs.frm (OwAttrs.frm o3 (Frm.ofBelow hb6 []) (fun _ _=>by simp)) f7 (fun q hq e=>by have e9:q=pb:=(by simpa using e);exact zhV o3 lp5 (by rw [<-e9];exact hq))
    have hoz:OwnZ w7 0 (.slice (some ⟨w5.heap.size,0,none⟩) 1 1) [(j:Int)+1]:=⟨fun q hq=>by simp at hq;omega,⟨rfl,.inr ⟨w5.heap.size,1,_,rfl,Nat.zero_le _,lz7,Nat.le_refl _,by decide,rfl,rfl⟩⟩⟩
    obtain⟨y,hy⟩:∃y,y=zaO m.length (iN,iR) x j:=⟨_,rfl⟩
    have hlt5:∀q∈FB (.slice p2 x.name.length k2)++FB (.slice p3 x.text.length k3)++Fa,q<w5.heap.size:=fun q hq=>by
     rcases List.mem_append.1 hq with hq | hq
     ·rcases List.mem_append.1 hq with hq | hq
      ·exact (o1.lt q (by simpa [FB]using hq)).2
      ·exact (o2.lt q (by simpa [FB]using hq)).2
     ·exact OwAttrs.lt o3 q hq
    have hPc:OwPlM w7 [.int .i64 0,.int .i64 (m.length:Int),.int .i64 iN,.int .i64 iR,.slice (some ⟨w5.heap.size,0,none⟩) 1 1,.int .i64 x.kind,.slice p2 x.name.length k2,.slice p3 x.text.length k3,.slice p4 x.attrs.length k4] y (FB (.slice (some ⟨w5.heap.size,0,none⟩) 1 1)++FB (.slice p2 x.name.length k2)++FB (.slice p3 x.text.length k3)++Fa):=by
     rw [hy]
     exact⟨_,_,_,_,Fa,rfl,hoz,o17.rowm,o27,o37,rfl⟩
    have hGz:FB (.slice (some ⟨w5.heap.size,0,none⟩) 1 1)=[w5.heap.size]:=rfl
    have hGm:∀q,q∈FB (.slice (some ⟨w5.heap.size,0,none⟩) 1 1)++FB (.slice p2 x.name.length k2)++FB (.slice p3 x.text.length k3)++Fa->q=w5.heap.size∨q∈FB (.slice p2 x.name.length k2)++FB (.slice p3 x.text.length k3)++Fa:=fun q hq=>by
     rw [hGz,List.append_assoc,List.append_assoc]at hq
     rcases List.mem_append.1 hq with hq | hq
     ·exact .inl (by simpa using hq)
     ·exact .inr (by rw [List.append_assoc];exact hq)
    have hGn:(FB (.slice (some ⟨w5.heap.size,0,none⟩) 1 1)++FB (.slice p2 x.name.length k2)++FB (.slice p3 x.text.length k3)++Fa).Nodup:=by
     rw [hGz,List.append_assoc,List.append_assoc]
     rw [List.append_assoc]at o4 hlt5
     exact List.nodup_append.2 ⟨by simp,o4,fun q hq q' hq' e=>by
      have e9:q=w5.heap.size:=by simpa using hq
      have:=hlt5 q' hq'
      omega⟩
    have hG3:∀q∈FB (.slice (some ⟨w5.heap.size,0,none⟩) 1 1)++FB (.slice p2 x.name.length k2)++FB (.slice p3 x.text.length k3)++Fa,w3.heap.size<=q:=fun q hq=>by
     rcases hGm q hq with e | e
     ·omega
     ·exact o5 q e
    have hgB:=hs.geg
    have hidy:okI y.id:=by rw [hy];exact zdp hml
    have hpary:okI y.par:=by rw [hy];exact (zaa HK).2.1
    have hNX:=zaa HN
    have hm5:m.length+1<=100000:=by
     have h7:=(zaa HK).2.2.2.1 (j+1)
     rw [hNX]at h7
     exact Nat.le_trans (zfq n (iN,iR) m (x,j)) h7
    have HNX:=hide (show zbm n (iN,iR) ks l (j+1)=zaB n (0,(m.length:Int)) x.kids (m++[y]) from hNX.trans (by rw [hy];rfl))
    have hkey:y.key.length=1:=by rw [hy];rfl
    have hlens:y.name=x.name∧y.text=x.text∧y.attrs=x.attrs∧y.kind=x.kind∧y.idN=0∧y.idR=(m.length:Int)∧y.parN=iN∧y.parR=iR:=by rw [hy];exact⟨rfl,rfl,rfl,rfl,rfl,rfl,rfl,rfl⟩
    obtain⟨e1,e2,e3,e4,e5,e6,e7,e8⟩:=hlens
    have HC:=zgF hs7 y (some ⟨w5.heap.size,0,none⟩) p2 p3 p4 1 k2 k3 k4 _ (by rw [e1,e2,e3,e4,e5,e6,e7,e8,hkey];exact hPc) hGn (fun q hq=>Nat.le_trans (Nat.le_trans hgB (Nat.le_of_lt hgz)) (hG3 q hq)) (fun q hq hq'=>by have:=hG3 q hq';have:=hFk q hq;omega) hidy hpary (by show posP m (y.idN,y.idR)=none;rw [e5,e6];exact (zaa HSJ).new) hm5
    rw [e1,e2,e3,e4,e5,e6,e7,e8,hkey]at HC
    have HC:=hide HC
    have c0:=lp7.cell 0
    have c1:=lp7.cell 1
    have c2:=lp7.cell 2
    have c3:=lp7.cell 3
    have c4:=lp7.cell 4
    have c5:=lp7.cell 5
    have c6:=lp7.cell 6
    have c7:=lp7.cell 7
    have c8:=lp7.cell 8
    have HZ:=hide (And.intro lp7 (And.intro lk7 (And.intro l07 (And.intro (hf.moreS (Frm.ofBelow hb6 []) (fun q hq=>by cases hq)) (And.intro f7 hG3)))))
    clear hy hNX hPc hoz hGn hGm hlt5 o1 o2 o3 o17 o27 o37 lz lz7 hs hs7 lp7 lk7 l07 lp5 lk l0 hf f7 hb6
    go_upto_region 7 with (go_at_call 58;refine (zaa HC).mono ?_;rintro e w8 ⟨rfl,a8,c8_,F8,hs8,hf8,hF8⟩)
    obtain⟨lp7,lk7,l07,hf,f7,hG3⟩:=zaa HZ
    have hN8:∀q,q<kb∨(kb<=q∧q<w3.heap.size)∨q=pb->q∉F'->q≠g->q≠mb->q∉g::mb::F':=fun q _ h1 h2 h3 e=>by
     rcases List.mem_cons.1 e with e | e
     ·exact h2 e
     ·rcases List.mem_cons.1 e with e | e
      ·exact h3 e
      ·exact h1 e
    have hgw:=(zaa HGF).1
    have hmw:=(zaa HGF).2.1
    have lk8:=lk7.frm hf8 (hN8 kb (.inr (.inl ⟨Nat.le_refl _,kb3⟩)) (fun e=>by have:=hFk kb e;omega) (by omega) (by omega))
    have lp8:=lp7.frm hf8 (hN8 pb (.inr (.inr rfl)) (fun e=>by have:=hFk pb e;omega) (by omega) (by omega))
    have l08:=l07.frm hf8 (hN8 w.heap.size (.inl (by omega)) (fun e=>by rcases hF' _ e with e | e;(have:=(zaa HGF).2.2.1 _ e;omega);omega) (by omega) (by omega))
    have hsub8:∀q∈g::mb::F',q∈g::mb::F∨w.heap.size<=q:=fun q hq=>by
     rcases List.mem_cons.1 hq with rfl | hq
     ·exact .inl (List.mem_cons_self ..)
     ·rcases List.mem_cons.1 hq with rfl | hq
      ·exact .inl (List.mem_cons_of_mem _ (List.mem_cons_self ..))
      ·rcases hF' q hq with e | e
       ·exact .inl (List.mem_cons_of_mem _ (List.mem_cons_of_mem _ e))
       ·right;omega
    have hf8w:=(hf.moreS f7 (fun q hq=>by have e9:q=pb:=(by simpa using hq);right;omega)).moreS hf8 hsub8
    have hF8w:∀q∈F8,q∈F∨w.heap.size+1<=q:=fun q hq=>by
     rcases hF8 q hq with e | e | e
     ·exact hF' q e
     ·have:=hG3 q e;right;omega
     ·right;omega
    have hge8:∀q∈g::mb::F,w0.heap.size<=q:=fun q hq=>Nat.le_trans (zaa HK).2.2.2.2.2.1 ((zaa HGF).2.2.2 q hq)
    have hw08:Below w0.heap.size w0 w8:=(zaa HK).2.2.2.2.2.2.trans (hf8w.below (zaa HK).2.2.2.2.2.2.size hge8)
    have hlen9:(zaB n (0,(m.length:Int)) x.kids (m++[y])).length<=100000:=by rw [<-zaa HNX];exact (zaa HK).2.2.2.1 (j+1)
    have HC2:=hide (zaa HI w0 B w8 g mb a8 c8_ (m++[y]) F8 0 (m.length:Int) x.kids ad4 cp4 (zaa HK).2.2.2.2.2.1 hw08 hs8 (zaa HQ4) (zdp hml) ((zaa HSJ).snoc e5 e6) hlen9 (fun z hz=>Nat.le_trans (zlN hz) hsx))
    have k0:=lk8.cell 4
    have d0:=lp8.cell 0
    have d1:=lp8.cell 1
    have HY:=hide (And.intro l08 (And.intro hf8w hF8w))
    clear lk8 lp8 l08 hf8w hF8w hs8 hf8 hF8 hf f7 hG3 lp7 lk7 l07 HZ HC c0 c1 c2 c3 c4 c5 c6 c7 c8 hw08 hge8 hsub8 hN8
    go_wp2_with fail
    refine (zaa HC2).mono ?_
    rintro e w9 ⟨rfl,a9,c9,F9,hs9,hf9,hF9⟩
    obtain⟨l08,hf8w,hF8w⟩:=zaa HY
    have hs89:=hf8w.size
    have hl8:=l08.lt
    have l09:=l08.frm hf9 (fun e=>by
     rcases List.mem_cons.1 e with e | e
     ·omega
     ·rcases List.mem_cons.1 e with e | e
      ·omega
      ·rcases hF8w _ e with e | e
       ·have:=(zaa HGF).2.2.1 _ e;omega
       ·omega)
    have hf9w:=hf8w.moreS hf9 (fun q hq=>by
     rcases List.mem_cons.1 hq with rfl | hq
     ·exact .inl (List.mem_cons_self ..)
     ·rcases List.mem_cons.1 hq with rfl | hq
      ·exact .inl (List.mem_cons_of_mem _ (List.mem_cons_self ..))
      ·rcases hF8w q hq with e | e
       ·exact .inl (List.mem_cons_of_mem _ (List.mem_cons_of_mem _ e))
       ·right;omega)
    have hF9w:∀q∈F9,q∈F∨w.heap.size+1<=q:=fun q hq=>by
     rcases hF9 q hq with e | e
     ·exact hF8w q e
     ·right;omega
    have HE:=hide (And.intro (show FoS B w9 g mb a9 c9 (zbm n (iN,iR) ks l (j+1)) F9 by rw [zaa HNX];exact hs9) (And.intro hf9w (And.intro hF9w l09)))
    clear hs9 hf9 hF9 hf9w hF9w l09 l08 hf8w hF8w HY HC2 k0 d0 d1
    go_wp2_with fail
    go_roundw
    case rel=>exact⟨j+1,a9,c9,F9,by omega,by go_num,(zaa HE).1,(zaa HE).2.1,(zaa HE).2.2.1,(zaa HE).2.2.2⟩
    case measure=>simp [intOf];omega
  ·have hlt':¬ (j:Int)<(ks.length:Int):=by omega
   have HE:=hide (zaa HQ (.returned (.tuple #[])) wr ⟨rfl,a',c',F',by rw [zaa HR,<-ziZ n (iN,iR) ks l (show ks.length<=j by omega)];exact hs,hf,fun q hq=>(hF' q hq).imp id (fun h=>by omega)⟩)
   clear hs hf l0 hF' HQ
   go_wp2_with fail
   go_end0
   exact zaa HE
theorem zjH:zgC 0:=by
 intro w0 B w g mb a c l F iN iR ks a4 c4 hB0 hw0 h hK hi hS hN hZ
 refine zaf ?_
 intro Q HQ
 obtain rfl:ks=[]:=by
  cases ks with
  | nil=>rfl
  | cons x r=>exact x.elim
 have hA:Below w.heap.size w (w.alloc (.cells #[.int .i64 iN,.int .i64 iR] 81)):=(Below.refl _ _).alloc (Nat.le_refl _) _
 have HE:=hide (zaa HQ (.returned (.tuple #[])) _ ⟨rfl,a,c,F,h.keep hA,Frm.ofBelow hA _,fun q hq=>.inl hq⟩)
 clear hA h hK hN HQ
 go_enter Tryz.func87,Tryz.ntmps87
 go_wp2_with fail
 go_loopw [11] (fun xv wr=>xv=.int .i64 0∧wr=(w.alloc (.cells #[.int .i64 iN,.int .i64 iR] 81))) (fun _ _=>0)
 case atStart=>exact⟨rfl,rfl⟩
 case round=>
  obtain⟨rfl,rfl⟩:=hrel
  go_wp2_with fail
  go_end0
  exact zaa HE
theorem zgL:∀n,zgC n
 | 0=>zjH
 | n+1=>zks n (zgL n)
theorem zju (n:Nat) (w:Xe) (nm:Xa) (ats:List AtV) (ks:List (Tr n)) (a1 a2 a3 a4:Xc) (c1 c2 c3 c4:Nat) (hrd:RdNode (n+1) w [.int .i64 0,.slice a1 nm.length c1,.slice a2 0 c2,.slice a3 ats.length c3,.slice a4 ks.length c4] (⟨0,nm,[],ats,ks⟩:Nd (Tr n))) (hsz:szT (n+1) (⟨0,nm,[],ats,ks⟩:Nd (Tr n))<=2097152) :
  Calls Tryz.prog 86 #[.agg #[.int .i64 0,.int .i64 0],.agg #[.int .i64 0,.slice a1 nm.length c1,.slice a2 0 c2,.slice a3 ats.length c3,.slice a4 ks.length c4]] w fun e w'=>∃p2 k2 p3 k3 p4 k4 Fa,e=.returned (.agg #[.int .i64 0,.int .i64 0,.int .i64 0,.int .i64 0,.slice none 0 0,.int .i64 0,.slice p2 nm.length k2,.slice p3 0 k3,.slice p4 ats.length k4])∧
   Own w' 0 (.slice p2 nm.length k2) nm∧Own w' 0 (.slice p3 0 k3) []∧OwAttrs w' (.slice p4 ats.length k4) ats Fa∧(FB (.slice p2 nm.length k2)++FB (.slice p3 0 k3)++Fa).Nodup∧(∀q∈FB (.slice p2 nm.length k2)++FB (.slice p3 0 k3)++Fa,w.heap.size<=q)∧Below w.heap.size w w':=
 zeM n w (0,0) (⟨0,nm,[],ats,ks⟩:Nd (Tr n)) _ _ _ _ hrd hsz
set_option maxHeartbeats 12800000 in
theorem zkd (n:Nat) (w:Xe) (nm:Xa) (ats:List AtV) (ks:List (Tr n)) (a1 a2 a3 a4 a5:Xc) (c1 c2 c3 c4 c5:Nat) (ops:List OpV) (hrd:RdNode (n+1) w [.int .i64 0,.slice a1 nm.length c1,.slice a2 0 c2,.slice a3 ats.length c3,.slice a4 ks.length c4] (⟨0,nm,[],ats,ks⟩:Nd (Tr n))) (h5:RdOps w (.slice a5 ops.length c5) ops)
  (hN:okN n (⟨0,nm,[],ats,ks⟩:Nd (Tr n))=true) (hO:opsB ops=true) (hsz:szT (n+1) (⟨0,nm,[],ats,ks⟩:Nd (Tr n))<=2097152) (hG:Glo w) :
  Calls Tryz.prog 52 #[.agg #[.int .i64 0,.slice a1 nm.length c1,.slice a2 0 c2,.slice a3 ats.length c3,.slice a4 ks.length c4],.slice a5 ops.length c5] w fun e w'=>∃g mb a c F B,e=.returned (.pointer (some ⟨g,0,none⟩))∧w.heap.size<=B∧FoS B w' g mb a c (zaK (⟨0,nm,[],ats,ks⟩:Nd (Tr n)) ops) F∧Below w.heap.size w w':=by
 refine zaf ?_
 intro Q HQ
 have hw2:2<=w.heap.size:=by have h9:=zaJ hG.2.2.1;exact h9
 have hA:Below w.heap.size w (w.alloc (.cells #[.int .i64 0,.slice a1 nm.length c1,.slice a2 0 c2,.slice a3 ats.length c3,.slice a4 ks.length c4] 37)):=(Below.refl _ _).alloc (Nat.le_refl _) _
 have lb:=Loc.made w #[.int .i64 0,.slice a1 nm.length c1,.slice a2 0 c2,.slice a3 ats.length c3,.slice a4 ks.length c4] 37
 have hs1:(w.alloc (.cells #[.int .i64 0,.slice a1 nm.length c1,.slice a2 0 c2,.slice a3 ats.length c3,.slice a4 ks.length c4] 37)).heap.size=w.heap.size+1:=by simp
 have HF:=hide (zfC (w.alloc (.cells #[.int .i64 0,.slice a1 nm.length c1,.slice a2 0 c2,.slice a3 ats.length c3,.slice a4 ks.length c4] 37)))
 rw [hs1]at HF
 have h4:RdKids n w (.slice a4 ks.length c4) ks:=by obtain⟨_,_,_,_,e,_,_,_,_,_,hk⟩:=hrd;cases e;exact hk
 have hkz:∀x∈ks,szT n x<=2097152:=fun x hx=>Nat.le_trans (zlN (t:=(⟨0,nm,[],ats,ks⟩:Nd (Tr n))) hx) hsz
 have hol:=(zdb hO).1
 have HX:=hide (And.intro hA (And.intro lb (And.intro hrd (And.intro h4 (And.intro h5 (And.intro hG (And.intro hN (And.intro hO (And.intro hsz hkz)))))))))
 clear hA lb hrd h4 h5 hG hN hO hsz hkz
 go_enter Tryz.func52,Tryz.ntmps52
 go_wp2_with fail
 refine (zaa HF).mono ?_
 rintro e w2 ⟨rfl,hs,hb2⟩
 obtain⟨hA,lb,hrd,h4,h5,hG,hN,hO,hsz,hkz⟩:=zaa HX
 generalize (w.alloc (.cells #[.int .i64 0,.slice a1 nm.length c1,.slice a2 0 c2,.slice a3 ats.length c3,.slice a4 ks.length c4] 37))=w1 at *
 generalize hB:w.heap.size+1=B at *
 have hb2':Below w1.heap.size w1 w2:=by rw [hs1];exact hb2
 have lb2:=lb.all hb2'
 have hA2:=zad hA hb2'
 have hG2:=hG.keep hA2
 obtain⟨y0,y1,y2,y3⟩:=id hG2
 have x0:=lb2.cell 0
 have x1:=lb2.cell 1
 have x2:=lb2.cell 2
 have x3:=lb2.cell 3
 have x4:=lb2.cell 4
 have HP:=hide (zju n w2 nm ats ks a1 a2 a3 a4 c1 c2 c3 c4 (hrd.keep hA2) hsz)
 have hlt2:B+2<=w2.heap.size:=by have:=hs.set.lt;omega
 have HB:=hide hB
 have HY:=hide (And.intro hs (And.intro lb2 hA2))
 clear hs lb2 hA2 hG2 hb2 hb2' HF hA lb hB hs1
 go_wp2_with (go_at_call 86;refine (zaa HP).mono ?_;rintro e w3 ⟨p2,k2,p3,k3,p4,k4,Fa,rfl,o2,o3,o4,hnd,hrg,hb3⟩)
 obtain⟨hs,lb2,hA2⟩:=zaa HY
 have hs3:=hs.keep hb3
 have hrg':∀q∈FB (.slice none 0 0)++FB (.slice p2 nm.length k2)++FB (.slice p3 0 k3)++Fa,B<=q:=fun q hq=>by have:=hrg q (by simpa [FB,Value.ownBlock]using hq);omega
 have HA1:=hide (zgF hs3 (zeD (⟨0,nm,[],ats,ks⟩:Nd (Tr n))) none p2 p3 p4 0 k2 k3 k4 (FB (.slice none 0 0)++FB (.slice p2 nm.length k2)++FB (.slice p3 0 k3)++Fa) ⟨_,_,_,_,Fa,rfl,zfv _ _,o2.rowm,o3,o4,rfl⟩ (by simpa [FB,Value.ownBlock]using hnd) hrg' (fun q hq=>by cases hq) (zdp (m:=0) (by omega)) (zdp (m:=0) (by omega)) rfl (by simp))
 have HY3:=hide (And.intro (lb2.all hb3) (And.intro (zad hA2 hb3) (show w2.heap.size<=w3.heap.size from hb3.size)))
 clear HY hs lb2 hA2 hs3 o2 o3 o4 hnd hrg hrg' hb3 HP x0 x1 x2 x3 x4 y0 y1 y2 y3
 refine (zaa HA1).mono ?_
 rintro e w4 ⟨rfl,a4_,c4_,F4,hs4,hf4,hF4⟩
 obtain⟨lb3,hA3,hs23⟩:=zaa HY3
 have hBv:=zaa HB
 have hge4:∀q∈(B+1)::B::([]:Xb),w.heap.size+1<=q:=fun q hq=>by simp at hq;omega
 have hA4:Below w.heap.size w w4:=hA3.trans (hf4.below hA3.size (fun q hq=>by have:=hge4 q hq;omega))
 have lb4:=lb3.frm hf4 (fun e=>by have:=hge4 _ e;omega)
 have hs34:=hf4.size
 have hG4:=hG.keep hA4
 obtain⟨y0,y1,y2,y3⟩:=id hG4
 have hA5:Below w4.heap.size w4 (w4.alloc (.cells #[.int .u8 116,.int .u8 114,.int .u8 97,.int .u8 115,.int .u8 104] 5)):=(Below.refl _ _).alloc (Nat.le_refl _) _
 have ltr:=Loc.made w4 #[.int .u8 116,.int .u8 114,.int .u8 97,.int .u8 115,.int .u8 104] 5
 have hlt4:=OwPlsM.lt hs4.row
 obtain⟨w5,hcv,fcv,hsz5,otr⟩:=zkH (w4.alloc (.cells #[.int .u8 116,.int .u8 114,.int .u8 97,.int .u8 115,.int .u8 104] 5)) w4.heap.size ltr
 have hg4:=hs4.set.lt
 have hm4:=hs4.map.lt
 have hsz5':w5.heap.size=w4.heap.size+1:=by rw [hsz5];simp
 have hp4:∀q,q<w4.heap.size->q∉[w4.heap.size]:=fun q hq e=>by have e9:q=w4.heap.size:=(by simpa using e);omega
 have hs5:=(hs4.keep hA5).frm fcv (hp4 _ hg4) (hp4 _ hm4) (fun q hq=>hp4 q (hlt4 q hq)) (fun q hq=>by have e9:q=w4.heap.size:=(by simpa using hq);rw [e9];exact Cells.ofL ltr)
 have hA5':Below w4.heap.size w4 w5:=hA5.trans (fcv.below hA5.size (fun q hq=>by have e9:q=w4.heap.size:=(by simpa using hq);omega))
 have HA2:=hide (zgF hs5 zaP none (some ⟨w4.heap.size,0,none⟩) none none 0 5 0 0 (FB (.slice none 0 0)++FB (.slice (some ⟨w4.heap.size,0,none⟩) 5 5)++FB (.slice none 0 0)++[]) ⟨_,_,_,_,[],rfl,zfv _ _,otr,⟨zbL,World.ownsRow_nil _ _ _ _⟩,⟨[],[],rfl,rfl,fun i hi=>(by cases hi),World.ownsRow_nil _ _ _ _,rfl⟩,rfl⟩ (by simp [FB,Value.ownBlock]) (fun q hq=>by have e9:q=w4.heap.size:=(by simpa [FB,Value.ownBlock]using hq);omega) (fun q hq hq'=>by have e9:q=w4.heap.size:=(by simpa [FB,Value.ownBlock]using hq');have:=hlt4 q hq;omega) (zdp (m:=1) (by omega)) (zdp (m:=0) (by omega)) rfl (by simp))
 replace hA5:=hA5'
 have HY4:=hide (And.intro lb4 (And.intro hA4 (And.intro hF4 (And.intro hlt4 (And.intro hA5 hs4)))))
 clear lb4 hA4 hF4 hs4 hA5 ltr hs5 otr hG4 HA1 HY3 lb3 hA3 hf4 hlt4 fcv hp4 hsz5
 go_wp2_with fail
 refine (zaa HA2).mono ?_
 rintro e w6 ⟨rfl,a6,c6,F6,hs6,hf6,hF6⟩
 obtain⟨lb4,hA4,hF4,hlt4,hA5,hs4⟩:=zaa HY4
 have hA45:=zad hA4 hA5
 have hge6:∀q∈(B+1)::B::F4,B<=q:=fun q hq=>by
  rcases List.mem_cons.1 hq with rfl | hq
  ·omega
  ·rcases List.mem_cons.1 hq with rfl | hq
   ·omega
   ·exact hs4.ge q hq
 have hA6:Below w.heap.size w w6:=hA45.trans (hf6.below hA45.size (fun q hq=>by have:=hge6 q hq;omega))
 have lb6:=(lb4.all hA5).frm hf6 (fun e=>by have:=hge6 _ e;omega)
 have hG6:=hG.keep hA6
 obtain⟨y0,y1,y2,y3⟩:=id hG6
 have x4:=lb6.cell 4
 have hsw:(zaB n (0,0) ks (zaG (⟨0,nm,[],ats,ks⟩:Nd (Tr n)))).length<=100000:=by
  have h9:=(zkf hN).len
  have h8:(zhF (⟨0,nm,[],ats,ks⟩:Nd (Tr n))).length<=121+([]:List OpV).length:=h9
  exact Nat.le_trans h8 (by simp)
 have hBw:w.heap.size<=B:=by omega
 have HK:=hide (zgL n w B w6 (B+1) B a6 c6 (zaG (⟨0,nm,[],ats,ks⟩:Nd (Tr n))) F6 0 0 ks a4 c4 hBw hA6 hs6 h4 (zdp (m:=0) (by omega)) (zfx (⟨0,nm,[],ats,ks⟩:Nd (Tr n))) hsw hkz)
 have HY6:=hide (And.intro hA6 hs6)
 clear HY4 lb4 hA4 hF4 hlt4 hA5 hs4 hA45 hs6 hf6 hF6 HA2 hge6 hA6 lb6 hG6
 go_wp2_with fail
 refine (zaa HK).mono ?_
 rintro e w7 ⟨rfl,a7,c7,F7,hs7,hf7,hF7⟩
 obtain⟨hA6,hs6⟩:=zaa HY6
 have hge7:∀q∈(B+1)::B::F6,B<=q:=fun q hq=>by
  rcases List.mem_cons.1 hq with rfl | hq
  ·omega
  ·rcases List.mem_cons.1 hq with rfl | hq
   ·omega
   ·exact hs6.ge q hq
 have hA7:Below w.heap.size w w7:=hA6.trans (hf7.below hA6.size (fun q hq=>by have:=hge7 q hq;omega))
 clear HK HY6 hA6 hs6 hf7 hF7 hge7 x4 y0 y1 y2 y3
 replace hs7:FoS B w7 (B+1) B a7 c7 (zdu (⟨0,nm,[],ats,ks⟩:Nd (Tr n)) ops 0) F7:=hs7
 have HZ:=hide (And.intro h5 (And.intro hG (And.intro hN hO)))
 clear h5 hG hN hO hrd h4 hsz hkz HX
 go_wp2_with fail
 go_loopw [27] (fun x wr=>∃(j:Nat) (a':Xc) (c':Nat) (F':Xb),j<=ops.length∧x=.int .i64 (j:Int)∧FoS B wr (B+1) B a' c' (zdu (⟨0,nm,[],ats,ks⟩:Nd (Tr n)) ops j) F'∧Below w.heap.size w wr) (fun x _=>((ops.length:Int)-intOf x).toNat)
 case atStart=>exact⟨0,a7,c7,F7,Nat.zero_le _,rfl,hs7,hA7⟩
 case round=>
  clear hs7 hA7
  obtain⟨j,a',c',F',hj,rfl,hs,hA⟩:=hrel
  obtain⟨h5,hG,hN,hO⟩:=zaa HZ
  by_cases hlt:j<ops.length
  ·have hlt':(j:Int)<(ops.length:Int):=by omega
   have hj0:(0:Int)<=(j:Int):=by omega
   obtain⟨bk,off,epv,hpl,_,_,C,hCl,hcell,hro⟩:=Elems.at h5 hlt
   subst epv
   obtain⟨e1,f1,e2,f2,e3,f3,g0,g1,g2,g3,g4,g5,g6,g7,g8,g9,g10,g11,hrv⟩:=zcy (i:=j) hA hpl ⟨C,hCl,hcell,hro⟩
   obtain⟨kk,nn,tt,eC,hk1,hk2,hk3⟩:=hro
   have hal:=zew hN hO j (by omega)
   have hoj:=zdI hO hlt
   obtain⟨l1,l2,l3⟩:=zlR hoj
   have hnx:=zfy (⟨0,nm,[],ats,ks⟩:Nd (Tr n)) ops hlt
   have hnew:=fun h0=>hal.new hO hlt h0
   have hlen:=hal.len
   rw [List.length_take]at hlen
   have hAa:Below wr.heap.size wr (wr.alloc (.cells #[.int .i64 ops[j].kind,.int .i64 ops[j].atN,.int .i64 ops[j].atR,.int .i64 ops[j].nodeN,.int .i64 ops[j].nodeR,.int .i64 ops[j].parN,.int .i64 ops[j].parR,.slice e1 ops[j].key.length f1,.int .i64 ops[j].elem,.slice e2 ops[j].name.length f2,.slice e3 ops[j].text.length f3,.bool ops[j].gone] 83)):=(Below.refl _ _).alloc (Nat.le_refl _) _
   have hAA:=zad hA hAa
   have lo:=Loc.made wr #[.int .i64 ops[j].kind,.int .i64 ops[j].atN,.int .i64 ops[j].atR,.int .i64 ops[j].nodeN,.int .i64 ops[j].nodeR,.int .i64 ops[j].parN,.int .i64 ops[j].parR,.slice e1 ops[j].key.length f1,.int .i64 ops[j].elem,.slice e2 ops[j].name.length f2,.slice e3 ops[j].text.length f3,.bool ops[j].gone] 83
   have hq1:Ints w (.slice e1 ops[j].key.length f1) ops[j].key:=by
    have h7:=hcell 7 (by decide)
    rw [eC]at h7
    have h8:=(hA.cell (p:=⟨bk,off+j*12+7,none⟩) hpl).trans h7
    rw [g7]at h8
    simp only [List.getElem?_cons_succ,List.getElem?_cons_zero]at h8
    rw [Option.some.inj h8];exact hk1
   have hq2:Byt w (.slice e2 ops[j].name.length f2) ops[j].name:=by
    have h7:=hcell 9 (by decide)
    rw [eC]at h7
    have h8:=(hA.cell (p:=⟨bk,off+j*12+9,none⟩) hpl).trans h7
    rw [g9]at h8
    simp only [List.getElem?_cons_succ,List.getElem?_cons_zero]at h8
    rw [Option.some.inj h8];exact hk2
   have hq3:Byt w (.slice e3 ops[j].text.length f3) ops[j].text:=by
    have h7:=hcell 10 (by decide)
    rw [eC]at h7
    have h8:=(hA.cell (p:=⟨bk,off+j*12+10,none⟩) hpl).trans h7
    rw [g10]at h8
    simp only [List.getElem?_cons_succ,List.getElem?_cons_zero]at h8
    rw [Option.some.inj h8];exact hk3
   have HD:=hide (zsI (hs.keep hAa) (by omega) hAA ops[j] e1 e2 e3 f1 f2 f3 hq1 hq2 hq3 (by omega) (by omega) (by omega) hoj hal.fr hal.at hal.kd (hG.keep hAA) (by omega) hnew (by omega))
   rw [<-hnx]at HD
   have HW:=hide (And.intro hAA (And.intro hs lo))
   clear hs hA hcell eC hk1 hk2 hk3 hal hoj hnx hnew hAa hAA lo hq1 hq2 hq3 hrv
   generalize ops[j]=o at *
   obtain⟨m0,m1⟩:∃m0 m1:Nat,True:=⟨0,0,trivial⟩
   go_wp2_with fail
   refine (zaa HD).mono ?_
   rintro e w9 ⟨rfl,a9,c9,F9,hs9,hf9,hF9⟩
   obtain⟨hAA,hs,lo⟩:=zaa HW
   have hge9:∀q∈(B+1)::B::F',B<=q:=fun q hq=>by
    rcases List.mem_cons.1 hq with rfl | hq
    ·omega
    ·rcases List.mem_cons.1 hq with rfl | hq
     ·omega
     ·exact hs.ge q hq
   have hA9:Below w.heap.size w w9:=hAA.trans (hf9.below hAA.size (fun q hq=>by have:=hge9 q hq;omega))
   have HE:=hide (And.intro hs9 hA9)
   clear hs9 hf9 hF9 hge9 hA9 HD HW hAA hs lo g0 g1 g2 g3 g4 g5 g6 g7 g8 g9 g10 g11
   go_wp2_with fail
   go_roundw
   case rel=>exact⟨j+1,a9,c9,F9,by omega,by go_num,(zaa HE).1,(zaa HE).2⟩
   case measure=>simp [intOf];omega
  ·have hlt':¬ (j:Int)<(ops.length:Int):=by omega
   obtain rfl:j=ops.length:=by omega
   rw [zge]at hs
   have HE:=hide (zaa HQ (.returned (.pointer (some ⟨B+1,0,none⟩))) wr ⟨_,_,_,_,F',B,rfl,by omega,hs,hA⟩)
   clear hs hA HQ HZ h5 hG hN hO
   go_wp2_with fail
   exact zaa HE
end Go.Proofs.YtlpnibbdmkeklaaGreatDoor
namespace Go.Proofs.YtlpnibbdmkeklaaGreatDoor
open Go.RowKit Go.Shelf
set_option linter.unusedVariables false
set_option maxRecDepth 100000
attribute [local go_sem] Oper.semAt_some
theorem Loc.stay {W W':Xe} {g D:Nat} {cs:Array Xf} {T:Xg} {row:Option Nat} (h:Loc W g cs T) (hg:W.grownBy W' row) (hr:∀r,row=some r->r=D∨r=D+1) (h0:g≠D) (h1:g≠D+1):Loc W' g cs T:=
 (hg.block g h.lt (fun e=>by rcases hr g e.symm with h | h;exact h0 h;exact h1 h)).trans h
theorem VSet.stay {W W':Xe} {g D:Nat} {row:Option Nat} (h:VSet (D+2) W g) (hg:W.grownBy W' row) (hr:∀r,row=some r->r=D∨r=D+1) (h0:g≠D) (h1:g≠D+1):VSet (D+2) W' g:=by
 rcases h with h | ⟨m,hm,hl,hv⟩
 ·exact .inl (h.stay hg hr h0 h1)
 ·have hlt:m<W.heap.size:=by
   by_cases h:m<W.heap.size
   ·exact h
   ·rw [Array.getElem?_eq_none (by omega)]at hv;cases hv
  exact .inr ⟨m,hm,hl.stay hg hr h0 h1,(hg.block m hlt (fun e=>by rcases hr m e.symm with h | h<;>omega)).trans hv⟩
theorem zdT {w W W':Xe} {s D:Nat} {row:Option Nat} (h:Below s w W) (hs:s<=D) (hg:W.grownBy W' row) (hr:∀r,row=some r->r=D∨r=D+1) (hsz:s<=W.heap.size):Below s w W':=
 h.grown hg hsz (fun r e=>by rcases hr r e with h | h<;>omega)
theorem VSet.set {B:Nat} {V:Xe} {g p:Nat} {cs:Array Xf} {T:Xg} (h:VSet B V g) (hl:Loc V p cs T) (hne:g≠p) (j:Nat) (v:Xf):VSet B (V.setCell ⟨p,j,none⟩ v) g:=by
 rcases h with h | ⟨m,hm,hg,hv⟩
 ·exact .inl (h.other p j v hne)
 ·have hmp:m≠p:=fun e=>by subst e;unfold Loc at hl;rw [hv]at hl;cases hl
  exact .inr ⟨m,hm,hg.other p j v hne,(heap_setCell_other V ⟨p,j,none⟩ m v hmp).trans hv⟩
theorem zeC (D:Nat) (V:Xe) (p j:Nat) (v:Xf) (h0:D≠p) (h1:D+1≠p):BooksSame D V (V.setCell ⟨p,j,none⟩ v):=⟨heap_setCell_other V ⟨p,j,none⟩ D v h0,heap_setCell_other V ⟨p,j,none⟩ (D+1) v h1⟩
theorem zoU {D:Nat} {V V':Xe} {S:Xb} (f:Frm V V' S) (hl:D+2<=V.heap.size) (h0:D∉S) (h1:D+1∉S):BooksSame D V V':=⟨f.block D (by omega) h0,f.block (D+1) (by omega) h1⟩
theorem BooksSame.trans {D:Nat} {A B C:Xe} (h:BooksSame D A B) (k:BooksSame D B C):BooksSame D A C:=⟨k.1.trans h.1,k.2.trans h.2⟩
theorem zqe {a:List (Int×Bool)} {left:Int} (h:(scan a left).1=true) (h0:0<=left):(a.length:Int)<=left:=by
 induction a generalizing left with
 | nil=>simpa using h0
 | cons x r ih=>
  rw [scan]at h
  by_cases hc:left-1<0∨20<x.1∨x.2=false
  ·rw [if_pos hc]at h;cases h
  ·rw [if_neg hc]at h
   have:=ih h (by omega)
   simp only [List.length_cons]
   omega
theorem zon {a:List (Int×Bool)} {x:Int×Bool} {n:Nat} (h:scan a 120=(true,(120:Int)-n)):scan (a++[x]) 120=if 120<(n:Int)+1∨20<x.1∨x.2=false then (false,(120:Int)-n-1) else (true,(120:Int)-n-1):=by
 rw [zhg,h]
 simp only [if_true,scan]
 have e:((120:Int)-n-1<0∨20<x.1∨x.2=false)↔(120<(n:Int)+1∨20<x.1∨x.2=false):=by
  constructor
  ·rintro (h | h)
   ·exact .inl (by omega)
   ·exact .inr h
  ·rintro (h | h)
   ·exact .inl (by omega)
   ·exact .inr h
 simp only [e]
theorem zpT (w:Xe) (A1 A2 A3 A4 A5:Array Xf) (T1 T2 T3 T4 T5:Xg) (W:Xe) (hW:W=((((w.alloc (.cells A1 T1)).alloc (.cells A2 T2)).alloc (.cells A3 T3)).alloc (.cells A4 T4)).alloc (.cells A5 T5)) :
  Loc W (w.heap.size+1) A2 T2∧Loc W (w.heap.size+1+1) A3 T3∧Loc W (w.heap.size+1+1+1) A4 T4∧Loc W (w.heap.size+1+1+1+1) A5 T5∧W.heap.size=w.heap.size+1+1+1+1+1∧Below w.heap.size w W:=by
 subst hW
 have m2:=Loc.made (w.alloc (.cells A1 T1)) A2 T2
 have m3:=Loc.made ((w.alloc (.cells A1 T1)).alloc (.cells A2 T2)) A3 T3
 have m4:=Loc.made (((w.alloc (.cells A1 T1)).alloc (.cells A2 T2)).alloc (.cells A3 T3)) A4 T4
 have m5:=Loc.made ((((w.alloc (.cells A1 T1)).alloc (.cells A2 T2)).alloc (.cells A3 T3)).alloc (.cells A4 T4)) A5 T5
 simp only [World.size_alloc]at m2 m3 m4 m5
 exact⟨((m2.alloc _).alloc _).alloc _,(m3.alloc _).alloc _,m4.alloc _,m5,by simp,(((((Below.refl _ w).alloc (Nat.le_refl _) _).alloc (by simp) _).alloc (by simp;omega) _).alloc (by simp;omega) _).alloc (by simp;omega) _⟩
set_option maxHeartbeats 3200000 in
theorem znp (k:Nat) (w:Xe) (a b c d e:Xf) (t:Tr (k+1)) (h:RdNode (k+1) w [a,b,c,d,e] t) (hsz:szT (k+1) t<=2097152) (hz:t.kind=0) :
  Calls Tryz.prog 62 #[.agg #[a,b,c,d,e]] w fun e w'=>e=.returned (.bool (okN k t))∧Below w.heap.size w w':=by
 have HO:=hide (show okN k t=(scan (pn (k+1) 1 t) 120).1 by unfold okN;rw [zjX];simp [hz])
 obtain⟨xs,hP⟩:=zoQ w (k+1) 1 [a,b,c,d,e] t h
 have HM:=hide (znQ w (k+1) 1 _ t xs hP)
 have hC:∃ab nb cb ac nc cc ad nd cd ae ne ce,[a,b,c,d,e]=[Value.int .i64 0,.slice ab nb cb,.slice ac nc cc,.slice ad nd cd,.slice ae ne ce]:=by
  obtain⟨_,_,_,_,e0,k1,k2,hb,hc,hd,he⟩:=h
  simp only [List.cons.injEq,and_true]at e0
  obtain⟨rfl,rfl,rfl,rfl,rfl⟩:=e0
  obtain⟨ab,cb,rfl,_,_⟩:=hb.shape
  obtain⟨ac,cc,rfl,_,_⟩:=hc.shape
  obtain⟨ad,cd,rfl,_,_⟩:=Elems.shape hd
  obtain⟨ae,ce,rfl,_,_⟩:=Elems.shape he
  rw [hz]
  exact⟨_,_,_,_,_,_,_,_,_,_,_,_,rfl⟩
 obtain⟨ab,nb,cb,ac,nc,cc,ad,nd,cd,ae,ne,ce,hC⟩:=hC
 simp only [List.cons.injEq,and_true]at hC
 obtain⟨rfl,rfl,rfl,rfl,rfl⟩:=hC
 have HP:=hide hP
 have HH:=hide h
 clear hP h hz
 refine (callsIn_wide (n:=5)).1 ?_
 refine callsIn_of_wp_marks Tryz.func62 rfl trivial ?_ rfl
 simp only [Tryz.ntmps62,List.size_toArray,List.length_cons,List.length_nil,Nat.reduceAdd,Nat.reduceSub,Array.replicate_succ,Array.replicate_zero,List.push_toArray,List.append_toArray,List.nil_append,List.cons_append]
 gi_wp2_with fail
 refine⟨trivial,?_⟩
 refine (callsIn_wide.2 (zlp _ _ _ _ _ _ _ _ _ _ _ _ _ _)).mono ?_
 rintro e W ⟨rfl,hW⟩
 obtain⟨l1,l2,l3,l4,hsW,hBW⟩:=zpT w _ _ _ _ _ _ _ _ _ _ W hW
 clear hW
 simp only [World.size_alloc]
 obtain⟨q1,q2,q3,q4,q5⟩:w.heap.size<w.heap.size+1∧w.heap.size+1<w.heap.size+1+1∧w.heap.size+1+1<w.heap.size+1+1+1∧w.heap.size+1+1+1<w.heap.size+1+1+1+1∧w.heap.size+1+1+1+1<W.heap.size:=by omega
 clear hsW
 generalize w.heap.size+1+1+1+1=p4 at *
 generalize w.heap.size+1+1+1=p3 at *
 generalize w.heap.size+1+1=p2 at *
 generalize w.heap.size+1=p1 at *
 gi_wp2_with fail
 refine zot (gf:=131) (lb:= #[.pointer (some ⟨p4,0,none⟩)]) (Bx:=BxN) (Mt:=fun i _=>i∈[p1,p2,p3,W.heap.size+1]) (xs:=xs) (encs:=zgs) rfl (enters_of Tryz.func131 (by kernel_rfl) rfl) (fun _=>by simp) (fun q o hq _ hm=>by simp at hm;omega)
  (zmT w W _ p4 k _ (fun i o hi hm=>by simp at hm;omega) _ _ _ _ _ t xs (zaa HP) hsz hBW l4) (fun _=>rfl)
  (fun pre V=>Loc V p3 #[.int .i64 (pre.length:Nat)] 3∧Loc V p1 #[.bool false] 4∧VSet (W.heap.size+2) V p2∧Below w.heap.size w V∧scan (pre.map tst) 120=(true,(120:Int)-(pre.length:Nat)))
  (fun pre V=>Loc V p1 #[.bool false] 4∧Below w.heap.size w V∧(scan (pre.map tst) 120).1=false)
  (fun pre A B row hs hg hr=>⟨hs.1.stay hg hr (by omega) (by omega),hs.2.1.stay hg hr (by omega) (by omega),hs.2.2.1.stay hg hr (by omega) (by omega),zdT hs.2.2.2.1 (by omega) hg hr hs.2.2.2.1.size,hs.2.2.2.2⟩)
  (fun pre A B row hs hg hr=>⟨hs.1.stay hg hr (by omega) (by omega),zdT hs.2.1 (by omega) hg hr hs.2.1.size,hs.2.2⟩)
  ⟨l3,l1,.inl l2,hBW,rfl⟩
  (fun x a' V=>∃q,W.heap.size+1<q∧Loc V q #[x.a,x.b,x.c,x.d,x.e] 37∧a'={ tmps:= #[.agg #[.int .i64 0,.slice ab nb cb,.slice ac nc cc,.slice ad nd cd,.slice ae ne ce],.pointer (some ⟨w.heap.size,0,none⟩),.pointer (some ⟨p1,0,none⟩),.pointer (some ⟨p2,0,none⟩),.pointer (some ⟨p3,0,none⟩),.int .i64 x.deep,.pointer (some ⟨q,0,none⟩),.pointer (some ⟨w.heap.size,0,none⟩),.int .i64 0,.bool false,.agg #[.int .i64 0,.slice ab nb cb,.slice ac nc cc,.slice ad nd cd,.slice ae ne ce],.func (.func 131) #[] #[.pointer (some ⟨p4,0,none⟩)],.int .i64 x.deep,.agg #[x.a,x.b,x.c,x.d,x.e],undef,undef,undef,undef,undef,undef,undef,undef,undef,undef,undef,undef,undef],defers:=[] })
  (fun x a' u A B row hs hg hr=>by obtain⟨q,h1,h2,h3⟩:=hs;exact⟨q,h1,h2.stay hg hr (by omega) (by omega),h3⟩)
  ?assign ?body ?done ?stop
 case assign=>
  intro pre x V K hi hV2 hK
  obtain⟨deep,a,b,c,d,e,m,u,rd⟩:=x
  obtain⟨z,ab',nb',cb',ac',nc',cc',ad',nd',cd',ae',ne',ce',hC⟩:=zfk rd
  simp only [List.cons.injEq,and_true]at hC
  obtain⟨rfl,rfl,rfl,rfl,rfl⟩:=hC
  simp only [zgs]at hK ⊢
  gi_wp2
  exact hK _ _ ((Below.refl _ _).alloc (Nat.le_refl _) _) ⟨V.heap.size,by omega,Loc.made V _ _,rfl⟩
 case body=>
  rintro pre x a' V ⟨i3,i1,iV,iB,iS⟩ ⟨q,hq,lq,rfl⟩ hpx hsz2
  obtain⟨deep,a,b,c,d,e,m,u,rd⟩:=x
  have HI:=hide (And.intro i3 (And.intro i1 (And.intro iV (And.intro iB iS))))
  have HR:=hide rd
  obtain⟨z,ab',nb',cb',ac',nc',cc',ad',nd',cd',ae',ne',ce',hC⟩:=zfk rd
  simp only [List.cons.injEq,and_true]at hC
  obtain⟨rfl,rfl,rfl,rfl,rfl⟩:=hC
  have hlen:pre.length<=120:=by
   have:=zqe (a:=pre.map tst) (left:=120) (by rw [iS]) (by omega)
   simp at this
   omega
  have c3:V.cell? ⟨p3,0,none⟩=some (.int .i64 (pre.length:Nat)):=i3.cell 0
  have f3:=i3.frozen 0
  have c1:V.cell? ⟨p1,0,none⟩=some (.bool false):=i1.cell 0
  have f1:=i1.frozen 0
  simp only at lq
  obtain⟨x0,x1,x2,x3,x4⟩:=lq.five
  have hsn:=zon (x:=tst (⟨deep,.int .i64 z,.slice ab' nb' cb',.slice ac' nc' cc',.slice ad' nd' cd',.slice ae' ne' ce',m,u,rd⟩:It w)) iS
  have HS:=hide hsn
  clear hsn iS i3 i1 iV iB
  generalize hn:pre.length=n at *
  have HN:=hide hn
  clear hn
  have hn1:0<=(n:Int)+1:=by omega
  have hBk:BooksSame W.heap.size V ((V.setCell ⟨p3,0,none⟩ (.int .i64 ((n:Int)+1))).setCell ⟨p1,0,none⟩ (.bool false)):=(zeC W.heap.size V p3 0 _ (by omega) (by omega)).trans (zeC W.heap.size _ p1 0 _ (by omega) (by omega))
  by_cases h1:120<(n:Int)+1
  ·gi_wp2
   refine⟨trivial,?_⟩
   gi_wp2
   obtain⟨i3,i1,iV,iB,iS⟩:=zaa HI
   refine⟨hBk,(i1.other p3 0 _ (by omega)).set 0 (.bool false),(iB.setCell (p:=⟨p3,0,none⟩) (by show w.heap.size<=p3;omega) _).setCell (p:=⟨p1,0,none⟩) (by show w.heap.size<=p1;omega) _,?_⟩
   rw [List.map_append,List.map_cons,List.map_nil,zaa HS,if_pos (.inl h1)]
  ·by_cases h2:20<deep
   ·gi_wp2
    refine⟨trivial,?_⟩
    gi_wp2
    obtain⟨i3,i1,iV,iB,iS⟩:=zaa HI
    refine⟨hBk,(i1.other p3 0 _ (by omega)).set 0 (.bool false),(iB.setCell (p:=⟨p3,0,none⟩) (by show w.heap.size<=p3;omega) _).setCell (p:=⟨p1,0,none⟩) (by show w.heap.size<=p1;omega) _,?_⟩
    rw [List.map_append,List.map_cons,List.map_nil,zaa HS,if_pos (.inr (.inl h2))]
   ·have hcall:Calls Tryz.prog 90 #[.agg #[.int .i64 z,.slice ab' nb' cb',.slice ac' nc' cc',.slice ad' nd' cd',.slice ae' ne' ce'],.pointer (some ⟨p2,0,none⟩)] (V.setCell ⟨p3,0,none⟩ (.int .i64 ((n:Int)+1))) fun e w'=>e=.returned (.bool (zbz u))∧VSet (W.heap.size+2) w' p2∧Frm (V.setCell ⟨p3,0,none⟩ (.int .i64 ((n:Int)+1))) w' [p2]:=by
     obtain⟨i3,i1,iV,iB,iS⟩:=zaa HI
     exact ziw (W.heap.size+2) m w _ _ _ _ _ _ u p2 (zaa HR) (iB.setCell (p:=⟨p3,0,none⟩) (by show w.heap.size<=p3;omega) _) (by omega) (iV.set i3 (by omega) 0 _) (by simpa using hsz2)
    have HC:=hide hcall
    clear hcall
    gi_wp2
    refine⟨trivial,?_⟩
    refine (CallsIn.inRound (F:=Fence.wide) (W.heap.size+1) (callsIn_wide.2 (zaa HC))).mono ?_
    rintro e V2 ⟨rfl,hV2,F2⟩
    have HA:Hid (Loc V2 p3 #[.int .i64 ((n:Int)+1)] 3∧Loc V2 p1 #[.bool false] 4∧Below w.heap.size w V2∧BooksSame W.heap.size V V2∧Frm V V2 [p1,p2,p3,W.heap.size+1]):=by
     obtain⟨i3,i1,iV,iB,iS⟩:=zaa HI
     have iB1:=iB.setCell (p:=⟨p3,0,none⟩) (by show w.heap.size<=p3;omega) (.int .i64 ((n:Int)+1))
     refine⟨(i3.set 0 _).frm F2 (by simp;omega),(i1.other p3 0 _ (by omega)).frm F2 (by simp;omega),iB1.trans (F2.below iB1.size (fun g hg=>by simp at hg;omega)),(zeC W.heap.size V p3 0 _ (by omega) (by omega)).trans (zoU F2 (by simpa using hsz2) (by simp;omega) (by simp;omega)),?_⟩
     exact ((Frm.set V p3 0 _).mono (fun g hg=>by simp at hg;simp [hg])).trans (F2.mono (fun g hg=>by simp at hg;simp [hg]))
    have c1:V2.cell? ⟨p1,0,none⟩=some (.bool false):=(zaa HA).2.1.cell 0
    have f1:=(zaa HA).2.1.frozen 0
    clear x0 x1 x2 x3 x4 c3 f3
    by_cases hb:zbz u=true
    ·rw [hb]
     gi_wp2
     obtain⟨a3,a1,aB,aK,aF⟩:=zaa HA
     refine⟨aK,Frp.ofFrm aF (fun g hg _ _=>hg),?_,a1,hV2,aB,?_⟩
     ·have e:((pre++[(⟨deep,.int .i64 z,.slice ab' nb' cb',.slice ac' nc' cc',.slice ad' nd' cd',.slice ae' ne' ce',m,u,rd⟩:It w)]).length:Int)=(n:Int)+1:=by rw [List.length_append,zaa HN];simp
      rw [e];exact a3
     ·rw [List.map_append,List.map_cons,List.map_nil,zaa HS,if_neg (by simp only [tst,hb];simp;omega)]
      rw [List.length_append,zaa HN]
      simp
      omega
    ·have hb':zbz u=false:=by simpa using hb
     rw [hb']
     gi_wp2
     obtain⟨a3,a1,aB,aK,aF⟩:=zaa HA
     refine⟨aK.trans (zeC W.heap.size _ p1 0 _ (by omega) (by omega)),a1.set 0 (.bool false),aB.setCell (p:=⟨p1,0,none⟩) (by show w.heap.size<=p1;omega) _,?_⟩
     rw [List.map_append,List.map_cons,List.map_nil,zaa HS,if_pos (.inr (.inr hb'))]
 case done=>
  rintro V ⟨i3,i1,iV,iB,iS⟩ hD
  have c1:V.cell? ⟨p1,0,none⟩=some (.bool false):=i1.cell 0
  have f1:=i1.frozen 0
  have HF:=hide (show okN k t=true by rw [zaa HO,<-zaa HM,iS])
  clear iS
  gi_wp2
  have hD':(V.setCell ⟨p1,0,none⟩ (.bool true)).heap[W.heap.size]? = some (.deferred (some [])):=(heap_setCell_other V ⟨p1,0,none⟩ _ _ (by show W.heap.size≠p1;omega)).trans hD
  refine⟨by simp,.inl ⟨_,_,rfl,run_takeDeferred hD',?_⟩⟩
  have lE:Loc ((V.setCell ⟨p1,0,none⟩ (.bool true)).putObj W.heap.size (.deferred none)) p1 #[.bool true] 4:=(i1.set 0 (.bool true)).stay (grownBy_putObj' _ _ _) (fun r e=>by cases e;exact .inl rfl) (by omega) (by omega)
  have c5:((V.setCell ⟨p1,0,none⟩ (.bool true)).putObj W.heap.size (.deferred none)).cell? ⟨p1,0,none⟩=some (.bool true):=lE.cell 0
  refine⟨.bool true,?_,by rw [zaa HF],zdT (iB.setCell (p:=⟨p1,0,none⟩) (by show w.heap.size<=p1;omega) _) (D:=W.heap.size) (by omega) (grownBy_putObj' _ _ _) (fun r e=>by cases e;exact .inl rfl) (by simpa using iB.size)⟩
  simp [results,Tryz.f62,go_sem,c5]
 case stop=>
  rintro pre V hpre ⟨i1,iB,iS⟩ hD
  have HF:=hide (show okN k t=false by rw [zaa HO,<-zaa HM];exact zrR iS (hpre.map _))
  clear iS
  gi_wp2
  refine⟨by simp,.inl ⟨_,_,rfl,run_takeDeferred hD,?_⟩⟩
  have lE:Loc (V.putObj W.heap.size (.deferred none)) p1 #[.bool false] 4:=i1.stay (grownBy_putObj' _ _ _) (fun r e=>by cases e;exact .inl rfl) (by omega) (by omega)
  have c5:(V.putObj W.heap.size (.deferred none)).cell? ⟨p1,0,none⟩=some (.bool false):=lE.cell 0
  refine⟨.bool false,?_,by rw [zaa HF],zdT iB (D:=W.heap.size) (by omega) (grownBy_putObj' _ _ _) (fun r e=>by cases e;exact .inl rfl) iB.size⟩
  simp [results,Tryz.f62,go_sem,c5]
theorem zmZ (k:Nat) (w:Xe) (a b c d e:Xf) (t:Tr (k+1)) (h:RdNode (k+1) w [a,b,c,d,e] t) (hz:t.kind≠0) :
  Calls Tryz.prog 62 #[.agg #[a,b,c,d,e]] w fun e w'=>e=.returned (.bool (okN k t))∧Below w.heap.size w w':=by
 have HO:=hide (show okN k t=false by unfold okN;simp [hz])
 obtain⟨_,_,_,_,e0,k1,k2,hb,hc,hd,he⟩:=h
 simp only [List.cons.injEq,and_true]at e0
 obtain⟨rfl,rfl,rfl,rfl,rfl⟩:=e0
 obtain⟨ab,cb,rfl,_,_⟩:=hb.shape
 obtain⟨ac,cc,rfl,_,_⟩:=hc.shape
 obtain⟨ad,cd,rfl,_,_⟩:=Elems.shape hd
 obtain⟨ae,ce,rfl,_,_⟩:=Elems.shape he
 have d0:(t.kind != 0)=true:=by simpa using hz
 clear hb hc hd he
 generalize t.kind=z at *
 generalize t.name.length=nb at *
 generalize t.text.length=nc at *
 generalize t.attrs.length=nd at *
 generalize t.kids.length=ne at *
 go_enter Tryz.func62,Tryz.ntmps62
 go_wp2_with fail
 refine bodyPost_ret (v:=.bool false) (by simp [results,Tryz.results62,go_sem]) rfl ⟨by rw [zaa HO],?_⟩
 exact ((Below.refl _ _).alloc (Nat.le_refl _) _).alloc (by simp) _
theorem zgh (k:Nat) (w:Xe) (a b c d e:Xf) (t:Tr (k+1)) (h:RdNode (k+1) w [a,b,c,d,e] t) (hsz:szT (k+1) t<=2097152) :
  Calls Tryz.prog 62 #[.agg #[a,b,c,d,e]] w fun e w'=>e=.returned (.bool (okN k t))∧Below w.heap.size w w':=by
 by_cases hz:t.kind=0
 ·exact znp k w a b c d e t h hsz hz
 ·exact zmZ k w a b c d e t h hz
end Go.Proofs.YtlpnibbdmkeklaaGreatDoor
namespace Go.Proofs.YtlpnibbdmkeklaaGreatDoor
open Go.RowKit
set_option linter.unusedVariables false
set_option maxRecDepth 100000
theorem zas {w w':Xe} {o:Obj} (h:Below w.heap.size w w'):Below w.heap.size w (w'.alloc o):=h.alloc h.size o
set_option maxHeartbeats 6400000 in
theorem ztd (w:Xe) (o:OpV) (a1 a2 a3:Xc) (c1 c2 c3:Nat) (hk:Ints w (.slice a1 o.key.length c1) o.key) (hn:Byt w (.slice a2 o.name.length c2) o.name) (ht:Byt w (.slice a3 o.text.length c3) o.text) (k0:o.kind=0) :
  Calls Tryz.prog 83 #[zaY o (.slice a1 o.key.length c1) (.slice a2 o.name.length c2) (.slice a3 o.text.length c3)] w fun e w'=>e=.returned (.bool (opB o))∧Below w.heap.size w w':=by
 have hE:=zjE k0
 have HK:=hide hk
 have HM:=hide hn
 have HX:=hide ht
 clear hk hn ht
 unfold zaY
 rw [k0]
 go_enter Tryz.func83,Tryz.ntmps83
 go_wp2_with fail
 refine (zek _ o.parN o.parR).mono ?_
 rintro e w1 ⟨rfl,ew⟩
 obtain rfl:=ew
 cases hx:idB o.parN o.parR
 ·rw [hx]at hE
  clear hx
  go_wp2_with fail
  refine (zaI _ o.atN o.atR).mono ?_
  rintro e w1 ⟨rfl,rfl⟩
  cases hs:zam o.atN o.atR
  ·have HF:=hide (show opB o=false by rw [hE,hs];rfl)
   clear hE hs
   go_wp2_with fail
   go_ret
   exact⟨by rw [zaa HF];rfl,(by repeat (first | exact Below.refl _ _ | refine zas ?_))⟩
  ·have HF:=hide (show opB o=false by rw [hE,hs];rfl)
   clear hE hs
   go_wp2_with fail
   go_ret
   exact⟨by rw [zaa HF];rfl,(by repeat (first | exact Below.refl _ _ | refine zas ?_))⟩
 rw [hx]at hE
 clear hx
 go_wp2_with fail
 refine (zkw _ _ o.key ((zaa HK).keep (by repeat (first | exact Below.refl _ _ | refine zas ?_)))).mono ?_
 rintro e w1 ⟨rfl,ew⟩
 obtain rfl:=ew
 cases hx:keyB o.key
 ·rw [hx]at hE
  clear hx
  go_wp2_with fail
  refine (zaI _ o.atN o.atR).mono ?_
  rintro e w1 ⟨rfl,rfl⟩
  cases hs:zam o.atN o.atR
  ·have HF:=hide (show opB o=false by rw [hE,hs];rfl)
   clear hE hs
   go_wp2_with fail
   go_ret
   exact⟨by rw [zaa HF];rfl,(by repeat (first | exact Below.refl _ _ | refine zas ?_))⟩
  ·have HF:=hide (show opB o=false by rw [hE,hs];rfl)
   clear hE hs
   go_wp2_with fail
   go_ret
   exact⟨by rw [zaa HF];rfl,(by repeat (first | exact Below.refl _ _ | refine zas ?_))⟩
 rw [hx]at hE
 clear hx
 go_wp2_with fail
 refine (zpt _ o.elem _ _ o.name o.text ((zaa HM).keep (by repeat (first | exact Below.refl _ _ | refine zas ?_))) ((zaa HX).keep (by repeat (first | exact Below.refl _ _ | refine zas ?_)))).mono ?_
 rintro e w1 ⟨rfl,ew⟩
 obtain rfl:=ew
 cases hx:zcF o.elem o.name o.text
 ·rw [hx]at hE
  clear hx
  go_wp2_with fail
  refine (zaI _ o.atN o.atR).mono ?_
  rintro e w1 ⟨rfl,rfl⟩
  cases hs:zam o.atN o.atR
  ·have HF:=hide (show opB o=false by rw [hE,hs];rfl)
   clear hE hs
   go_wp2_with fail
   go_ret
   exact⟨by rw [zaa HF];rfl,(by repeat (first | exact Below.refl _ _ | refine zas ?_))⟩
  ·have HF:=hide (show opB o=false by rw [hE,hs];rfl)
   clear hE hs
   go_wp2_with fail
   go_ret
   exact⟨by rw [zaa HF];rfl,(by repeat (first | exact Below.refl _ _ | refine zas ?_))⟩
 rw [hx]at hE
 clear hx
 go_wp2_with fail
 refine (zaI _ o.atN o.atR).mono ?_
 rintro e w1 ⟨rfl,rfl⟩
 cases hs:zam o.atN o.atR
 ·have HF:=hide (show opB o=false by rw [hE,hs];rfl)
  clear hE hs
  go_wp2_with fail
  go_ret
  exact⟨by rw [zaa HF];rfl,(by repeat (first | exact Below.refl _ _ | refine zas ?_))⟩
 ·rw [hs]at hE
  have HF:=hide (show opB o=zbq (zjG o) by rw [hE];rfl)
  clear hE hs
  go_wp2_with fail
  refine (zeG _ (zjG o) none none none 0 0 0).mono ?_
  rintro e w1 ⟨rfl,hB1⟩
  have hA:=zad (a:=w) (by repeat (first | exact Below.refl _ _ | refine zas ?_)) hB1
  clear hB1
  go_wp2_with fail
  go_ret
  exact⟨by rw [zaa HF];rfl,hA⟩
set_option maxHeartbeats 6400000 in
theorem zti (w:Xe) (o:OpV) (a1 a2 a3:Xc) (c1 c2 c3:Nat) (hk:Ints w (.slice a1 o.key.length c1) o.key) (hn:Byt w (.slice a2 o.name.length c2) o.name) (ht:Byt w (.slice a3 o.text.length c3) o.text) (k0:o.kind=1) :
  Calls Tryz.prog 83 #[zaY o (.slice a1 o.key.length c1) (.slice a2 o.name.length c2) (.slice a3 o.text.length c3)] w fun e w'=>e=.returned (.bool (opB o))∧Below w.heap.size w w':=by
 have hE:=zjA k0
 have HK:=hide hk
 have HM:=hide hn
 have HX:=hide ht
 clear hk hn ht
 unfold zaY
 rw [k0]
 go_enter Tryz.func83,Tryz.ntmps83
 go_wp2_with fail
 refine (zek _ o.nodeN o.nodeR).mono ?_
 rintro e w1 ⟨rfl,ew⟩
 obtain rfl:=ew
 cases hx:idB o.nodeN o.nodeR
 ·rw [hx]at hE
  clear hx
  go_wp2_with fail
  refine (zaI _ o.atN o.atR).mono ?_
  rintro e w1 ⟨rfl,rfl⟩
  cases hs:zam o.atN o.atR
  ·have HF:=hide (show opB o=false by rw [hE,hs];rfl)
   clear hE hs
   go_wp2_with fail
   go_ret
   exact⟨by rw [zaa HF];rfl,(by repeat (first | exact Below.refl _ _ | refine zas ?_))⟩
  ·have HF:=hide (show opB o=false by rw [hE,hs];rfl)
   clear hE hs
   go_wp2_with fail
   go_ret
   exact⟨by rw [zaa HF];rfl,(by repeat (first | exact Below.refl _ _ | refine zas ?_))⟩
 rw [hx]at hE
 clear hx
 go_wp2_with fail
 refine (zek _ o.parN o.parR).mono ?_
 rintro e w1 ⟨rfl,ew⟩
 obtain rfl:=ew
 cases hx:idB o.parN o.parR
 ·rw [hx]at hE
  clear hx
  go_wp2_with fail
  refine (zaI _ o.atN o.atR).mono ?_
  rintro e w1 ⟨rfl,rfl⟩
  cases hs:zam o.atN o.atR
  ·have HF:=hide (show opB o=false by rw [hE,hs];rfl)
   clear hE hs
   go_wp2_with fail
   go_ret
   exact⟨by rw [zaa HF];rfl,(by repeat (first | exact Below.refl _ _ | refine zas ?_))⟩
  ·have HF:=hide (show opB o=false by rw [hE,hs];rfl)
   clear hE hs
   go_wp2_with fail
   go_ret
   exact⟨by rw [zaa HF];rfl,(by repeat (first | exact Below.refl _ _ | refine zas ?_))⟩
 rw [hx]at hE
 clear hx
 go_wp2_with fail
 refine (zkw _ _ o.key ((zaa HK).keep (by repeat (first | exact Below.refl _ _ | refine zas ?_)))).mono ?_
 rintro e w1 ⟨rfl,ew⟩
 obtain rfl:=ew
 cases hx:keyB o.key
 ·rw [hx]at hE
  clear hx
  go_wp2_with fail
  refine (zaI _ o.atN o.atR).mono ?_
  rintro e w1 ⟨rfl,rfl⟩
  cases hs:zam o.atN o.atR
  ·have HF:=hide (show opB o=false by rw [hE,hs];rfl)
   clear hE hs
   go_wp2_with fail
   go_ret
   exact⟨by rw [zaa HF];rfl,(by repeat (first | exact Below.refl _ _ | refine zas ?_))⟩
  ·have HF:=hide (show opB o=false by rw [hE,hs];rfl)
   clear hE hs
   go_wp2_with fail
   go_ret
   exact⟨by rw [zaa HF];rfl,(by repeat (first | exact Below.refl _ _ | refine zas ?_))⟩
 rw [hx]at hE
 clear hx
 go_wp2_with fail
 refine (zaI _ o.atN o.atR).mono ?_
 rintro e w1 ⟨rfl,rfl⟩
 cases hs:zam o.atN o.atR
 ·have HF:=hide (show opB o=false by rw [hE,hs];rfl)
  clear hE hs
  go_wp2_with fail
  go_ret
  exact⟨by rw [zaa HF];rfl,(by repeat (first | exact Below.refl _ _ | refine zas ?_))⟩
 ·rw [hs]at hE
  have HF:=hide (show opB o=zbq (zjD o) by rw [hE];rfl)
  clear hE hs
  go_wp2_with fail
  refine (zeG _ (zjD o) none a2 a3 0 c2 c3).mono ?_
  rintro e w1 ⟨rfl,hB1⟩
  have hA:=zad (a:=w) (by repeat (first | exact Below.refl _ _ | refine zas ?_)) hB1
  clear hB1
  go_wp2_with fail
  go_ret
  exact⟨by rw [zaa HF];rfl,hA⟩
set_option maxHeartbeats 6400000 in
theorem ztb (w:Xe) (o:OpV) (a1 a2 a3:Xc) (c1 c2 c3:Nat) (hk:Ints w (.slice a1 o.key.length c1) o.key) (hn:Byt w (.slice a2 o.name.length c2) o.name) (ht:Byt w (.slice a3 o.text.length c3) o.text) (k0:o.kind=2) :
  Calls Tryz.prog 83 #[zaY o (.slice a1 o.key.length c1) (.slice a2 o.name.length c2) (.slice a3 o.text.length c3)] w fun e w'=>e=.returned (.bool (opB o))∧Below w.heap.size w w':=by
 have hE:=zjC k0
 have HK:=hide hk
 have HM:=hide hn
 have HX:=hide ht
 clear hk hn ht
 unfold zaY
 rw [k0]
 go_enter Tryz.func83,Tryz.ntmps83
 go_wp2_with fail
 refine (zek _ o.nodeN o.nodeR).mono ?_
 rintro e w1 ⟨rfl,ew⟩
 obtain rfl:=ew
 cases hx:idB o.nodeN o.nodeR
 ·rw [hx]at hE
  clear hx
  go_wp2_with fail
  refine (zaI _ o.atN o.atR).mono ?_
  rintro e w1 ⟨rfl,rfl⟩
  cases hs:zam o.atN o.atR
  ·have HF:=hide (show opB o=false by rw [hE,hs];rfl)
   clear hE hs
   go_wp2_with fail
   go_ret
   exact⟨by rw [zaa HF];rfl,(by repeat (first | exact Below.refl _ _ | refine zas ?_))⟩
  ·have HF:=hide (show opB o=false by rw [hE,hs];rfl)
   clear hE hs
   go_wp2_with fail
   go_ret
   exact⟨by rw [zaa HF];rfl,(by repeat (first | exact Below.refl _ _ | refine zas ?_))⟩
 rw [hx]at hE
 clear hx
 go_wp2_with fail
 refine (zih _ _ o.text ((zaa HX).keep (by repeat (first | exact Below.refl _ _ | refine zas ?_)))).mono ?_
 rintro e w1 ⟨rfl,ew⟩
 obtain rfl:=ew
 cases hx:zbt o.text
 ·rw [hx]at hE
  clear hx
  go_wp2_with fail
  refine (zaI _ o.atN o.atR).mono ?_
  rintro e w1 ⟨rfl,rfl⟩
  cases hs:zam o.atN o.atR
  ·have HF:=hide (show opB o=false by rw [hE,hs];rfl)
   clear hE hs
   go_wp2_with fail
   go_ret
   exact⟨by rw [zaa HF];rfl,(by repeat (first | exact Below.refl _ _ | refine zas ?_))⟩
  ·have HF:=hide (show opB o=false by rw [hE,hs];rfl)
   clear hE hs
   go_wp2_with fail
   go_ret
   exact⟨by rw [zaa HF];rfl,(by repeat (first | exact Below.refl _ _ | refine zas ?_))⟩
 rw [hx]at hE
 clear hx
 go_wp2_with fail
 refine (zaI _ o.atN o.atR).mono ?_
 rintro e w1 ⟨rfl,rfl⟩
 cases hs:zam o.atN o.atR
 ·have HF:=hide (show opB o=false by rw [hE,hs];rfl)
  clear hE hs
  go_wp2_with fail
  go_ret
  exact⟨by rw [zaa HF];rfl,(by repeat (first | exact Below.refl _ _ | refine zas ?_))⟩
 ·rw [hs]at hE
  have HF:=hide (show opB o=zbq (zjy o) by rw [hE];rfl)
  clear hE hs
  go_wp2_with fail
  refine (zeG _ (zjy o) a1 a2 none c1 c2 0).mono ?_
  rintro e w1 ⟨rfl,hB1⟩
  have hA:=zad (a:=w) (by repeat (first | exact Below.refl _ _ | refine zas ?_)) hB1
  clear hB1
  go_wp2_with fail
  go_ret
  exact⟨by rw [zaa HF];rfl,hA⟩
set_option maxHeartbeats 6400000 in
theorem zth (w:Xe) (o:OpV) (a1 a2 a3:Xc) (c1 c2 c3:Nat) (hk:Ints w (.slice a1 o.key.length c1) o.key) (hn:Byt w (.slice a2 o.name.length c2) o.name) (ht:Byt w (.slice a3 o.text.length c3) o.text) (k0:o.kind=3) :
  Calls Tryz.prog 83 #[zaY o (.slice a1 o.key.length c1) (.slice a2 o.name.length c2) (.slice a3 o.text.length c3)] w fun e w'=>e=.returned (.bool (opB o))∧Below w.heap.size w w':=by
 have hE:=zjF k0
 have HK:=hide hk
 have HM:=hide hn
 have HX:=hide ht
 clear hk hn ht
 unfold zaY
 rw [k0]
 go_enter Tryz.func83,Tryz.ntmps83
 go_wp2_with fail
 refine (zek _ o.nodeN o.nodeR).mono ?_
 rintro e w1 ⟨rfl,ew⟩
 obtain rfl:=ew
 cases hx:idB o.nodeN o.nodeR
 ·rw [hx]at hE
  clear hx
  go_wp2_with fail
  refine (zaI _ o.atN o.atR).mono ?_
  rintro e w1 ⟨rfl,rfl⟩
  cases hs:zam o.atN o.atR
  ·have HF:=hide (show opB o=false by rw [hE,hs];rfl)
   clear hE hs
   go_wp2_with fail
   go_ret
   exact⟨by rw [zaa HF];rfl,(by repeat (first | exact Below.refl _ _ | refine zas ?_))⟩
  ·have HF:=hide (show opB o=false by rw [hE,hs];rfl)
   clear hE hs
   go_wp2_with fail
   go_ret
   exact⟨by rw [zaa HF];rfl,(by repeat (first | exact Below.refl _ _ | refine zas ?_))⟩
 rw [hx]at hE
 clear hx
 go_wp2_with fail
 refine (zmy _ _ o.name ((zaa HM).keep (by repeat (first | exact Below.refl _ _ | refine zas ?_)))).mono ?_
 rintro e w1 ⟨rfl,ew⟩
 obtain rfl:=ew
 cases hx:zbD o.name
 ·rw [hx]at hE
  clear hx
  go_wp2_with fail
  refine (zaI _ o.atN o.atR).mono ?_
  rintro e w1 ⟨rfl,rfl⟩
  cases hs:zam o.atN o.atR
  ·have HF:=hide (show opB o=false by rw [hE,hs];rfl)
   clear hE hs
   go_wp2_with fail
   go_ret
   exact⟨by rw [zaa HF];rfl,(by repeat (first | exact Below.refl _ _ | refine zas ?_))⟩
  ·have HF:=hide (show opB o=false by rw [hE,hs];rfl)
   clear hE hs
   go_wp2_with fail
   go_ret
   exact⟨by rw [zaa HF];rfl,(by repeat (first | exact Below.refl _ _ | refine zas ?_))⟩
 rw [hx]at hE
 clear hx
 go_wp2_with fail
 refine (zpR _ _ o.text o.gone ((zaa HX).keep (by repeat (first | exact Below.refl _ _ | refine zas ?_)))).mono ?_
 rintro e w1 ⟨rfl,ew⟩
 obtain rfl:=ew
 cases hx:valB o.text o.gone
 ·rw [hx]at hE
  clear hx
  go_wp2_with fail
  refine (zaI _ o.atN o.atR).mono ?_
  rintro e w1 ⟨rfl,rfl⟩
  cases hs:zam o.atN o.atR
  ·have HF:=hide (show opB o=false by rw [hE,hs];rfl)
   clear hE hs
   go_wp2_with fail
   go_ret
   exact⟨by rw [zaa HF];rfl,(by repeat (first | exact Below.refl _ _ | refine zas ?_))⟩
  ·have HF:=hide (show opB o=false by rw [hE,hs];rfl)
   clear hE hs
   go_wp2_with fail
   go_ret
   exact⟨by rw [zaa HF];rfl,(by repeat (first | exact Below.refl _ _ | refine zas ?_))⟩
 rw [hx]at hE
 clear hx
 go_wp2_with fail
 refine (zaI _ o.atN o.atR).mono ?_
 rintro e w1 ⟨rfl,rfl⟩
 cases hs:zam o.atN o.atR
 ·have HF:=hide (show opB o=false by rw [hE,hs];rfl)
  clear hE hs
  go_wp2_with fail
  go_ret
  exact⟨by rw [zaa HF];rfl,(by repeat (first | exact Below.refl _ _ | refine zas ?_))⟩
 ·rw [hs]at hE
  have HF:=hide (show opB o=zbq (zjz o) by rw [hE];rfl)
  clear hE hs
  go_wp2_with fail
  refine (zeG _ (zjz o) a1 none none c1 0 0).mono ?_
  rintro e w1 ⟨rfl,hB1⟩
  have hA:=zad (a:=w) (by repeat (first | exact Below.refl _ _ | refine zas ?_)) hB1
  clear hB1
  go_wp2_with fail
  go_ret
  exact⟨by rw [zaa HF];rfl,hA⟩
set_option maxHeartbeats 6400000 in
theorem ztc (w:Xe) (o:OpV) (a1 a2 a3:Xc) (c1 c2 c3:Nat) (h0:o.kind≠0) (h1:o.kind≠1) (h2:o.kind≠2) (h3:o.kind≠3) :
  Calls Tryz.prog 83 #[zaY o (.slice a1 o.key.length c1) (.slice a2 o.name.length c2) (.slice a3 o.text.length c3)] w fun e w'=>e=.returned (.bool (opB o))∧Below w.heap.size w w':=by
 have HF:=hide (zrj h0 h1 h2 h3)
 have q0:(o.kind == 0)=false:=by simpa using h0
 have q1:(o.kind == 1)=false:=by simpa using h1
 have q2:(o.kind == 2)=false:=by simpa using h2
 have q3:(o.kind == 3)=false:=by simpa using h3
 clear h0 h1 h2 h3
 unfold zaY
 go_enter Tryz.func83,Tryz.ntmps83
 go_wp2_with fail
 refine (zaI _ o.atN o.atR).mono ?_
 rintro e w1 ⟨rfl,rfl⟩
 cases hs:zam o.atN o.atR
 all_goals
  clear hs
  go_wp2_with fail
  go_ret
  exact⟨by rw [zaa HF];rfl,(by repeat (first | exact Below.refl _ _ | refine zas ?_))⟩
theorem zrM (w:Xe) (v:Xf) (o:OpV) (h:RdOp w v o) :
  Calls Tryz.prog 83 #[v] w fun e w'=>e=.returned (.bool (opB o))∧Below w.heap.size w w':=by
 obtain⟨k,n,t,rfl,hk,hn,ht⟩:=h
 obtain⟨a1,c1,rfl,_,_⟩:=hk.shape
 obtain⟨a2,c2,rfl,_,_⟩:=hn.shape
 obtain⟨a3,c3,rfl,_,_⟩:=ht.shape
 by_cases k0:o.kind=0
 ·exact ztd w o a1 a2 a3 c1 c2 c3 hk hn ht k0
 by_cases k1:o.kind=1
 ·exact zti w o a1 a2 a3 c1 c2 c3 hk hn ht k1
 by_cases k2:o.kind=2
 ·exact ztb w o a1 a2 a3 c1 c2 c3 hk hn ht k2
 by_cases k3:o.kind=3
 ·exact zth w o a1 a2 a3 c1 c2 c3 hk hn ht k3
 exact ztc w o a1 a2 a3 c1 c2 c3 k0 k1 k2 k3
set_option maxHeartbeats 6400000 in
theorem zke (w:Xe) (v:Xf) (l:List OpV) (h:RdOps w v l) :
  Calls Tryz.prog 48 #[v] w fun e w'=>e=.returned (.bool (opsB l))∧Below w.heap.size w w':=by
 have hm:=h.1
 unfold maxLen at hm
 by_cases hlong:150<l.length
 ·obtain⟨a,cap,rfl,_,_⟩:=Elems.shape h
  have hd:(150:Int)<(l.length:Int):=by omega
  rw [ziW hlong]
  go_enter Tryz.func48,Tryz.ntmps48
  go_wp2_with fail
  go_ret
  exact⟨rfl,Below.refl _ _⟩
 have hd:¬ (150:Int)<(l.length:Int):=by omega
 obtain⟨rfl,a,cap,rfl⟩ | ⟨b,off,cap,rfl,hnil,g4,g5⟩:=h.cases
 ·go_enter Tryz.func48,Tryz.ntmps48
  go_wp2_with fail
  refine wp_loop_rounds 1 ?_
  rw [rounds_succ]
  go_wp2_with fail
  go_ret
  exact⟨rfl,Below.refl _ _⟩
 have HG:=hide (fun hh=>ziE (l:=l) (by omega) hh)
 have HN:=hide (fun k hk hh=>zlc (l:=l) (k:=k) hk hh)
 generalize opsB l=res at *
 go_enter Tryz.func48,Tryz.ntmps48
 go_wp2_with fail
 go_loopw [3,4,10] (fun _ _ i wr=>∃k:Nat,k<=l.length∧i=.int .i64 k∧(∀j,j<k->okAt l j=true)∧Below w.heap.size w wr) (fun _ _ i _=>l.length-(intOf i).toNat)
 case atStart=>exact⟨0,Nat.zero_le _,rfl,fun j hj=>by omega,Below.refl _ _⟩
 case round=>
  obtain⟨k,hk,rfl,hok,hB⟩:=hrel
  by_cases hlt:k<l.length
  ·have HX:=hide (fun W u (hu:RdOp W u l[k])=>zrM W u l[k] hu)
   have HL:=hide (fun W n r n' r'=>zjm W n r n' r')
   have H0:=hide (fun (h:opB l[k]=false)=>zme hlt h)
   have HZ:=hide (fun (h:opB l[k]=true) (e:k=0)=>(show okAt l k=true by subst e;exact zov hlt h))
   have HS:=hide (fun j (e:k=j+1) (h:opB l[k]=true)=>(show okAt l k=zan (l[j]'(by omega)).atN (l[j]'(by omega)).atR l[k].atN l[k].atR by subst e;exact zkt hlt h))
   have HP:=hide (fun j (e:k=j+1)=>zcy hB g4 (g5 j (by omega)))
   have HJ:=hide (fun j (hj:j<k+1) (h:okAt l k=true)=>(show okAt l j=true by rcases Nat.lt_succ_iff_lt_or_eq.1 hj with h1 | rfl;exact hok j h1;exact h))
   have HNK:=hide (fun (h:okAt l k=false)=>zaa HN k hlt h)
   obtain⟨a1,c1,a2,c2,a3,c3,e0,e1,e2,e3,e4,e5,e6,e7,e8,e9,e10,e11,hr⟩:=zcy hB g4 (g5 k hlt)
   have hlt':(k:Int)<(l.length:Int):=by omega
   have hk0:(0:Int)<=(k:Int):=by omega
   have HR:=hide hr
   unfold zaY at HR
   generalize hoo:l[k]=o at *
   generalize o.key.length=nK at *
   generalize o.name.length=nN at *
   generalize o.text.length=nT at *
   clear g5 hr hnil hoo HG HN hok
   generalize okAt l k=okk at *
   have lo:=Loc.made wr #[.int .i64 o.kind,.int .i64 o.atN,.int .i64 o.atR,.int .i64 o.nodeN,.int .i64 o.nodeR,.int .i64 o.parN,.int .i64 o.parR,.slice a1 nK c1,.int .i64 o.elem,.slice a2 nN c2,.slice a3 nT c3,.bool o.gone] 83
   have hAb:=(Below.refl wr.heap.size wr).alloc (Nat.le_refl _) (.cells #[.int .i64 o.kind,.int .i64 o.atN,.int .i64 o.atR,.int .i64 o.nodeN,.int .i64 o.nodeR,.int .i64 o.parN,.int .i64 o.parR,.slice a1 nK c1,.int .i64 o.elem,.slice a2 nN c2,.slice a3 nT c3,.bool o.gone] 83)
   have LL:=hide (And.intro lo hAb)
   clear lo hAb
   go_wp2_with fail
   obtain⟨lo,hAb⟩:=zaa LL
   clear LL
   have hB':=zad hB hAb
   have HRb:=hide ((zaa HR).keep hAb)
   have g4':b<wr.heap.size:=Nat.lt_of_lt_of_le g4 hB.size
   have hcb:=fun a v (hb:a.block<wr.heap.size) (h:wr.cell? a=some v)=>(hAb.cell hb).trans h
   have hzz:=hAb.size
   have HCB:=hide hcb
   clear hcb hAb HR
   generalize (wr.alloc (.cells #[.int .i64 o.kind,.int .i64 o.atN,.int .i64 o.atR,.int .i64 o.nodeN,.int .i64 o.nodeR,.int .i64 o.parN,.int .i64 o.parR,.slice a1 nK c1,.int .i64 o.elem,.slice a2 nN c2,.slice a3 nT c3,.bool o.gone] 83))=wb at *
   have hSl:wr.heap.size<wb.heap.size:=lo.lt
   generalize wr.heap.size=S at *
   have hNE:Nonempty (Gr wb):=⟨⟨wb,Below.refl _ _⟩⟩
   obtain⟨y0,y1,y2,y3,y4,y5,y6,y7,y8,y9,y10,y11⟩:=lo.twelve
   replace y0:=Gr.cell hSl y0
   replace y1:=Gr.cell hSl y1
   replace y2:=Gr.cell hSl y2
   replace y3:=Gr.cell hSl y3
   replace y4:=Gr.cell hSl y4
   replace y5:=Gr.cell hSl y5
   replace y6:=Gr.cell hSl y6
   replace y7:=Gr.cell hSl y7
   replace y8:=Gr.cell hSl y8
   replace y9:=Gr.cell hSl y9
   replace y10:=Gr.cell hSl y10
   replace y11:=Gr.cell hSl y11
   clear lo e0 e1 e2 e3 e4 e5 e6 e7 e8 e9 e10 e11
   by_cases hq:opB o=true
   ·rw [hq]at HX
    rcases Nat.eq_zero_or_pos k with hz | hpos
    ·have HY:=hide (zaa HZ hq hz)
     have dz3:¬ 0<k:=by omega
     have dz4:decide (0<k)=false:=by simp;omega
     clear H0 HZ HS HP hq HL hz
     refine zaD (by kernel_rfl) (by kernel_rfl) ?_
     repeat (go_big_quiet_step ((rename_i p;exact zbV (zaa HX _ _ ((zaa HRb).keep p.h)))))
     refine wpQuiet_nil ?_
     rintro _ ⟨p,rfl⟩
     have hB3:=zad hB' p.h
     clear y0 y1 y2 y3 y4 y5 y6 y7 y8 y9 y10 y11 HRb
     go_wp2_with fail
     go_roundw
     case rel=>exact⟨k+1,by omega,by go_num,fun j hj=>zaa HJ j hj (zaa HY),hB3⟩
     case measure=>simp [intOf];omega
    ·obtain⟨j,ej⟩:∃j,k=j+1:=⟨k-1,by omega⟩
     have dz3:0<k:=hpos
     have dz4:decide (0<k)=true:=by simp;omega
     have hj1:(k:Int)-1=(j:Int):=by omega
     have hj0:(0:Int)<=(j:Int):=by omega
     have hjl:(j:Int)<(l.length:Int):=by omega
     obtain⟨pn,pr,i1,i2,HE⟩:∃pn pr,wb.cell? ⟨b,off+j*12+1,none⟩=some (.int .i64 pn)∧wb.cell? ⟨b,off+j*12+2,none⟩=some (.int .i64 pr)∧okk=zan pn pr o.atN o.atR:=by
      obtain⟨_,_,_,_,_,_,_,i1,i2,_⟩:=zaa HP j ej
      exact⟨_,_,zaa HCB _ _ g4' i1,zaa HCB _ _ g4' i2,zaa HS j ej hq⟩
     replace i1:=Gr.cell (Nat.lt_trans g4' hSl) i1
     replace i2:=Gr.cell (Nat.lt_trans g4' hSl) i2
     clear H0 HZ HS HP hq hpos
     have HLL:=hide (fun W=>zaa HL W pn pr o.atN o.atR)
     generalize zan pn pr o.atN o.atR=lb at *
     subst HE
     clear HL ej
     refine zaD (by kernel_rfl) (by kernel_rfl) ?_
     repeat (go_big_quiet_step ((rename_i p;first | exact zbV (zaa HX _ _ ((zaa HRb).keep p.h)) | exact zbV (zaa HLL _))))
     refine wpQuiet_nil ?_
     rintro _ ⟨p,rfl⟩
     have hB3:=zad hB' p.h
     clear y0 y1 y2 y3 y4 y5 y6 y7 y8 y9 y10 y11 HRb i1 i2
     cases okk with
     | true=>
      go_wp2_with fail
      go_roundw
      case rel=>exact⟨k+1,by omega,by go_num,fun j hj=>zaa HJ j hj rfl,hB3⟩
      case measure=>simp [intOf];omega
     | false=>
      have HF:=hide (zaa HNK rfl)
      clear HNK
      go_wp2_with fail
      go_ret
      exact⟨by rw [zaa HF];rfl,hB3⟩
   ·have hq':opB o=false:=by simpa using hq
    rw [hq']at HX
    have HY:=hide (zaa HNK (zaa H0 hq'))
    clear H0 HZ HS HP hq hq' HL HNK
    refine zaD (by kernel_rfl) (by kernel_rfl) ?_
    repeat (go_big_quiet_step ((rename_i p;exact zbV (zaa HX _ _ ((zaa HRb).keep p.h)))))
    refine wpQuiet_nil ?_
    rintro _ ⟨p,rfl⟩
    have hB3:=zad hB' p.h
    clear y0 y1 y2 y3 y4 y5 y6 y7 y8 y9 y10 y11 HRb
    go_wp2_with fail
    go_ret
    exact⟨by rw [zaa HY];rfl,hB3⟩
  ·have HY:=hide (zaa HG (fun j hj=>hok j (by omega)))
   clear g5
   go_wp2_with fail
   go_ret
   exact⟨by rw [zaa HY];rfl,hB⟩
end Go.Proofs.YtlpnibbdmkeklaaGreatDoor
namespace Go.Proofs.YtlpnibbdmkeklaaGreatDoor
open Go.RowKit Go.Maps
set_option linter.unusedVariables false
set_option maxRecDepth 100000
open Classical in
set_option maxHeartbeats 6400000 in
theorem znA (n:Nat) (w:Xe) (t:Tr (n+1)) (a1 a2 a3 a4:Xc) (c1 c2 c3 c4:Nat) (hN:RdNode (n+1) w [.int .i64 t.kind,.slice a1 t.name.length c1,.slice a2 t.text.length c2,.slice a3 t.attrs.length c3,.slice a4 t.kids.length c4] t) (h1:Byt w (.slice a1 t.name.length c1) t.name) (hsz:szT (n+1) t<=2097152) :
  Calls Tryz.prog 51 #[.agg #[.int .i64 t.kind,.slice a1 t.name.length c1,.slice a2 t.text.length c2,.slice a3 t.attrs.length c3,.slice a4 t.kids.length c4]] w fun e w'=>e=.returned (.bool (okN n t && !zaj t.name))∧Below w.heap.size w w':=by
 refine zaf ?_
 intro Q HQ
 have hA:Below w.heap.size w ((w.alloc (.cells #[.int .i64 t.kind,.slice a1 t.name.length c1,.slice a2 t.text.length c2,.slice a3 t.attrs.length c3,.slice a4 t.kids.length c4] 37)).alloc (.cells vs0 110)):=zad ((Below.refl _ _).alloc (Nat.le_refl _) _) ((Below.refl _ _).alloc (Nat.le_refl _) _)
 have l0:=(Loc.made w #[.int .i64 t.kind,.slice a1 t.name.length c1,.slice a2 t.text.length c2,.slice a3 t.attrs.length c3,.slice a4 t.kids.length c4] 37).alloc (.cells vs0 110)
 have l1:=Loc.made (w.alloc (.cells #[.int .i64 t.kind,.slice a1 t.name.length c1,.slice a2 t.text.length c2,.slice a3 t.attrs.length c3,.slice a4 t.kids.length c4] 37)) vs0 110
 simp only [World.size_alloc]at l1
 have HN:=hide (zgh n _ _ _ _ _ _ t (hN.keep hA) hsz)
 have x0:=l0.cell 0
 have x1:=l0.cell 1
 have x2:=l0.cell 2
 have x3:=l0.cell 3
 have x4:=l0.cell 4
 have HX:=hide (And.intro hA (And.intro l0 (And.intro l1 h1)))
 clear hA l0 l1 hN h1
 unfold vs0 at *
 go_enter Tryz.func51,Tryz.ntmps51
 go_wp2_with fail
 refine (zaa HN).mono ?_
 rintro e w2 ⟨rfl,hb2⟩
 obtain⟨hA,l0,l1,h1⟩:=zaa HX
 have m0:=l0.all hb2
 have m1:=l1.all hb2
 have hA2:=zad hA hb2
 have hm1:=m1.lt
 clear HX HN hA l0 l1 hb2 x0 x1 x2 x3 x4
 cases ho:okN n t with
 | false=>
  have HE:=hide (zaa HQ (.returned (.bool false)) w2 ⟨by rw [ho];rfl,hA2⟩)
  clear HQ hA2 m0 m1 h1
  go_wp2_with fail
  exact zaa HE
 | true=>
  have hbt:∀w',Frm w2 w' [w.heap.size+1]->Byt w' (.slice a1 t.name.length c1) t.name:=fun w' f=>h1.keep (hA2.trans (f.below hA2.size (fun q hq=>by have e9:q=w.heap.size+1:=(by simpa using hq);omega)))
  have HC:=hide (zij w2.heap.size (w.heap.size+1) w2 _ t.name (.inl m1) (Nat.le_refl _) hbt)
  have hvv:decide (Void t.name)=zaj t.name:=by
   cases hv:zaj t.name with
   | true=>exact decide_eq_true ((zaS _).1 hv)
   | false=>exact decide_eq_false (fun e=>by rw [(zaS _).2 e]at hv;cases hv)
  rw [hvv]at HC
  have x1:=m0.cell 1
  have HQ2:=hide (fun w' f=>zaa HQ (.returned (.bool (!zaj t.name))) w' ⟨by rw [ho];rfl,hA2.trans ((show Frm w2 w' [w.heap.size+1] from f).below hA2.size (fun q hq=>by have e9:q=w.heap.size+1:=(by simpa using hq);omega))⟩)
  clear HQ hA2 m0 m1 h1 hbt hvv
  go_wp2_with fail
  refine (zaa HC).mono ?_
  rintro e w3 ⟨rfl,_,hf3⟩
  have HE:=hide (zaa HQ2 w3 hf3)
  clear HQ2 HC hf3
  go_wp2_with fail
  exact zaa HE
def FoRM (w:Xe) (b:Bool) (R:List PlV) (e:Ending) (w':Xe):Prop:=∃a c F,e=.returned (.tuple #[.agg #[.slice a R.length c],.bool b])∧OwPlsM w' (.slice a R.length c) R F∧F.Nodup∧(∀q∈F,w.heap.size<=q∧q<w'.heap.size)∧Below w.heap.size w w'
theorem FoRM.no {w w':Xe} (h:Below w.heap.size w w'):FoRM w false [] (.returned (.tuple #[.agg #[.slice none 0 0],.bool false])) w':=
 ⟨none,0,[],rfl,⟨[],[],rfl,rfl,fun i hi=>(by cases hi),World.ownsRow_nil _ _ _ _,rfl⟩,List.nodup_nil,fun q hq=>(by cases hq),h⟩
theorem zoe {n:Nat} {t:Tr (n+1)} (h:okN n t=true):t.kind=0∧t.text=[]:=by
 obtain⟨hk,ho⟩:=Bool.and_eq_true_iff.1 (show (decide (t.kind=0) && (okT (n+1) 1 t 120).1)=true from h)
 have hk:=of_decide_eq_true hk
 refine⟨hk,?_⟩
 rw [zbo]at ho
 rw [if_neg (by decide),if_neg (by omega)]at ho
 by_cases h3:zaT t=true
 ·exact List.eq_nil_of_length_eq_zero ((zbh _).1 h3).2.2.1
 ·rw [if_neg h3]at ho;cases ho
theorem zlC (n:Nat) (w:Xe) (t:Tr (n+1)) (a1 a2 a3 a4 a5:Xc) (c1 c2 c3 c4 c5:Nat) (ops:List OpV) (hrd:RdNode (n+1) w [.int .i64 t.kind,.slice a1 t.name.length c1,.slice a2 t.text.length c2,.slice a3 t.attrs.length c3,.slice a4 t.kids.length c4] t) (h5:RdOps w (.slice a5 ops.length c5) ops)
  (hN:okN n t=true) (hO:opsB ops=true) (hsz:szT (n+1) t<=2097152) (hG:Glo w) :
  Calls Tryz.prog 52 #[.agg #[.int .i64 t.kind,.slice a1 t.name.length c1,.slice a2 t.text.length c2,.slice a3 t.attrs.length c3,.slice a4 t.kids.length c4],.slice a5 ops.length c5] w fun e w'=>∃g mb a c F B,e=.returned (.pointer (some ⟨g,0,none⟩))∧w.heap.size<=B∧FoS B w' g mb a c (zaK t ops) F∧Below w.heap.size w w':=by
 obtain⟨r1,r2⟩:=zoe hN
 obtain⟨kd,nm,tx,ats,ks⟩:Nd (Tr n):=t
 obtain rfl:kd=0:=r1
 obtain rfl:tx=[]:=r2
 exact zkd n w nm ats ks a1 a2 a3 a4 a5 c1 c2 c3 c4 c5 ops hrd h5 hN hO hsz hG
set_option maxHeartbeats 6400000 in
theorem zpa (n:Nat) (w:Xe) (t:Tr (n+1)) (a1 a2 a3 a4 a5:Xc) (c1 c2 c3 c4 c5:Nat) (ops:List OpV) (hN:RdNode (n+1) w [.int .i64 t.kind,.slice a1 t.name.length c1,.slice a2 t.text.length c2,.slice a3 t.attrs.length c3,.slice a4 t.kids.length c4] t) (h5:RdOps w (.slice a5 ops.length c5) ops) (hsz:szT (n+1) t<=2097152) (hG:Glo w) :
  Calls Tryz.prog 22 #[.agg #[.int .i64 t.kind,.slice a1 t.name.length c1,.slice a2 t.text.length c2,.slice a3 t.attrs.length c3,.slice a4 t.kids.length c4],.slice a5 ops.length c5] w fun e w'=>FoRM w (zdx t ops) (zdY t ops) e w':=by
 refine zaf ?_
 intro Q HQ
 have h1:Byt w (.slice a1 t.name.length c1) t.name:=by obtain⟨_,_,_,_,e,_,_,h,_⟩:=hN;cases e;exact h
 have hA:Below w.heap.size w ((w.alloc (.cells #[.int .i64 t.kind,.slice a1 t.name.length c1,.slice a2 t.text.length c2,.slice a3 t.attrs.length c3,.slice a4 t.kids.length c4] 37)).alloc (.cells #[.slice none 0 0] 58)):=zad ((Below.refl _ _).alloc (Nat.le_refl _) _) ((Below.refl _ _).alloc (Nat.le_refl _) _)
 have l0:=(Loc.made w #[.int .i64 t.kind,.slice a1 t.name.length c1,.slice a2 t.text.length c2,.slice a3 t.attrs.length c3,.slice a4 t.kids.length c4] 37).alloc (.cells #[.slice none 0 0] 58)
 have l1:=Loc.made (w.alloc (.cells #[.int .i64 t.kind,.slice a1 t.name.length c1,.slice a2 t.text.length c2,.slice a3 t.attrs.length c3,.slice a4 t.kids.length c4] 37)) #[.slice none 0 0] 58
 simp only [World.size_alloc]at l1
 have HN:=hide (znA n _ t a1 a2 a3 a4 c1 c2 c3 c4 (hN.keep hA) (h1.keep hA) hsz)
 have x0:=l0.cell 0
 have x1:=l0.cell 1
 have x2:=l0.cell 2
 have x3:=l0.cell 3
 have x4:=l0.cell 4
 obtain⟨bb,hbb⟩:∃bb,bb=(okN n t && !zaj t.name):=⟨_,rfl⟩
 rw [<-hbb]at HN
 have HBB:=hide hbb
 have HX:=hide (And.intro hA (And.intro l0 (And.intro l1 (And.intro hN (And.intro h5 hG)))))
 clear hA l0 l1 hN h1 h5 hG hbb
 go_enter Tryz.func22,Tryz.ntmps22
 go_wp2_with fail
 refine (zaa HN).mono ?_
 rintro e w2 ⟨rfl,hb2⟩
 obtain⟨hA,l0,l1,hN,h5,hG⟩:=zaa HX
 have m0:=l0.all hb2
 have m1:=l1.all hb2
 have hA2:=zad hA hb2
 clear HX HN hA l0 l1 hb2 x0 x1 x2 x3 x4
 cases bb with
 | false=>
  have hb:=(zaa HBB).symm
  have hB:zdx t ops=false:=by unfold zdx;rw [hb];rfl
  have hR:zdY t ops=[]:=by unfold zdY;rw [hB];rfl
  have r0:=m1.cell 0
  have rf:=m1.frozen 0
  have lX:=m1.set 0 (.slice none 0 0)
  have fX:=zab w2 (w.heap.size+1) 0 (.slice none 0 0)
  have HE:=hide (And.intro lX (zaa HQ (.returned (.tuple #[.agg #[.slice none 0 0],.bool false])) _ (by rw [hB,hR];exact FoRM.no (hA2.trans (fX.below hA2.size (fun q hq=>by have e9:q=w.heap.size+1:=(by simpa using hq);omega))))))
  clear HQ hA2 m0 m1 lX fX hN h5 hG hB hR hb HBB
  go_wp2_with fail
  have eX:=(zaa HE).1.cell 0
  exact bodyPost_ret (v:=.tuple #[.agg #[.slice none 0 0],.bool false]) (by simp [results,Tryz.results22,go_sem,eX]) rfl (zaa HE).2
 | true=>
  have hb:=(zaa HBB).symm
  have HO:=hide (zke w2 _ ops (h5.keep hA2))
  have HY:=hide (And.intro hA2 (And.intro m0 (And.intro m1 (And.intro hN (And.intro h5 (And.intro hG hb))))))
  clear hA2 m0 m1 hN h5 hG hb HBB
  go_wp2_with fail
  refine (zaa HO).mono ?_
  rintro e w3 ⟨rfl,hb3⟩
  obtain⟨hA2,m0,m1,hN,h5,hG,hb⟩:=zaa HY
  have n0:=m0.all hb3
  have n1:=m1.all hb3
  have hA3:=zad hA2 hb3
  clear HO HY hA2 m0 m1 hb3
  cases ho:opsB ops with
  | false=>
   have hB:zdx t ops=false:=by unfold zdx;rw [ho];simp
   have hR:zdY t ops=[]:=by unfold zdY;rw [hB];rfl
   have r0:=n1.cell 0
   have rf:=n1.frozen 0
   have lX:=n1.set 0 (.slice none 0 0)
   have fX:=zab w3 (w.heap.size+1) 0 (.slice none 0 0)
   have HE:=hide (And.intro lX (zaa HQ (.returned (.tuple #[.agg #[.slice none 0 0],.bool false])) _ (by rw [hB,hR];exact FoRM.no (hA3.trans (fX.below hA3.size (fun q hq=>by have e9:q=w.heap.size+1:=(by simpa using hq);omega))))))
   clear HQ hA3 n0 n1 lX fX hN h5 hG hB hR hb
   go_wp2_with fail
   have eX:=(zaa HE).1.cell 0
   exact bodyPost_ret (v:=.tuple #[.agg #[.slice none 0 0],.bool false]) (by simp [results,Tryz.results22,go_sem,eX]) rfl (zaa HE).2
  | true=>
   have hB:zdx t ops=true:=by unfold zdx;rw [hb,ho];rfl
   have hR:zdY t ops=zaK t ops:=by unfold zdY;rw [hB];rfl
   have hNk:okN n t=true:=by cases hq:okN n t with | true=>rfl | false=>rw [hq]at hb;cases hb
   have HC:=hide (zlC n w3 t a1 a2 a3 a4 a5 c1 c2 c3 c4 c5 ops (hN.keep hA3) (h5.keep hA3) hNk ho hsz (hG.keep hA3))
   have y0:=n0.cell 0
   have y1:=n0.cell 1
   have y2:=n0.cell 2
   have y3:=n0.cell 3
   have y4:=n0.cell 4
   have HZ:=hide (And.intro hA3 (And.intro n1 (And.intro hB hR)))
   clear hA3 n0 n1 hN h5 hG hB hR hb ho hNk
   go_wp2_with fail
   refine (zaa HC).mono ?_
   rintro e w4 ⟨g,mb,a,c,F,B,rfl,hBw,hs,hb4⟩
   obtain⟨hA3,n1,hB,hR⟩:=zaa HZ
   obtain⟨cs,lg,hc0,_⟩:=hs.set.loc
   have g0:w4.cell? ⟨g,0,none⟩=some (.slice a (zaK t ops).length c):=(lg.cell 0).trans hc0
   have o1:=n1.all hb4
   have hA4:=zad hA3 hb4
   have hr1:=n1.lt
   have r0:=o1.cell 0
   have rf:=o1.frozen 0
   have lX:=o1.set 0 (.slice a (zaK t ops).length c)
   have fX:=zab w4 (w.heap.size+1) 0 (.slice a (zaK t ops).length c)
   have hlt:=OwPlsM.lt hs.row
   have hs9:=hA3.size
   have hsX:=fX.size
   have HE:=hide (And.intro lX (zaa HQ (.returned (.tuple #[.agg #[.slice a (zaK t ops).length c],.bool true])) _ (by
    rw [hB,hR]
    exact⟨a,c,F,rfl,hs.row.frm fX (fun q hq e=>by have e9:q=w.heap.size+1:=(by simpa using e);have:=hs.ge q hq;omega),hs.nd,fun q hq=>⟨by have:=hs.ge q hq;omega,by have:=hlt q hq;omega⟩,hA4.trans (fX.below hA4.size (fun q hq=>by have e9:q=w.heap.size+1:=(by simpa using hq);omega))⟩)))
   clear HQ HC HZ hs lg hc0 o1 hA4 lX fX hlt hA3 n1 hB hR
   generalize (zaK t ops).length=nn at *
   go_wp2_with fail
   have eX:=(zaa HE).1.cell 0
   exact bodyPost_ret (v:=.tuple #[.agg #[.slice a nn c],.bool true]) (by simp [results,Tryz.results22,go_sem,eX]) rfl (zaa HE).2
end Go.Proofs.YtlpnibbdmkeklaaGreatDoor
namespace Go.Proofs.YtlpnibbdmkeklaaGreatDoor
open Go.RowKit
set_option linter.unusedVariables false
set_option maxRecDepth 100000
theorem zqW {P:Prop} [Decidable P] {b:Bool} (h:b=true↔P):b=decide P:=by
 cases b with
 | true=>simp [h.1 rfl]
 | false=>simp;exact fun hh=>by have:=h.2 hh;cases this
open Classical in
set_option maxHeartbeats 6400000 in
theorem zos (n:Nat) (w:Xe) (a b c d e:Xf) (t:Tr (n+1)) (h:RdNode (n+1) w [a,b,c,d,e] t) (hsz:szT (n+1) t<=2097152) :
  Calls Tryz.prog 51 #[.agg #[a,b,c,d,e]] w fun e w'=>e=.returned (.bool (zhO n t))∧Below w.heap.size w w':=by
 obtain⟨z,ab,nb,cb,ac,nc,cc,ad,nd,cd,ae,ne,ce,rfl,rfl,rfl,rfl,rfl⟩:=rd5 h
 have HN:=hide (fun W (hW:Below w.heap.size w W)=>zgh n W _ _ _ _ _ t (h.keep hW) hsz)
 have hnm:Byt w (.slice ab nb cb) t.name:=by
  obtain⟨_,_,_,_,e0,_,_,hb,_⟩:=h
  simp only [List.cons.injEq,and_true]at e0
  obtain⟨_,rfl,_⟩:=e0
  exact hb
 have HB:=hide hnm
 have HV:=hide (show zaj t.name=decide (Void t.name) from zqW (zaS t.name))
 clear h hnm
 unfold zhO
 have hA1:=(Below.refl w.heap.size w).alloc (Nat.le_refl _) (.cells #[.int .i64 z,.slice ab nb cb,.slice ac nc cc,.slice ad nd cd,.slice ae ne ce] 37)
 have l1:=Loc.made w #[.int .i64 z,.slice ab nb cb,.slice ac nc cc,.slice ad nd cd,.slice ae ne ce] 37
 have hA2:=hA1.alloc (by simp) (.cells vs0 110)
 have l2:=Loc.made (w.alloc (.cells #[.int .i64 z,.slice ab nb cb,.slice ac nc cc,.slice ad nd cd,.slice ae ne ce] 37)) vs0 110
 have l1':=l1.alloc (.cells vs0 110)
 have hsz1:(w.alloc (.cells #[.int .i64 z,.slice ab nb cb,.slice ac nc cc,.slice ad nd cd,.slice ae ne ce] 37)).heap.size=w.heap.size+1:=by simp
 rw [hsz1]at l2
 have LL:=hide (And.intro hA2 (And.intro l1' l2))
 have eqv:(Value.agg #[.int .u32 0,.int .i32 0,.int .u32 0,.map none])=.agg vs0:=rfl
 clear hA1 l1 hA2 l2 l1' hsz1
 unfold vs0 at LL
 go_enter Tryz.func51,Tryz.ntmps51
 go_wp2_with fail
 obtain⟨hA,l1,l2⟩:=zaa LL
 clear LL
 generalize ((w.alloc (.cells #[.int .i64 z,.slice ab nb cb,.slice ac nc cc,.slice ad nd cd,.slice ae ne ce] 37)).alloc (.cells #[.int .u32 0,.int .i32 0,.int .u32 0,.map none] 110))=wa at *
 refine (zaa HN _ hA).mono ?_
 rintro e w1 ⟨rfl,hB⟩
 have hA1:=zad hA hB
 replace l1:=l1.all hB
 replace l2:=l2.all hB
 clear hA hB HN
 cases hb:okN n t with
 | false=>
  go_wp2_with fail
  go_ret
  exact⟨by rw [hb];rfl,hA1⟩
 | true=>
  obtain⟨x0,x1,x2,x3,x4⟩:=l1.five
  go_wp2_with fail
  refine (zij w1.heap.size (w.heap.size+1) w1 _ t.name (.inl l2) (Nat.le_refl _) (fun w' f=>(zaa HB).keep (hA1.trans (f.below hA1.size (fun q hq=>by simp at hq;omega))))).mono ?_
  rintro e w2 ⟨rfl,_,f⟩
  have hA2:=hA1.trans (f.below hA1.size (fun q hq=>by simp at hq;omega))
  have hv:=zaa HV
  generalize decide (Void t.name)=vd at *
  clear f l1 l2 x0 x1 x2 x3 x4
  go_wp2_with fail
  go_ret
  exact⟨by rw [hb,hv];rfl,hA2⟩
set_option maxHeartbeats 3200000 in
theorem zna (n:Nat) (w:Xe) (id:Int) (a b c d e:Xf) (t:Tr (n+1)) (h:RdNode (n+1) w [a,b,c,d,e] t) (hsz:szT (n+1) t<=2097152) :
  Calls Tryz.prog 47 #[.int .i64 id,.agg #[a,b,c,d,e]] w fun e w'=>e=.returned (.bool (zfM n id t))∧Below w.heap.size w w':=by
 obtain⟨z,ab,nb,cb,ac,nc,cc,ad,nd,cd,ae,ne,ce,rfl,rfl,rfl,rfl,rfl⟩:=rd5 h
 have HN:=hide (fun W (hW:Below w.heap.size w W)=>zos n W _ _ _ _ _ t (h.keep hW) hsz)
 clear h
 unfold zfM
 generalize zhO n t=rb at *
 have hA:=(Below.refl w.heap.size w).alloc (Nat.le_refl _) (.cells #[.int .i64 z,.slice ab nb cb,.slice ac nc cc,.slice ad nd cd,.slice ae ne ce] 37)
 by_cases h1:0<=id
 ·by_cases h2:id<8
  ·have d1:decide (0<=id)=true:=by simpa using h1
   have d2:decide (id<8)=true:=by simpa using h2
   rw [d1,d2]
   go_enter Tryz.func47,Tryz.ntmps47
   go_wp2_with fail
   refine (zaa HN _ hA).mono ?_
   rintro e w1 ⟨rfl,hB⟩
   have hA1:=zad hA hB
   go_wp2_with fail
   go_ret
   exact⟨rfl,hA1⟩
  ·have d1:decide (0<=id)=true:=by simpa using h1
   have d2:decide (id<8)=false:=by simpa using h2
   rw [d1,d2]
   go_enter Tryz.func47,Tryz.ntmps47
   go_wp2_with fail
   go_ret
   exact⟨rfl,hA⟩
 ·have d1:decide (0<=id)=false:=by simpa using h1
  rw [d1]
  go_enter Tryz.func47,Tryz.ntmps47
  go_wp2_with fail
  go_ret
  exact⟨rfl,hA⟩
end Go.Proofs.YtlpnibbdmkeklaaGreatDoor
