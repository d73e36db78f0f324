/- Own texts joined: FoU, FoH, BsA, WtA, ChA, FoD, FoE, FoJ. -/
import Derived.Test.YtlpnibbdmkeklaaGreatDoorJa
import Derived.Test.YtlpnibbdmkeklaaGreatDoorJb
import Derived.Test.YtlpnibbdmkeklaaGreatDoorJc
import Derived.Test.YtlpnibbdmkeklaaGreatDoorJd
import Derived.Test.YtlpnibbdmkeklaaGreatDoorJe
import Derived.Test.YtlpnibbdmkeklaaGreatDoorJf
import Derived.Test.YtlpnibbdmkeklaaGreatDoorJg
import Derived.Test.YtlpnibbdmkeklaaGreatDoorJh
import Derived.Test.YtlpnibbdmkeklaaGreatDoorJi
import Derived.Test.YtlpnibbdmkeklaaGreatDoorJj
import Derived.Test.YtlpnibbdmkeklaaGreatDoorJk
import Derived.Deep.CutBlock
import Derived.Deep.RegionHeld3
import Derived.Deep.QuietTactic
import Derived.BigQuiet
namespace Go.Proofs.YtlpnibbdmkeklaaGreatDoor
open Go.RowKit Go.Maps
set_option linter.unusedVariables false
set_option maxRecDepth 100000
theorem FoS.upd {B:Nat} {w:World} {g mb gr c:Nat} {l:List PlV} {F:List Nat} (h:FoS B w g mb (some ⟨gr,0,none⟩) c l F) {k:Nat} (hk:k<l.length) :
  ∃Cs C G,RowJ w 117 9 gr l.length c Cs k C∧OwPlM w C l[k] G∧G.Nodup∧(∀q∈G,q∈F)∧gr∈F∧gr∉G∧
   ∀(w':World) (S:List Nat) (D:List Value) (p':PlV) (G':List Nat),RowJ w' 117 9 gr l.length c Cs k D→Frm w w' S→(∀q∈S,q=gr∨q∈G)→OwPlM w' D p' G'→G'.Nodup→(∀q∈G',q∈G∨(q∉F∧B≤q))→p'.id=l[k].id→okI p'.par→
    ∃F',FoS B w' g mb (some ⟨gr,0,none⟩) c (l.set k p') F'∧∀q∈F',q∈F∨q∈G':=by
 obtain⟨Cs,C,G,hR,hC,hGN,hGF,hgF,hgG,hcl⟩:=OwElems.one (R:=OwPlM) (fun h f d=>OwPlM.frm h f d) h.row h.nd k hk
 refine⟨Cs,C,G,hR,hC,hGN,hGF,hgF,hgG,?_⟩
 intro w' S D p' G' hR' f hS hp hN' hG' hid hpar
 have hlt:=OwPlsM.lt h.row
 have hSF:∀q∈S,q∈F:=fun q hq=>by
  rcases hS q hq with e | e
  ·rw [e];exact hgF
  ·exact hGF q e
 obtain⟨F',g1,g2,g3⟩:=hcl w' S D p' G' hR' f (fun q _ hq1 hq2 hq3=>by rcases hS q hq3 with e | e;(exact hq2 e);(exact hq1 e)) hp hN' (fun q hq=>(hG' q hq).imp id (fun h1=>h1.1))
 have g4:=g3
 have hget:l[k]? = some l[k]:=by simp [hk]
 refine⟨F',⟨?_,?_,g1,g2,fun q hq=> ?_,h.geg,h.gem,fun q hq=> ?_,by rw [List.length_set];exact h.len⟩,g4⟩
 ·rw [List.length_set]
  exact h.set.frm f (fun e=>h.gF (hSF g e)) (fun q hq=>.inr (OwPlsM.typ h.row q (hSF q hq)).cells)
 ·exact (h.map.frm f (fun e=>h.mF (hSF mb e))).ids (zig hget hid).symm
 ·rcases g4 q hq with e | e
  ·exact h.ge q e
  ·rcases hG' q e with e | e
   ·exact h.ge q (hGF q e)
   ·exact e.2
 ·rcases List.mem_or_eq_of_mem_set hq with e | e
  ·exact h.ids q e
  ·rw [e]
   exact⟨by rw [hid];exact (h.ids l[k] (List.getElem_mem hk)).1,hpar⟩
theorem zlN {X T T' Y:List Nat} (h:(X++T++Y).Nodup) (hT:T'.Nodup) (hd:∀q∈T',q∉X++T++Y):(X++T'++Y).Nodup:=by
 rw [List.append_assoc]at h ⊢
 obtain⟨h1,h2,h3⟩:=List.nodup_append.1 h
 obtain⟨h4,h5,h6⟩:=List.nodup_append.1 h2
 refine List.nodup_append.2 ⟨h1,List.nodup_append.2 ⟨hT,h5,fun a ha b hb e=>hd a ha (by rw [e];exact List.mem_append_right _ hb)⟩,fun a ha b hb e=> ?_⟩
 rcases List.mem_append.1 hb with hb | hb
 ·exact hd b hb (by rw [←e];exact List.mem_append_left _ (List.mem_append_left _ ha))
 ·exact h3 a ha b (List.mem_append_right _ hb) e
theorem zpM {l:List PlV} {o:OpV} (h0:o.kind≠0) (hp:posP l o.node=none):doV l o=l:=by
 unfold doV
 rw [if_neg h0,hp]
theorem zhn {l:List PlV} {o:OpV} {k:Nat} (h0:o.kind≠0) (hp:posP l o.node=some k) (hk:k<l.length):doV l o=if o.kind=1 then (if zbX l o k then l.set k (zdp o l[k]) else l) else if o.kind=2 then (if 2≤k∧l[k].kind=1 then l.set k (zfn o l[k]) else l) else (if k≠1∧l[k].kind=0 then l.set k (zbp o l[k]) else l):=by
 unfold doV
 rw [if_neg h0,hp]
 simp only [List.getElem?_eq_getElem hk]
def newT (o:OpV):Tr 1:=(⟨o.elem,o.name,o.text,[],[]⟩:Nd (Tr 0))
theorem zrf (o:OpV):szT 1 (newT o)=o.name.length+o.text.length:=by
 show o.name.length+o.text.length+szA []+(0+0)=_
 rfl
theorem zmi {α:Type} (w:World) (size:Nat) (R:List Value→α→Prop):Elems w size (.slice none 0 0) ([]:List α) R:=⟨Nat.zero_le _,.inl ⟨rfl,rfl⟩⟩
theorem zqM {w:World} {a b c:Value} {x:List Int} {Fa:List Nat} {m:Nat} (hz:OwnZ w m a x) (h:(FB b++FB c++Fa).Nodup) (hlt:∀q∈FB b++FB c++Fa,q<m):(FB a++FB b++FB c++Fa).Nodup:=by
 rw [List.append_assoc,List.append_assoc]
 rw [List.append_assoc]at h hlt
 exact List.nodup_append.2 ⟨zaE _,h,fun q hq q' hq' e=>by
  have h1:=(hz.lt q (by simpa [FB]using hq)).1
  have h2:=hlt q' hq'
  omega⟩
theorem zjN (w:World) (o:OpV) (k2 k3:Option Addr) (d2 d3:Nat) (h2:Byt w (.slice k2 o.name.length d2) o.name) (h3:Byt w (.slice k3 o.text.length d3) o.text) (hs2:o.name.length≤1000000) (hs3:o.text.length≤1000000) (hel:o.elem=0∨o.elem=1) :
  Calls Tryz.prog 86 #[.agg #[.int .i64 o.atN,.int .i64 o.atR],.agg #[.int .i64 o.elem,.slice k2 o.name.length d2,.slice k3 o.text.length d3,.slice none 0 0,.slice none 0 0]] w fun e w'=>∃p2 q2 p3 q3 p4 q4 Fa,e=.returned (.agg #[.int .i64 o.atN,.int .i64 o.atR,.int .i64 0,.int .i64 0,.slice none 0 0,.int .i64 o.elem,.slice p2 o.name.length q2,.slice p3 o.text.length q3,.slice p4 0 q4])∧
   Own w' 0 (.slice p2 o.name.length q2) o.name∧Own w' 0 (.slice p3 o.text.length q3) o.text∧OwAttrs w' (.slice p4 0 q4) [] Fa∧(FB (.slice p2 o.name.length q2)++FB (.slice p3 o.text.length q3)++Fa).Nodup∧(∀q∈FB (.slice p2 o.name.length q2)++FB (.slice p3 o.text.length q3)++Fa,w.heap.size≤q)∧Below w.heap.size w w':=by
 have hrd:RdNode 1 w [.int .i64 o.elem,.slice k2 o.name.length d2,.slice k3 o.text.length d3,.slice none 0 0,.slice none 0 0] (newT o):=
  ⟨_,_,_,_,rfl,by show _≤o.elem;omega,by show o.elem≤_;omega,h2,h3,zmi _ _ _,zmi _ _ _⟩
 exact zeI 0 w (o.atN,o.atR) (newT o) _ _ _ _ hrd (by rw [zrf];omega)
set_option maxHeartbeats 12800000 in
theorem znR {B:Nat} {w0 w:World} {g mb:Nat} {a:Option Addr} {c:Nat} {l:List PlV} {F:List Nat} (h:FoS B w g mb a c l F) (hB0:w0.heap.size≤B) (hw0:Below w0.heap.size w0 w) (o:OpV) (k1 k2 k3:Option Addr) (d1 d2 d3:Nat)
  (h1:Ints w0 (.slice k1 o.key.length d1) o.key) (h2:Byt w0 (.slice k2 o.name.length d2) o.name) (h3:Byt w0 (.slice k3 o.text.length d3) o.text) (hs1:o.key.length≤1000000) (hs2:o.name.length≤1000000) (hs3:o.text.length≤1000000)
  (hat:okI o.at') (hpar:okI o.par) (hel:o.elem=0∨o.elem=1) (hnew:posP l o.at'=none) (hlen:l.length+1≤100000) :
  Calls Tryz.prog 120 #[.pointer (some ⟨g,0,none⟩),.agg #[.int .i64 o.kind,.int .i64 o.atN,.int .i64 o.atR,.int .i64 o.nodeN,.int .i64 o.nodeR,.int .i64 o.parN,.int .i64 o.parR,.slice k1 o.key.length d1,.int .i64 o.elem,.slice k2 o.name.length d2,.slice k3 o.text.length d3,.bool o.gone]] w fun e w'=>e=.returned (.tuple #[])∧FoT B w g mb (if zae l o.par=true then l++[newP o] else l) F w':=by
 refine zaf ?_
 intro Q HQ
 have hA:Below w.heap.size w (w.alloc (.cells #[.int .i64 o.kind,.int .i64 o.atN,.int .i64 o.atR,.int .i64 o.nodeN,.int .i64 o.nodeR,.int .i64 o.parN,.int .i64 o.parR,.slice k1 o.key.length d1,.int .i64 o.elem,.slice k2 o.name.length d2,.slice k3 o.text.length d3,.bool o.gone] 83)):=(Below.refl _ _).alloc (Nat.le_refl _) _
 have lb:=Loc.made w #[.int .i64 o.kind,.int .i64 o.atN,.int .i64 o.atR,.int .i64 o.nodeN,.int .i64 o.nodeR,.int .i64 o.parN,.int .i64 o.parR,.slice k1 o.key.length d1,.int .i64 o.elem,.slice k2 o.name.length d2,.slice k3 o.text.length d3,.bool o.gone] 83
 have hq1:=h.keep hA
 have HT:=hide (ziT hq1 o.par hpar)
 unfold OpV.par zap at HT
 have b5:=lb.cell 5
 have b6:=lb.cell 6
 have hgl:=h.set.lt
 have hml:=h.map.lt
 have hFl:=OwPlsM.lt h.row
 have hge:∀q∈g::mb::F,B≤q:=fun q hq=>by rcases List.mem_cons.1 hq with rfl | hq;(exact h.geg);(rcases List.mem_cons.1 hq with rfl | hq;(exact h.gem);(exact h.ge q hq))
 have LL:=hide (And.intro hA (And.intro lb (And.intro hw0 (And.intro h1 (And.intro h2 h3)))))
 have HV:=hide (And.intro hat (And.intro hpar (And.intro hel hnew)))
 have HGE:=hide hge
 clear hA lb h hq1 hw0 h1 h2 h3 hat hpar hel hnew hge
 go_enter Tryz.func120,Tryz.ntmps120
 go_wp2_with fail
 refine (zaa HT).mono ?_
 rintro e w2 ⟨rfl,hs,hf2⟩
 obtain⟨hA,lb,hw0,h1,h2,h3⟩:=zaa LL
 have hfa:Frm w w2 [g]:=(Frm.ofBelow hA [g]).trans hf2
 have lb2:=lb.frm hf2 (by simp;omega)
 have hw2:Below w0.heap.size w0 w2:=hw0.trans (hfa.below hw0.size (fun q hq=>by have e9:q=g:=(by simpa using hq);have:=zaa HGE g (by simp);omega))
 clear LL HT lb hf2 hA hw0 b5 b6
 cases ht:zae l (o.parN,o.parR)with
 | false=>
  have ht':zae l o.par=false:=ht
  have HE:=hide (zaa HQ (.returned (.tuple #[])) w2 ⟨rfl,a,c,F,by rw [ht'];exact hs,hfa.mono (fun q hq=>by have e9:q=g:=(by simpa using hq);simp [e9]),fun q hq=>.inl hq⟩)
  clear HQ hs hfa lb2 hw2 h1 h2 h3 ht ht'
  go_wp2_with fail
  go_end0
  exact zaa HE
 | true=>
  have ht':zae l o.par=true:=ht
  have HTK:=hide ht'
  clear ht ht'
  obtain⟨hat,hpar,hel,hnew⟩:=zaa HV
  have HP:=hide (zjN w2 o k2 k3 d2 d3 (h2.keep hw2) (h3.keep hw2) hs2 hs3 hel)
  have c1:=lb2.cell 1
  have c2:=lb2.cell 2
  have c8:=lb2.cell 8
  have c9:=lb2.cell 9
  have c10:=lb2.cell 10
  have HX:=hide (And.intro hs (And.intro hfa (And.intro lb2 (And.intro hw2 h1))))
  clear hs hfa lb2 hw2 h1 h2 h3
  go_upto_region 3 with (go_at_call 86;refine (zaa HP).mono ?_;rintro e w3 ⟨p2,q2,p3,q3,p4,q4,Fa,rfl,o2,o3,o4,hnd,hrg,hb3⟩)
  obtain⟨hs,hfa,lb2,hw2,h1⟩:=zaa HX
  have hb4:Below w3.heap.size w3 (w3.alloc (.cells #[.int .i64 o.atN,.int .i64 o.atR,.int .i64 0,.int .i64 0,.slice none 0 0,.int .i64 o.elem,.slice p2 o.name.length q2,.slice p3 o.text.length q3,.slice p4 0 q4] 117)):=(Below.refl _ _).alloc (Nat.le_refl _) _
  have lp:=Loc.made w3 #[.int .i64 o.atN,.int .i64 o.atR,.int .i64 0,.int .i64 0,.slice none 0 0,.int .i64 o.elem,.slice p2 o.name.length q2,.slice p3 o.text.length q3,.slice p4 0 q4] 117
  have hb24:=zad hb3 hb4
  have hs4:=hs.keep hb24
  have HB24:=hide (Frm.ofBelow hb24 [])
  have lb4:=lb2.all hb24
  have hw4:=hw2.trans (hb24.mono hw2.size)
  have e2:Own (w3.alloc (.cells #[.int .i64 o.atN,.int .i64 o.atR,.int .i64 0,.int .i64 0,.slice none 0 0,.int .i64 o.elem,.slice p2 o.name.length q2,.slice p3 o.text.length q3,.slice p4 0 q4] 117)) 0 (.slice p2 o.name.length q2) o.name:=o2.keep hb4
  have e3:Own (w3.alloc (.cells #[.int .i64 o.atN,.int .i64 o.atR,.int .i64 0,.int .i64 0,.slice none 0 0,.int .i64 o.elem,.slice p2 o.name.length q2,.slice p3 o.text.length q3,.slice p4 0 q4] 117)) 0 (.slice p3 o.text.length q3) o.text:=o3.keep hb4
  have e4:OwAttrs (w3.alloc (.cells #[.int .i64 o.atN,.int .i64 o.atR,.int .i64 0,.int .i64 0,.slice none 0 0,.int .i64 o.elem,.slice p2 o.name.length q2,.slice p3 o.text.length q3,.slice p4 0 q4] 117)) (.slice p4 0 q4) [] Fa:=OwAttrs.frm o4 (Frm.ofBelow hb4 []) (fun _ _=>by simp)
  have hlt3:∀q∈FB (.slice p2 o.name.length q2)++FB (.slice p3 o.text.length q3)++Fa,q<w3.heap.size:=fun q hq=>by
   rcases List.mem_append.1 hq with hq | hq
   ·rcases List.mem_append.1 hq with hq | hq
    ·exact (o2.lt q (by simpa [FB]using hq)).2
    ·exact (o3.lt q (by simpa [FB]using hq)).2
   ·exact OwAttrs.lt o4 q hq
  have hrg':∀q∈FB (.slice p2 o.name.length q2)++FB (.slice p3 o.text.length q3)++Fa,w2.heap.size≤q:=hrg
  have hnd':(FB (.slice p2 o.name.length q2)++FB (.slice p3 o.text.length q3)++Fa).Nodup:=hnd
  have hs24:=hb3.size
  have hbl2:=lb2.lt
  have hsz4:(w3.alloc (.cells #[.int .i64 o.atN,.int .i64 o.atR,.int .i64 0,.int .i64 0,.slice none 0 0,.int .i64 o.elem,.slice p2 o.name.length q2,.slice p3 o.text.length q3,.slice p4 0 q4] 117)).heap.size=w3.heap.size+1:=by simp
  clear HX HP hs hb3 hb4 hb24 lb2 hw2 o2 o3 o4 hrg hnd c1 c2 c8 c9 c10
  generalize w3.alloc (.cells #[.int .i64 o.atN,.int .i64 o.atR,.int .i64 0,.int .i64 0,.slice none 0 0,.int .i64 o.elem,.slice p2 o.name.length q2,.slice p3 o.text.length q3,.slice p4 0 q4] 117)=w4 at *
  generalize w3.heap.size=pb at *
  have hd:Below w4.heap.size w4 w4.drew:=(Below.refl _ _).drew
  have HKP:=hide (fun (W:World) (hW:Below w4.heap.size w4 W)=>lp.all hW)
  have HC:=hide (zgF w4.drew _ o.key (h1.keep (hw4.trans (hd.mono hw4.size))) (by omega))
  have d5:w4.drew.cell? ⟨w.heap.size,5,none⟩=some (.int .i64 o.parN):=(lb4.all hd).cell 5
  have d6:w4.drew.cell? ⟨w.heap.size,6,none⟩=some (.int .i64 o.parR):=(lb4.all hd).cell 6
  have d7:w4.drew.cell? ⟨w.heap.size,7,none⟩=some (.slice k1 o.key.length d1):=(lb4.all hd).cell 7
  have hnp:w.heap.size≠pb:=by have:=lb4.lt;have:=hfa.size;have:=hbl2;omega
  have HK:=hide (fun (W:World) (hW:Below w4.heap.size w4 W)=>And.intro (lb4.all hW) (lp.all hW))
  have HY:=hide (And.intro hs4 (And.intro hfa (And.intro hw4 (And.intro e2 (And.intro e3 (And.intro e4 (And.intro hlt3 (And.intro hrg' hnd'))))))))
  clear hs4 hfa hw4 e2 e3 e4 hlt3 hrg' hnd' lb4 lp h1
  go_region_held3 (fun w'=>w'.cell? ⟨w.heap.size,5,none⟩=some (.int .i64 o.parN)∧w'.cell? ⟨w.heap.size,6,none⟩=some (.int .i64 o.parR)∧w'.cell? ⟨w.heap.size,7,none⟩=some (.slice k1 o.key.length d1))
   (first | exact⟨by assumption,by assumption,by assumption⟩ | simp [*])
   (first
    | (go_at_call 122;refine (zaa HC).mono ?_;clear HC;rintro e w5 ⟨a5,c5,rfl,ho5,hb5⟩;have hK5:=zad hd hb5;have lb5:=(zaa HK w5 hK5).1;have lp5:=(zaa HK w5 hK5).2;have x5:=lb5.cell 5;have x6:=lb5.cell 6;have x7:=lb5.cell 7;have y2:=lp5.cell 2;have y3:=lp5.cell 3;have y4:=lp5.cell 4;have z2:=lp5.frozen 2;have z3:=lp5.frozen 3;have z4:=lp5.frozen 4;have lbS:=(lb5.other pb 2 (.int .i64 o.parN) hnp).other pb 3 (.int .i64 o.parR) hnp;have lpS:=(lp5.set 2 (.int .i64 o.parN)).set 3 (.int .i64 o.parR);have s5:=lbS.cell 5;have s6:=lbS.cell 6;have s7:=lbS.cell 7;have v4:=lpS.cell 4;have u4:=lpS.frozen 4;have lbT:=lbS.other pb 4 (.slice a5 o.key.length c5) hnp;have t5:=lbT.cell 5;have t6:=lbT.cell 6;have t7:=lbT.cell 7;have lpT:=lpS.set 4 (.slice a5 o.key.length c5);have HLL:=hide (And.intro lbT lpT);clear lb5 lp5 lbS lpS lbT lpT))
  all_goals
   obtain⟨lbT,lpT⟩:=zaa HLL
   obtain⟨hs4,hfa,hw4,e2,e3,e4,hlt3,hrg',hnd'⟩:=zaa HY
   clear x5 x6 x7 y2 y3 y4 z2 z3 z4 s5 s6 s7 v4 u4 t5 t6 t7 HLL HY HK d5 d6 d7
   have fs:Frm w5 (((w5.setCell ⟨pb,2,none⟩ (.int .i64 o.parN)).setCell ⟨pb,3,none⟩ (.int .i64 o.parR)).setCell ⟨pb,4,none⟩ (.slice a5 o.key.length c5)) [pb]:=((zab _ pb 2 _).trans (zab _ pb 3 _)).trans (zab _ pb 4 _)
   have hsz:(((w5.setCell ⟨pb,2,none⟩ (.int .i64 o.parN)).setCell ⟨pb,3,none⟩ (.int .i64 o.parR)).setCell ⟨pb,4,none⟩ (.slice a5 o.key.length c5)).heap.size=w5.heap.size:=by simp
   generalize (((w5.setCell ⟨pb,2,none⟩ (.int .i64 o.parN)).setCell ⟨pb,3,none⟩ (.int .i64 o.parR)).setCell ⟨pb,4,none⟩ (.slice a5 o.key.length c5))=w6 at *
   have hs45:=hK5.size
   have hs0:=hfa.size
   have hp5:∀q,q<pb→q∉[pb]:=fun q hq e=>by have e9:q=pb:=(by simpa using e);omega
   have hFl2:∀q∈F,q<pb:=fun q hq=>by have:=hFl q hq;omega
   have lp5:Loc w5 pb _ 117:=(zaa HKP w5 hK5)
   have hs6:=(hs4.keep hK5).frm fs (hp5 g (by omega)) (hp5 mb (by omega)) (fun q hq=>hp5 q (hFl2 q hq)) (fun q hq=>by have e9:q=pb:=(by simpa using hq);rw [e9];exact Cells.ofL lp5)
   have o5:OwnZ w6 w4.heap.size (.slice a5 o.key.length c5) o.key:=⟨ho5.1,zah ho5.2 fs (fun q hq e=>by have e9:q=pb:=(by simpa using e);have h9:=(ho5.lt q (by simpa [FB]using hq)).1;have h8:w4.heap.size≤q:=h9;omega)⟩
   have o2:=(e2.keep hK5).frm fs (fun q hq=>hp5 q (hlt3 q (by simp [hq])))
   have o3:=(e3.keep hK5).frm fs (fun q hq=>hp5 q (hlt3 q (by simp [hq])))
   have o4:=OwAttrs.frm (OwAttrs.frm e4 (Frm.ofBelow hK5 []) (fun _ _=>by simp)) fs (fun q hq=>hp5 q (hlt3 q (by simp [hq])))
   have hG:∀q∈FB (.slice a5 o.key.length c5)++FB (.slice p2 o.name.length q2)++FB (.slice p3 o.text.length q3)++Fa,w2.heap.size≤q:=fun q hq=>by
    rw [List.append_assoc,List.append_assoc]at hq
    rcases List.mem_append.1 hq with hq | hq
    ·have:=(o5.lt q (by simpa [FB]using hq)).1;omega
    ·exact hrg' q (by rw [List.append_assoc];exact hq)
   have hgB:=hs4.geg
   have HA:=hide (zgs hs6 (newP o) a5 p2 p3 p4 c5 q2 q3 q4 _ ⟨_,_,_,_,Fa,rfl,o5.mono (Nat.zero_le _),o2.rowm,o3,o4,rfl⟩ (zqM o5 hnd' (fun q hq=>by have:=hlt3 q hq;omega)) (fun q hq=>by have:=hG q hq;omega) (fun q hq hq'=>by have:=hG q hq';have:=hFl q hq;omega) hat hpar hnew hlen)
   have c0:=lpT.cell 0
   have c1:=lpT.cell 1
   have c2:=lpT.cell 2
   have c3:=lpT.cell 3
   have c4:=lpT.cell 4
   have c5_:=lpT.cell 5
   have c6:=lpT.cell 6
   have c7:=lpT.cell 7
   have c8:=lpT.cell 8
   have HZ:=hide (And.intro hfa (And.intro (Frm.ofBelow hK5 (g::mb::F)) (And.intro fs hG)))
   clear lbT lpT hs6 o5 o2 o3 o4 hG hs4 e2 e3 e4 hfa fs lp5 ho5
   go_wp2_with (go_at_call 58;refine (zaa HA).mono ?_;rintro e w7 ⟨rfl,a7,c7_,F7,hs7,hf7,hF7⟩)
   obtain⟨hfa,hfk,fs,hG⟩:=zaa HZ
   have HE:=hide (zaa HQ (.returned (.tuple #[])) w7 ⟨rfl,a7,c7_,F7,by rw [zaa HTK];exact hs7,(((hfa.mono (fun q hq=>by have e9:q=g:=(by simpa using hq);simp [e9])).moreS (zaa HB24) (fun q hq=>by cases hq)).moreS hfk (fun q hq=>.inl hq)).moreS ((fs.mono (S':=[pb]) (fun q hq=>hq))) (fun q hq=>by have e9:q=pb:=(by simpa using hq);right;omega) |>.moreS hf7 (fun q hq=>.inl hq),fun q hq=>by
    rcases hF7 q hq with e | e | e
    ·exact .inl e
    ·have:=hG q e;right;omega
    ·right;omega⟩)
   clear HQ HZ HA hs7 hf7 hF7 hfa hfk fs hG
   go_end0
   exact zaa HE
end Go.Proofs.YtlpnibbdmkeklaaGreatDoor
namespace Go.Proofs.YtlpnibbdmkeklaaGreatDoor
open Go.RowKit
set_option linter.unusedVariables false
set_option maxRecDepth 100000
theorem zhx (w:World) (x:AtV) (a1 a2 a3:Option Addr) (c1 c2 c3:Nat) (n:List Int) (h1:Byt w (.slice a1 x.1.length c1) x.1) (h2:Byt w (.slice a3 n.length c3) n) :
  Calls Tryz.prog 140 #[.agg #[.slice a1 x.1.length c1,.slice a2 x.2.length c2],.slice a3 n.length c3] w fun e w'=>e=.returned (.int .i64 (cmpB x.1 n))∧Below w.heap.size w w':=by
 have hA:=(Below.refl w.heap.size w).alloc (Nat.le_refl _) (.cells #[.slice a1 x.1.length c1,.slice a2 x.2.length c2] 144)
 have lb:=Loc.made w #[.slice a1 x.1.length c1,.slice a2 x.2.length c2] 144
 have b0:=lb.cell 0
 have HC:=hide (zkh (w.alloc (.cells #[.slice a1 x.1.length c1,.slice a2 x.2.length c2] 144)) _ _ x.1 n (h1.keep hA) (h2.keep hA))
 have HB:=hide hA
 clear hA lb h1 h2
 generalize cmpB x.1 n=z at *
 go_enter Tryz.func140,Tryz.ntmps140
 go_wp2_with fail
 refine (zaa HC).mono ?_
 rintro e w1 ⟨rfl,hw1⟩
 subst w1
 go_wp2_with fail
 go_ret
 exact⟨rfl,zaa HB⟩
set_option maxHeartbeats 6400000 in
theorem zgG (w:World) (v:Value) (l:List AtV) (n:List Int) (a3:Option Addr) (c3:Nat) (h:RdAttrs w v l) (hn:Byt w (.slice a3 n.length c3) n) (hs:SrtA l) (hl:l.length≤100000) :
  Calls Tryz.prog 139 #[v,.slice a3 n.length c3,.func (.func 140) #[] #[]] w fun e w'=>e=.returned (.tuple #[.int .i64 (posA l n:Int),.bool (zbf l n)])∧Below w.heap.size w w':=by
 refine zaf ?_
 intro Q HQ
 have HS:=hide hs
 have HR:=hide h
 have HN:=hide hn
 obtain⟨av,cv,rfl,_,_⟩:=Elems.shape h
 clear h hs hn
 go_enter Tryz.func139,Tryz.ntmps139
 go_wp2_with fail
 go_loopw [9,10,11] (fun i j _ wr=>∃a b:Nat,a≤b∧b≤l.length∧i=.int .i64 a∧j=.int .i64 b∧Hid ((∀k (hk:k<l.length),k<a→zbr n l[k]=true)∧(∀k (hk:k<l.length),b≤k→zbr n l[k]=false))∧Below w.heap.size w wr) (fun i j _ _=>(intOf j).toNat-(intOf i).toNat)
 case atStart=>exact⟨0,l.length,Nat.zero_le _,Nat.le_refl _,rfl,rfl,hide ⟨fun k _ hk=>by omega,fun k hk hb=>by omega⟩,Below.refl _ _⟩
 case round=>
  obtain⟨a,b,hab,hbl,rfl,rfl,HI,hB⟩:=hrel
  by_cases hlt:a<b
  ·have hlt':(a:Int)<(b:Int):=by omega
   obtain⟨m,hm⟩:∃m:Nat,m=(a+b) / 2:=⟨_,rfl⟩
   have hml:m<l.length:=by omega
   have hma:a≤m:=by omega
   have hmb:m<b:=by omega
   have hmz:((a:Int)+(b:Int)) / 2=(m:Int):=by omega
   have HMZ:=hide (And.intro hmz (And.intro hml (And.intro hma hmb)))
   have HBB:=hide hB
   clear hmz hml hma hmb hm hB
   go_upto_region 5 with fail
   obtain⟨hmz,hml,hma,hmb⟩:=zaa HMZ
   clear HMZ
   rw [hmz]
   clear hmz
   have hm0:(0:Int)≤(m:Int):=by omega
   have hml':(m:Int)<(l.length:Int):=by omega
   obtain⟨pb,poff,epv,hpl,_,_,C,hCl,hcell,hxa⟩:=Elems.at (zaa HR) hml
   obtain⟨y0,y1,eC,hx1,hx2⟩:=hxa
   obtain⟨a1,c1,rfl,_⟩:=hx1.shape
   obtain⟨a2,c2,rfl,_⟩:=hx2.shape
   subst epv
   have hB:=zaa HBB
   have u0:wr.cell? ⟨pb,poff+m*2,none⟩=some (.slice a1 l[m].1.length c1):=by have h7:=hcell 0 (by decide);rw [eC]at h7;simp only [List.getElem?_cons_zero,Nat.add_zero]at h7;exact (hB.cell (p:=⟨pb,poff+m*2,none⟩) hpl).trans h7
   have u1:wr.cell? ⟨pb,poff+m*2+1,none⟩=some (.slice a2 l[m].2.length c2):=by have h7:=hcell 1 (by decide);rw [eC]at h7;simp only [List.getElem?_cons_succ,List.getElem?_cons_zero]at h7;exact (hB.cell (p:=⟨pb,poff+m*2+1,none⟩) hpl).trans h7
   have hn:=zaa HN
   have HC:=hide (zhx wr l[m] a1 a2 a3 c1 c2 c3 n (hx1.keep hB) (hn.keep hB))
   clear hcell eC hB
   have hzz:=zrR hx1.1 hn.1
   have HD:=hide (And.intro (fun (ha:zbr n l[m]=true)=>(show ((∀k (hk:k<l.length),k<m+1→zbr n l[k]=true)∧(∀k (hk:k<l.length),b≤k→zbr n l[k]=false)) from ⟨fun k hk hkm=>zgM (zaa HS) (by omega) hml ha,(zaa HI).2⟩)) (fun (ha:zbr n l[m]=false)=>(show ((∀k (hk:k<l.length),k<a→zbr n l[k]=true)∧(∀k (hk:k<l.length),m≤k→zbr n l[k]=false)) from ⟨(zaa HI).1,fun k hk hkm=>by
    cases hak:zbr n l[k]with
    | false=>rfl
    | true=>have:=zgM (zaa HS) hkm hk hak;rw [ha]at this;cases this⟩)))
   have hza:decide (cmpB l[m].1 n<0)=zbr n l[m]:=hzz
   clear hzz hx1 hx2 hn
   generalize zbr n l[m]=am at *
   generalize cmpB l[m].1 n=z at *
   generalize l[m]=o at *
   go_wp2_with fail
   refine (zaa HC).mono ?_
   rintro e w2 ⟨rfl,hb2⟩
   have hB3:=zad (zaa HBB) hb2
   clear u0 u1 HC hb2
   cases am with
   | true=>
    have hz1:z<0:=by simpa using hza
    clear hza
    have HD1:=hide ((zaa HD).1 rfl)
    clear HD HI
    go_wp2_with fail
    go_roundw
    case rel=>exact⟨m+1,b,by omega,hbl,by go_num,rfl,HD1,hB3⟩
    case measure=>simp [intOf];omega
   | false=>
    have hz1:¬ z<0:=by simpa using hza
    clear hza
    have HD1:=hide ((zaa HD).2 rfl)
    clear HD HI
    go_wp2_with fail
    go_roundw
    case rel=>exact⟨a,m,hma,by omega,rfl,rfl,HD1,hB3⟩
    case measure=>simp [intOf];omega
  ·have e:b=a:=by omega
   subst e
   have hpos:posA l n=b:=zqS hbl (zaa HI).1 (fun hk=>(zaa HI).2 b hk (Nat.le_refl _))
   have HBB:=hide hB
   clear HI hB
   by_cases hbn:b<l.length
   ·have hth:zbf l n=decide (l[b].1=n):=by unfold zbf;simp only [hpos,hbn,dite_true]
    have hm0:(0:Int)≤(b:Int):=by omega
    have hml':(b:Int)<(l.length:Int):=by omega
    have hbb:¬ (b:Int)<(b:Int):=by omega
    have hml:=hbn
    obtain⟨pb,poff,epv,hpl,_,_,C,hCl,hcell,hxa⟩:=Elems.at (zaa HR) hml
    obtain⟨y0,y1,eC,hx1,hx2⟩:=hxa
    obtain⟨a1,c1,rfl,_⟩:=hx1.shape
    obtain⟨a2,c2,rfl,_⟩:=hx2.shape
    subst epv
    have hB:=zaa HBB
    have u0:wr.cell? ⟨pb,poff+b*2,none⟩=some (.slice a1 l[b].1.length c1):=by have h7:=hcell 0 (by decide);rw [eC]at h7;simp only [List.getElem?_cons_zero,Nat.add_zero]at h7;exact (hB.cell (p:=⟨pb,poff+b*2,none⟩) hpl).trans h7
    have u1:wr.cell? ⟨pb,poff+b*2+1,none⟩=some (.slice a2 l[b].2.length c2):=by have h7:=hcell 1 (by decide);rw [eC]at h7;simp only [List.getElem?_cons_succ,List.getElem?_cons_zero]at h7;exact (hB.cell (p:=⟨pb,poff+b*2+1,none⟩) hpl).trans h7
    have hn:=zaa HN
    have HC:=hide (zhx wr l[b] a1 a2 a3 c1 c2 c3 n (hx1.keep hB) (hn.keep hB))
    clear hcell eC hB
    have hz0:=zqh hx1.1 hn.1
    have HT:=hide (And.intro hpos (hth.trans hz0.symm))
    clear hth hz0 hpos hx1 hx2 hn
    generalize cmpB l[b].1 n=z at *
    generalize l[b]=o at *
    go_wp2_with fail
    refine (zaa HC).mono ?_
    rintro e w2 ⟨rfl,hb2⟩
    have HE:=hide (zaa HQ (.returned (.tuple #[.int .i64 (posA l n:Int),.bool (zbf l n)])) w2 ⟨rfl,zad (zaa HBB) hb2⟩)
    rw [(zaa HT).1,(zaa HT).2]at HE
    clear HQ HT HBB HC hb2 u0 u1
    go_wp2_with fail
    exact zaa HE
   ·have hth:zbf l n=false:=by unfold zbf;simp only [hpos,hbn,dite_false]
    have hbe:b=l.length:=by omega
    subst hbe
    have HE:=hide (zaa HQ (.returned (.tuple #[.int .i64 (posA l n:Int),.bool (zbf l n)])) wr ⟨rfl,zaa HBB⟩)
    rw [hpos,hth]at HE
    clear hpos hth hbn HQ HBB
    have hbb:¬ (l.length:Int)<(l.length:Int):=by omega
    go_wp2_with fail
    exact zaa HE
set_option maxHeartbeats 6400000 in
theorem zjM (w:World) (av:Option Addr) (cv:Nat) (l:List AtV) (F:List Nat) (n t:List Int) (a1 a2:Option Addr) (c1 c2:Nat) (G:List Nat) (h:OwAttrs w (.slice av l.length cv) l F) (hN:F.Nodup) (hs:SrtA l) (hl:l.length≤4)
  (hG:OwAttr w [.slice a1 n.length c1,.slice a2 t.length c2] (n,t) G) (hGN:G.Nodup) (hFG:∀q∈F,q∉G) (ht:zbf l n=false) (hnm:zai n) :
  Calls Tryz.prog 142 #[.slice av l.length cv,.agg #[.slice a1 n.length c1,.slice a2 t.length c2]] w fun e w'=>∃u F',e=.returned u∧OwAttrs w' u (if l.length=4 then l else l.take (posA l n)++((n,t)::l.drop (posA l n))) F'∧F'.Nodup∧(∀q∈F',q∈F∨q∈G∨w.heap.size≤q)∧Frm w w' F:=by
 refine zaf ?_
 intro Q HQ
 have hA:Below w.heap.size w (w.alloc (.cells #[.slice a1 n.length c1,.slice a2 t.length c2] 144)):=(Below.refl _ _).alloc (Nat.le_refl _) _
 have lb:=Loc.made w #[.slice a1 n.length c1,.slice a2 t.length c2] 144
 have b0:=lb.cell 0
 have b1:=lb.cell 1
 have h1:OwAttrs (w.alloc (.cells #[.slice a1 n.length c1,.slice a2 t.length c2] 144)) _ l F:=OwAttrs.frm h (Frm.ofBelow hA []) (fun _ _=>by simp)
 have hG1:OwAttr (w.alloc (.cells #[.slice a1 n.length c1,.slice a2 t.length c2] 144)) _ (n,t) G:=OwAttr.frm hG (Frm.ofBelow hA []) (fun _ _=>by simp)
 have hnb:Byt (w.alloc (.cells #[.slice a1 n.length c1,.slice a2 t.length c2] 144)) (.slice a1 n.length c1) n:=by obtain⟨x,y,e,q1,_⟩:=hG1;cases e;exact q1.byt
 have hvF:∀q∈FB (.slice av l.length cv),q∈F:=fun q hq=>by
  obtain⟨_,_,_,_,_,_,e⟩:=h
  rw [e]
  exact List.mem_append_left _ hq
 have HS:=hide (zgG _ _ l n a1 c1 (OwAttrs.rd h1) hnb hs (by omega))
 rw [ht]at HS
 have hlt:=OwAttrs.lt h
 have hpl:=zgk l n
 have HX:=hide (And.intro hA (And.intro lb (And.intro h1 (And.intro hG1 (And.intro hnb (And.intro hvF hlt))))))
 clear hA lb h1 hG1 hnb h hG ht hs hvF hlt
 go_enter Tryz.func142,Tryz.ntmps142
 go_wp2_with fail
 refine (zaa HS).mono ?_
 rintro e w2 ⟨rfl,hb2⟩
 obtain⟨hA,lb,h1,hG1,hnb,hvF,hlt⟩:=zaa HX
 have h2:OwAttrs w2 _ l F:=OwAttrs.frm h1 (Frm.ofBelow hb2 []) (fun _ _=>by simp)
 have hG2:OwAttr w2 _ (n,t) G:=OwAttr.frm hG1 (Frm.ofBelow hb2 []) (fun _ _=>by simp)
 have lb2:=lb.all hb2
 have hnb2:=hnb.keep hb2
 have hA2:=zad hA hb2
 clear HS HX hA lb h1 hG1 hnb hb2 b0 b1
 have b0:=lb2.cell 0
 have b1:=lb2.cell 1
 by_cases h4:l.length=4
 ·have HE:=hide (zaa HQ (.returned (.slice av l.length cv)) w2 ⟨_,F,rfl,by rw [if_pos h4];exact h2,hN,fun q hq=>.inl hq,Frm.ofBelow hA2 _⟩)
  rw [h4]at HE
  have h4':(l.length:Int)=4:=by omega
  clear h2 hG2 lb2 hnb2 hA2 HQ hpl
  go_wp2_with fail
  exact zaa HE
 ·have h4':¬ (l.length:Int)=4:=by omega
  have hA3:Below w2.heap.size w2 (w2.alloc (.cells #[.slice a1 n.length c1,.slice a2 t.length c2] 144)):=(Below.refl _ _).alloc (Nat.le_refl _) _
  have lv:=Loc.made w2 #[.slice a1 n.length c1,.slice a2 t.length c2] 144
  have h3:OwAttrs (w2.alloc (.cells #[.slice a1 n.length c1,.slice a2 t.length c2] 144)) _ l F:=OwAttrs.frm h2 (Frm.ofBelow hA3 []) (fun _ _=>by simp)
  have hG3:OwAttr (w2.alloc (.cells #[.slice a1 n.length c1,.slice a2 t.length c2] 144)) _ (n,t) G:=OwAttr.frm hG2 (Frm.ofBelow hA3 []) (fun _ _=>by simp)
  have hl2:=OwAttrs.lt h2
  have HI:=hide (zpE _ _ l F (posA l n) w2.heap.size [.slice a1 n.length c1,.slice a2 t.length c2] (n,t) G h3 hN hpl (by omega) lv hG3 hGN hFG (fun e=>by have:=hl2 _ e;omega))
  have HY:=hide (And.intro (zad hA2 hA3) (And.intro hnb2 (And.intro hvF (show w.heap.size≤(w2.alloc (.cells #[.slice a1 n.length c1,.slice a2 t.length c2] 144)).heap.size from (zad hA2 hA3).size))))
  clear h2 hG2 lb2 hA2 hA3 lv h3 hG3 hl2 hvF hlt hnb2
  generalize hpp:posA l n=pp at *
  go_wp2_with (go_at_call 114;refine (zih w2 _ n (zaa HY).2.1 hnm).mono ?_;rintro e w9 ⟨rfl,rfl⟩)
  refine (zaa HI).mono ?_
  rintro e w4 ⟨u,F4,rfl,h4_,hN4,hM4,hf4⟩
  obtain⟨hb3,_,hvF,hsz⟩:=zaa HY
  obtain⟨au,cu,rfl,_⟩:=Elems.shape (OwAttrs.rd h4_)
  have HE:=hide (zaa HQ (.returned (.slice au _ cu)) w4 ⟨_,F4,rfl,by rw [if_neg h4];exact h4_,hN4,fun q hq=>by rcases hM4 q hq with e | e | e;(exact .inl e);(exact .inr (.inl e));(exact .inr (.inr (by omega))),(Frm.ofBelow hb3 F).trans (hf4.mono hvF)⟩)
  clear h4_ hN4 hM4 hf4 hb3 HI HY HQ
  generalize (l.take pp++((n,t)::l.drop pp)).length=len4 at HE ⊢
  go_wp2_with fail
  exact zaa HE
theorem zqO {a:Nat} {w3 w4:World} {u v:Value} {l m:List Int} (h:Own w3 a u l) (k:Own w4 w3.heap.size v m):(FB u++FB v).Nodup:=
 List.nodup_append.2 ⟨zaE _,zaE _,fun x hx b hb' e=>by
  have h1:=(h.lt x (by simpa [FB]using hx)).2
  have h2:=(k.lt b (by simpa [FB]using hb')).1
  omega⟩
theorem zrd {a b:Nat} {w3 w4:World} {u v:Value} {l m:List Int} {F:List Nat} (hF:∀q∈F,q<a) (h:Own w3 a u l) (k:Own w4 b v m) (hb:a≤b):∀q∈F,q∉FB u++FB v:=fun q hq e=>by
 have h0:=hF q hq
 rcases List.mem_append.1 e with e | e
 ·have:=(h.lt q (by simpa [FB]using e)).1;omega
 ·have:=(k.lt q (by simpa [FB]using e)).1;omega
set_option maxHeartbeats 6400000 in
theorem zlZ (w:World) (av:Option Addr) (cv:Nat) (l:List AtV) (F:List Nat) (o:OpV) (k1 k2 k3:Option Addr) (d1 d2 d3:Nat) (h:OwAttrs w (.slice av l.length cv) l F) (hN:F.Nodup) (hs:SrtA l) (hl:l.length≤4)
  (h2:Byt w (.slice k2 o.name.length d2) o.name) (h3:Byt w (.slice k3 o.text.length d3) o.text) (hnl:o.name.length≤67108864) (htl:o.text.length≤67108864) (hnm:zai o.name) :
  Calls Tryz.prog 124 #[.slice av l.length cv,.agg #[.int .i64 o.kind,.int .i64 o.atN,.int .i64 o.atR,.int .i64 o.nodeN,.int .i64 o.nodeR,.int .i64 o.parN,.int .i64 o.parR,.slice k1 o.key.length d1,.int .i64 o.elem,.slice k2 o.name.length d2,.slice k3 o.text.length d3,.bool o.gone]] w fun e w'=>∃a' c' F',e=.returned (.slice a' (chgI l o).length c')∧OwAttrs w' (.slice a' (chgI l o).length c') (chgI l o) F'∧F'.Nodup∧(∀q∈F',q∈F∨w.heap.size≤q)∧Frm w w' F:=by
 refine zaf ?_
 intro Q HQ
 have hA:Below w.heap.size w (w.alloc (.cells #[.int .i64 o.kind,.int .i64 o.atN,.int .i64 o.atR,.int .i64 o.nodeN,.int .i64 o.nodeR,.int .i64 o.parN,.int .i64 o.parR,.slice k1 o.key.length d1,.int .i64 o.elem,.slice k2 o.name.length d2,.slice k3 o.text.length d3,.bool o.gone] 83)):=(Below.refl _ _).alloc (Nat.le_refl _) _
 have lb:=Loc.made w #[.int .i64 o.kind,.int .i64 o.atN,.int .i64 o.atR,.int .i64 o.nodeN,.int .i64 o.nodeR,.int .i64 o.parN,.int .i64 o.parR,.slice k1 o.key.length d1,.int .i64 o.elem,.slice k2 o.name.length d2,.slice k3 o.text.length d3,.bool o.gone] 83
 have b9:=lb.cell 9
 have h1:OwAttrs (w.alloc (.cells #[.int .i64 o.kind,.int .i64 o.atN,.int .i64 o.atR,.int .i64 o.nodeN,.int .i64 o.nodeR,.int .i64 o.parN,.int .i64 o.parR,.slice k1 o.key.length d1,.int .i64 o.elem,.slice k2 o.name.length d2,.slice k3 o.text.length d3,.bool o.gone] 83)) _ l F:=OwAttrs.frm h (Frm.ofBelow hA []) (fun _ _=>by simp)
 have hvF:∀q∈FB (.slice av l.length cv),q∈F:=fun q hq=>by
  obtain⟨_,_,_,_,_,_,e⟩:=h
  rw [e]
  exact List.mem_append_left _ hq
 have HS:=hide (zgG _ _ l o.name k2 d2 (OwAttrs.rd h1) (h2.keep hA) hs (by omega))
 have hlt:=OwAttrs.lt h
 have HX:=hide (And.intro hA (And.intro lb (And.intro h1 (And.intro (h2.keep hA) (And.intro (h3.keep hA) (And.intro hvF (And.intro hlt hs)))))))
 have hpl:=zgk l o.name
 clear hA lb h1 h h2 h3 hs hvF hlt
 go_enter Tryz.func124,Tryz.ntmps124
 go_wp2_with fail
 refine (zaa HS).mono ?_
 rintro e w2 ⟨rfl,hb2⟩
 obtain⟨hA,lb,h1,hn1,ht1,hvF,hlt,hs⟩:=zaa HX
 have h2:OwAttrs w2 _ l F:=OwAttrs.frm h1 (Frm.ofBelow hb2 []) (fun _ _=>by simp)
 have lb2:=lb.all hb2
 have hn2:=hn1.keep hb2
 have ht2:=ht1.keep hb2
 have hA2:=zad hA hb2
 clear HS HX hA lb h1 hn1 ht1 hb2 b9
 have b9:=lb2.cell 9
 have b10:=lb2.cell 10
 have b11:=lb2.cell 11
 cases ht:zbf l o.name with
 | true=>
  obtain⟨hpp,hpe⟩:=zfP ht
  cases hg:o.gone with
  | true=>
   rw [hg]at b11
   have hch:chgI l o=l.eraseIdx (posA l o.name):=by unfold chgI;rw [ht,hg,List.eraseIdx_eq_take_drop_succ];rfl
   have HD:=hide (zpA w2 _ l F (posA l o.name) h2 hN hpp (by omega))
   have hwr:IntKind.i64.wrap ((posA l o.name:Int)+1)=(posA l o.name:Int)+1:=by rw [IntKind.wrap_i64];omega
   have HY:=hide (And.intro hA2 (And.intro hvF (And.intro hch hlt)))
   clear h2 lb2 hn2 ht2 hA2 hvF hch hs ht hpe hlt
   generalize posA l o.name=pp at *
   go_wp2_with fail
   refine (zaa HD).mono ?_
   rintro e w3 ⟨u,F3,rfl,h3_,hN3,hM3,hf3⟩
   obtain⟨hA2,hvF,hch,hlt⟩:=zaa HY
   obtain⟨au,cu,rfl,_⟩:=Elems.shape (OwAttrs.rd h3_)
   have HE:=hide (zaa HQ (.returned (.slice au (chgI l o).length cu)) w3 ⟨au,cu,F3,rfl,by rw [hch];exact h3_,hN3,fun q hq=>.inl (hM3 q hq),(Frm.ofBelow hA2 F).trans (hf3.mono hvF)⟩)
   rw [hch]at HE
   clear h3_ hN3 hM3 hf3 hA2 hvF hch hlt HD HY HQ
   generalize (l.eraseIdx pp).length=len4 at HE ⊢
   go_wp2_with fail
   exact zaa HE
  | false=>
   rw [hg]at b11
   have hch:chgI l o=l.set (posA l o.name) (o.name,o.text):=by unfold chgI;rw [ht,hg];rfl
   obtain⟨gr,rfl,hgrF⟩:∃gr,av=some ⟨gr,0,none⟩∧gr∈F:=by
    obtain⟨Cs,Fs,e1,e2,e3,e4,e5⟩:=h2
    obtain⟨g,cap,e,_,_⟩:=e4.form (by omega)
    injection e with e _ _
    subst e
    exact⟨g,rfl,by rw [e5];exact List.mem_append_left _ (by simp [FB,Value.ownBlock])⟩
   have HC:=hide (zes w2 _ o.text ht2 htl)
   have hp0:(0:Int)≤(posA l o.name:Int):=by omega
   have hp1:(posA l o.name:Int)<(l.length:Int):=by omega
   have HY:=hide (And.intro hA2 (And.intro hvF (And.intro hch (And.intro hlt h2))))
   clear h2 lb2 hn2 ht2 hA2 hvF hch hs ht hlt
   go_wp2_with fail
   refine (zaa HC).mono ?_
   rintro e w3 ⟨au,cu,rfl,hou,hb3⟩
   obtain⟨hA2,hvF,hch,hlt,h2⟩:=zaa HY
   have h3_:OwAttrs w3 _ l F:=OwAttrs.frm h2 (Frm.ofBelow hb3 []) (fun _ _=>by simp)
   have hl2:=OwAttrs.lt h2
   obtain⟨Cs,C,G,hR,hC,hGN,hGF,hgF,hgG,hcl⟩:=OwElems.one (R:=OwAttr) (fun h f d=>OwAttr.frm h f d) h3_ hN (posA l o.name) hpp
   obtain⟨x0,x1,eC,q0,q1,eG⟩:=hC
   have cc:=hR.cell 1 (by omega)
   rw [eC]at cc
   obtain⟨_,_,e1_,_⟩:=q1.byt.shape
   rw [e1_]at cc
   have cf:=hR.frozen (posA l o.name*2+1)
   have fs:=zab w3 gr (posA l o.name*2+1) (.slice au o.text.length cu)
   have hnew:∀q∈FB (.slice au o.text.length cu),w2.heap.size≤q:=fun q hq=>(hou.lt q (by simpa [FB]using hq)).1
   have hgl:=hl2 gr hgF
   obtain⟨F',g1,g2,g3⟩:=hcl _ [gr] [x0,.slice au o.text.length cu] (o.name,o.text) (FB x0++FB (.slice au o.text.length cu)) (by have:=hR.put 1 (by omega) (.slice au o.text.length cu);rw [eC]at this;exact this) fs (fun q _ _ hne=>by simpa using hne)
    ⟨x0,_,rfl,by rw [show (o.name,o.text).1=l[posA l o.name].1 from hpe.symm];exact q0.frm fs (fun q hq e=>by have e9:q=gr:=(by simpa using e);exact hgG (by rw [eG,←e9];exact List.mem_append_left _ hq)),(hou.mono (Nat.zero_le _)).frm fs (fun q hq e=>by have e9:q=gr:=(by simpa using e);have:=hnew q hq;omega),rfl⟩
    (List.nodup_append.2 ⟨zaE _,zaE _,fun a ha b hb e=>by have:=hnew b hb;have:=hl2 a (hGF a (by rw [eG];exact List.mem_append_left _ ha));omega⟩)
    (fun q hq=>by
     rcases List.mem_append.1 hq with hq | hq
     ·exact .inl (by rw [eG];exact List.mem_append_left _ hq)
     ·exact .inr (fun e=>by have:=hnew q hq;have:=hl2 q e;omega))
   have hsz2:=hA2.size
   have HE:=hide (zaa HQ (.returned (.slice (some ⟨gr,0,none⟩) (chgI l o).length cv)) _ ⟨_,_,F',rfl,by rw [hch];exact g1,g2,fun q hq=>by
    rcases g3 q hq with e | e
    ·exact .inl e
    ·rcases List.mem_append.1 e with e | e
     ·exact .inl (hGF q (by rw [eG];exact List.mem_append_left _ e))
     ·have:=hnew q e;right;omega,((Frm.ofBelow hA2 F).trans (Frm.ofBelow hb3 F)).trans (fs.mono (fun q hq=>by have e9:q=gr:=(by simpa using hq);rw [e9];exact hgF))⟩)
   rw [hch,List.length_set]at HE
   clear h3_ h2 hR hcl q0 q1 g1 g2 g3 fs hou hb3 HC HY HQ hA2 hvF hch hlt hnew
   go_wp2_with fail
   exact zaa HE
 | false=>
  cases hg:o.gone with
  | true=>
   rw [hg]at b11
   have hch:chgI l o=l:=by unfold chgI;rw [ht,hg];rfl
   have HE:=hide (zaa HQ (.returned (.slice av (chgI l o).length cv)) w2 ⟨_,_,F,rfl,by rw [hch];exact h2,hN,fun q hq=>.inl hq,Frm.ofBelow hA2 _⟩)
   rw [hch]at HE
   clear h2 lb2 hn2 ht2 hA2 hvF hch hs ht hlt HQ
   go_wp2_with fail
   exact zaa HE
  | false=>
   rw [hg]at b11
   have hch:chgI l o=if l.length=4 then l else l.take (posA l o.name)++((o.name,o.text)::l.drop (posA l o.name)):=by unfold chgI;rw [ht,hg];rfl
   obtain⟨L5,hL5⟩:∃L5,L5=if l.length=4 then l else l.take (posA l o.name)++((o.name,o.text)::l.drop (posA l o.name)):=⟨_,rfl⟩
   rw [←hL5]at hch
   have HL5:=hide hL5
   clear hL5
   have hd:Below w2.heap.size w2 w2.drew:=(Below.refl _ _).drew
   have hdA:=hA2.drew
   have HC1:=hide (zes w2.drew _ o.name (hn2.keep hd) hnl)
   have d9:w2.drew.cell? ⟨w.heap.size,9,none⟩=some (.slice k2 o.name.length d2):=(lb2.all hd).cell 9
   have d10:w2.drew.cell? ⟨w.heap.size,10,none⟩=some (.slice k3 o.text.length d3):=(lb2.all hd).cell 10
   have HY:=hide (And.intro hA2 (And.intro hvF (And.intro hch (And.intro hlt (And.intro h2 (And.intro lb2 (And.intro ht2 (And.intro hs ht))))))))
   have hbF:w.heap.size∉F:=fun e=>by have:=hlt _ e;omega
   have HK:=hide (fun (W:World) (hW:Below w2.heap.size w2 W)=>lb2.all hW)
   clear h2 lb2 hn2 ht2 hA2 hvF hch hs ht hlt hdA
   go_wp2_with fail
   go_region_held3 (fun w'=>w'.cell? ⟨w.heap.size,9,none⟩=some (.slice k2 o.name.length d2)∧w'.cell? ⟨w.heap.size,10,none⟩=some (.slice k3 o.text.length d3))
    (first | exact⟨by assumption,by assumption⟩ | simp [*])
    (first
     | (go_at_call 123;refine (zaa HC1).mono ?_;clear HC1;rintro e w3 ⟨a5,c5,rfl,ho5,hb5⟩;have hK5:=zad hd hb5;have e9:=(zaa HK w3 hK5).cell 9;have e10:=(zaa HK w3 hK5).cell 10)
     | (go_at_call 123;refine (zes w3 _ o.text ((zaa HY).2.2.2.2.2.2.1.keep hK5) htl).mono ?_;rintro e w4 ⟨a6,c6,rfl,ho6,hb6⟩;have hK6:=zad hK5 hb6;have e9':=(zaa HK w4 hK6).cell 9;have e10':=(zaa HK w4 hK6).cell 10)
     | (go_at_call 142;refine (zjM w4 av cv l F o.name o.text a5 a6 c5 c6 (FB (.slice a5 o.name.length c5)++FB (.slice a6 o.text.length c6)) (OwAttrs.frm (zaa HY).2.2.2.2.1 (Frm.ofBelow hK6 []) (fun _ _=>by simp)) hN (zaa HY).2.2.2.2.2.2.2.1 hl ⟨_,_,rfl,(ho5.keep hb6).mono (Nat.zero_le _),ho6.mono (Nat.zero_le _),rfl⟩ (zqO ho5 ho6) (zrd (a:=w2.heap.size) (OwAttrs.lt (zaa HY).2.2.2.2.1) ho5 ho6 hK5.size) (zaa HY).2.2.2.2.2.2.2.2 hnm).mono ?_;rintro e w5 ⟨u,F5,rfl,h5_,hN5,hM5,hf5⟩;rw [←zaa HL5]at h5_;obtain⟨au,cu,rfl,_⟩:=Elems.shape (OwAttrs.rd h5_);have e9'':=((zaa HK w4 hK6).frm hf5 hbF).cell 9;have e10'':=((zaa HK w4 hK6).frm hf5 hbF).cell 10))
   all_goals
    have s2:=(zaa HY).1.size
    have s5:=hK5.size
    have HE:=hide (zaa HQ (.returned (.slice au (chgI l o).length cu)) w5 ⟨_,_,F5,rfl,by rw [(zaa HY).2.2.1];exact h5_,hN5,fun q hq=>by
     rcases hM5 q hq with e | e | e
     ·exact .inl e
     ·right
      rcases List.mem_append.1 e with e | e
      ·have:=(ho5.lt q (by simpa [FB]using e)).1
       have:w2.heap.size≤q:=this
       omega
      ·have:=(ho6.lt q (by simpa [FB]using e)).1
       omega
     ·right
      have:=hK6.size
      omega,((Frm.ofBelow (zaa HY).1 F).trans (Frm.ofBelow hK6 F)).trans hf5⟩)
    rw [(zaa HY).2.2.1]at HE
    clear h5_ hN5 hM5 hf5 ho5 ho6 HY HQ HK
    go_wp2_with fail
    exact zaa HE
end Go.Proofs.YtlpnibbdmkeklaaGreatDoor
namespace Go.Proofs.YtlpnibbdmkeklaaGreatDoor
open Go.RowKit Go.Maps
set_option linter.unusedVariables false
set_option maxRecDepth 100000
set_option maxHeartbeats 3200000 in
theorem zsi {B:Nat} {w0 w:World} {g mb:Nat} {a:Option Addr} {c:Nat} {l:List PlV} {F:List Nat} (h:FoS B w g mb a c l F) (hB0:w0.heap.size≤B) (hw0:Below w0.heap.size w0 w) (o:OpV) (k1 k2 k3:Option Addr) (d1 d2 d3:Nat)
  (h1:Ints w0 (.slice k1 o.key.length d1) o.key) (h2:Byt w0 (.slice k2 o.name.length d2) o.name) (h3:Byt w0 (.slice k3 o.text.length d3) o.text) (hs1:o.key.length≤1000000) (hs2:o.name.length≤1000000) (hs3:o.text.length≤1000000) (ho:opB o=true) (hk:o.kind=0) (hnew:posP l o.at'=none) (hlen:l.length+1≤100000) :
  Calls Tryz.prog 88 #[.pointer (some ⟨g,0,none⟩),.agg #[.int .i64 o.kind,.int .i64 o.atN,.int .i64 o.atR,.int .i64 o.nodeN,.int .i64 o.nodeR,.int .i64 o.parN,.int .i64 o.parR,.slice k1 o.key.length d1,.int .i64 o.elem,.slice k2 o.name.length d2,.slice k3 o.text.length d3,.bool o.gone]] w fun e w'=>e=.returned (.tuple #[])∧FoT B w g mb (doV l o) F w':=by
 refine zaf ?_
 intro Q HQ
 have hA:Below w.heap.size w (w.alloc (.cells #[.int .i64 o.kind,.int .i64 o.atN,.int .i64 o.atR,.int .i64 o.nodeN,.int .i64 o.nodeR,.int .i64 o.parN,.int .i64 o.parR,.slice k1 o.key.length d1,.int .i64 o.elem,.slice k2 o.name.length d2,.slice k3 o.text.length d3,.bool o.gone] 83)):=(Below.refl _ _).alloc (Nat.le_refl _) _
 have lb:=Loc.made w #[.int .i64 o.kind,.int .i64 o.atN,.int .i64 o.atR,.int .i64 o.nodeN,.int .i64 o.nodeR,.int .i64 o.parN,.int .i64 o.parR,.slice k1 o.key.length d1,.int .i64 o.elem,.slice k2 o.name.length d2,.slice k3 o.text.length d3,.bool o.gone] 83
 have hq1:=h.keep hA
 have b0:=lb.cell 0
 obtain⟨_,hat,hpar,hel⟩:=zoJ ho hk
 have hdo:doV l o=if zae l o.par=true then l++[newP o] else l:=by unfold doV;rw [if_pos hk]
 have HD:=hide (znR hq1 hB0 (hw0.trans (hA.mono hw0.size)) o k1 k2 k3 d1 d2 d3 h1 h2 h3 hs1 hs2 hs3 hat hpar hel hnew hlen)
 rw [hk]at b0
 have b1:=lb.cell 1
 have b2:=lb.cell 2
 have b3:=lb.cell 3
 have b4:=lb.cell 4
 have b5:=lb.cell 5
 have b6:=lb.cell 6
 have b7:=lb.cell 7
 have b8:=lb.cell 8
 have b9:=lb.cell 9
 have b10:=lb.cell 10
 have b11:=lb.cell 11
 have HX:=hide (And.intro hA hdo)
 clear h hq1 hA lb hw0 h1 h2 h3 hdo ho hat hpar hnew
 go_enter Tryz.func88,Tryz.ntmps88
 rw [hk]at HD HX
 go_wp2_with fail
 refine (zaa HD).mono ?_
 rintro e w2 ⟨rfl,a',c',F',hs,hf,hF⟩
 have hsz:=(zaa HX).1.size
 have HE:=hide (zaa HQ (.returned (.tuple #[])) w2 ⟨rfl,a',c',F',by rw [(zaa HX).2];exact hs,(Frm.ofBelow (zaa HX).1 _).trans hf,fun q hq=>(hF q hq).imp id (fun h=>by omega)⟩)
 clear HQ HD hs hf hF HX
 go_wp2_with fail
 go_end0
 exact zaa HE
theorem zid {B:Nat} {w0 w:World} {g mb:Nat} {a:Option Addr} {c:Nat} {l:List PlV} {F:List Nat} (h:FoS B w g mb a c l F) (hB0:w0.heap.size≤B) (hw0:Below w0.heap.size w0 w) (o:OpV) (k1 k2 k3:Option Addr) (d1 d2 d3:Nat)
  (h1:Ints w0 (.slice k1 o.key.length d1) o.key) (h2:Byt w0 (.slice k2 o.name.length d2) o.name) (h3:Byt w0 (.slice k3 o.text.length d3) o.text) (hs1:o.key.length≤1000000) (hs2:o.name.length≤1000000) (hs3:o.text.length≤1000000) (ho:opB o=true) (hk:o.kind=1∨o.kind=2∨o.kind=3) (hno:okI o.node) (hp:posP l o.node=none) :
  Calls Tryz.prog 88 #[.pointer (some ⟨g,0,none⟩),.agg #[.int .i64 o.kind,.int .i64 o.atN,.int .i64 o.atR,.int .i64 o.nodeN,.int .i64 o.nodeR,.int .i64 o.parN,.int .i64 o.parR,.slice k1 o.key.length d1,.int .i64 o.elem,.slice k2 o.name.length d2,.slice k3 o.text.length d3,.bool o.gone]] w fun e w'=>e=.returned (.tuple #[])∧FoT B w g mb (doV l o) F w':=by
 refine zaf ?_
 intro Q HQ
 have hA:Below w.heap.size w (w.alloc (.cells #[.int .i64 o.kind,.int .i64 o.atN,.int .i64 o.atR,.int .i64 o.nodeN,.int .i64 o.nodeR,.int .i64 o.parN,.int .i64 o.parR,.slice k1 o.key.length d1,.int .i64 o.elem,.slice k2 o.name.length d2,.slice k3 o.text.length d3,.bool o.gone] 83)):=(Below.refl _ _).alloc (Nat.le_refl _) _
 have lb:=Loc.made w #[.int .i64 o.kind,.int .i64 o.atN,.int .i64 o.atR,.int .i64 o.nodeN,.int .i64 o.nodeR,.int .i64 o.parN,.int .i64 o.parR,.slice k1 o.key.length d1,.int .i64 o.elem,.slice k2 o.name.length d2,.slice k3 o.text.length d3,.bool o.gone] 83
 have hq1:=h.keep hA
 have b0:=lb.cell 0
 have b3:=lb.cell 3
 have b4:=lb.cell 4
 have HF:=hide (zcj hq1 o.node hno)
 unfold OpV.node zap at HF
 have hgl:=h.set.lt
 have hml:=h.map.lt
 have hFl:=OwPlsM.lt h.row
 have hdo:doV l o=l:=zpM (by omega) hp
 have hk':(o.kind == 0)=false:=by simp;omega
 have hk0:¬ o.kind=0:=by omega
 have HX:=hide (And.intro hA (And.intro hdo (And.intro hq1 hp)))
 clear h hq1 hA lb hw0 h1 h2 h3 hdo ho hno hp hk hk'
 go_enter Tryz.func88,Tryz.ntmps88
 go_wp2_with fail
 refine (zaa HF).mono ?_
 rintro e w2 ⟨hn,_,hb2⟩
 obtain⟨hA,hdo,hq1,hp⟩:=zaa HX
 obtain rfl:=hn hp
 have HE:=hide (zaa HQ (.returned (.tuple #[])) w2 ⟨rfl,a,c,F,by rw [hdo];exact hq1.keep hb2,Frm.ofBelow (zad hA hb2) _,fun q hq=>.inl hq⟩)
 clear HQ HF hn hb2 HX hA hdo hq1 hp
 go_wp2_with fail
 go_end0
 exact zaa HE
set_option maxHeartbeats 6400000 in
theorem zrG {B:Nat} {w0 w:World} {g mb:Nat} {a:Option Addr} {c:Nat} {l:List PlV} {F:List Nat} (h:FoS B w g mb a c l F) (hB0:w0.heap.size≤B) (hw0:Below w0.heap.size w0 w) (o:OpV) (k1 k2 k3:Option Addr) (d1 d2 d3:Nat)
  (h1:Ints w0 (.slice k1 o.key.length d1) o.key) (h2:Byt w0 (.slice k2 o.name.length d2) o.name) (h3:Byt w0 (.slice k3 o.text.length d3) o.text) (hs1:o.key.length≤1000000) (hs2:o.name.length≤1000000) (hs3:o.text.length≤1000000) (ho:opB o=true) (hk:o.kind=2) (hno:okI o.node) (hK2:Kd2 l) (k:Nat) (hp:posP l o.node=some k) :
  Calls Tryz.prog 88 #[.pointer (some ⟨g,0,none⟩),.agg #[.int .i64 o.kind,.int .i64 o.atN,.int .i64 o.atR,.int .i64 o.nodeN,.int .i64 o.nodeR,.int .i64 o.parN,.int .i64 o.parR,.slice k1 o.key.length d1,.int .i64 o.elem,.slice k2 o.name.length d2,.slice k3 o.text.length d3,.bool o.gone]] w fun e w'=>e=.returned (.tuple #[])∧FoT B w g mb (doV l o) F w':=by
 refine zaf ?_
 intro Q HQ
 have hA:Below w.heap.size w (w.alloc (.cells #[.int .i64 o.kind,.int .i64 o.atN,.int .i64 o.atR,.int .i64 o.nodeN,.int .i64 o.nodeR,.int .i64 o.parN,.int .i64 o.parR,.slice k1 o.key.length d1,.int .i64 o.elem,.slice k2 o.name.length d2,.slice k3 o.text.length d3,.bool o.gone] 83)):=(Below.refl _ _).alloc (Nat.le_refl _) _
 have lb:=Loc.made w #[.int .i64 o.kind,.int .i64 o.atN,.int .i64 o.atR,.int .i64 o.nodeN,.int .i64 o.nodeR,.int .i64 o.parN,.int .i64 o.parR,.slice k1 o.key.length d1,.int .i64 o.elem,.slice k2 o.name.length d2,.slice k3 o.text.length d3,.bool o.gone] 83
 have hq1:=h.keep hA
 have b0:=lb.cell 0
 have b3:=lb.cell 3
 have b4:=lb.cell 4
 have HF:=hide (zcj hq1 o.node hno)
 unfold OpV.node zap at HF
 have hgl:=h.set.lt
 have hml:=h.map.lt
 have hFl:=OwPlsM.lt h.row
 have hkl:k<l.length:=(posP_some.1 hp).1
 have hdo:=zhn (o:=o) (by omega) hp hkl
 have hk0:¬ o.kind=0:=by omega
 have HX:=hide (And.intro hA (And.intro hdo (And.intro hq1 (And.intro hp (And.intro lb (And.intro (hw0.trans (hA.mono hw0.size)) (And.intro h1 (And.intro h2 h3))))))))
 have HKK:=hide hk
 clear hk
 clear h hq1 hA lb hw0 h1 h2 h3 hdo ho hno hp
 go_enter Tryz.func88,Tryz.ntmps88
 go_wp2_with fail
 refine (zaa HF).mono ?_
 rintro e w2 ⟨_,hs2_,hb2⟩
 obtain⟨hA,hdo,hq1,hp,lb,hw0,h1,h2,h3⟩:=zaa HX
 obtain⟨gr,rfl,rfl⟩:=hs2_ k hp
 have hs:=hq1.keep hb2
 have lb2:=lb.all hb2
 have hw2:=hw0.trans (hb2.mono hw0.size)
 have hA2:=zad hA hb2
 have hB2_:B≤w2.heap.size:=by have:=hs.geg;have:=hs.set.lt;omega
 have hge:∀q∈g::mb::F,B≤q:=fun q hq=>by rcases List.mem_cons.1 hq with rfl | hq;(exact hs.geg);(rcases List.mem_cons.1 hq with rfl | hq;(exact hs.gem);(exact hs.ge q hq))
 clear HX HF hs2_ hb2 hA hq1 lb hw0 b0 b3 b4
 have b0:=lb2.cell 0
 have hk:=zaa HKK
 rw [hk]at b0
 obtain⟨Cs,C,G,hR,hC,_,_,_,_,_⟩:=hs.upd hkl
 have hc5:w2.cell? ⟨gr,k*9+5,none⟩=some (.int .i64 l[k].kind):=by
  obtain⟨_,_,_,_,_,eC,_⟩:=hC
  have:=hR.cell 5 (by omega)
  rw [eC]at this
  exact this
 clear hR hC
 by_cases h1k:l[k].kind=1
 ·have h2k:2≤k:=by
   rcases Nat.lt_or_ge k 2 with e | e
   ·have:=hK2 k l[k] e (by simp [hkl]);omega
   ·exact e
  have hdo2:doV l o=l.set k (zfn o l[k]):=by rw [hdo,if_neg (by omega),if_pos hk,if_pos ⟨h2k,h1k⟩]
  have HC:=hide (zes w2 _ o.text (h3.keep hw2) (by omega))
  have b10:=lb2.cell 10
  have HY:=hide (And.intro hs (And.intro hA2 hdo2))
  rw [h1k]at hc5
  clear hs hA2 hdo2 hdo hw2 lb2 h1 h2 h3 h1k
  go_wp2_with fail
  refine (zaa HC).mono ?_
  rintro e w3 ⟨a5,c5,rfl,ho5,hb3⟩
  obtain⟨hs,hA2,hdo2⟩:=zaa HY
  have hs3_:=hs.keep hb3
  obtain⟨Cs,C,G,hR,hC,hGN,hGF,hgF,hgG,hcl⟩:=hs3_.upd hkl
  obtain⟨K,N,T,A,Fa,eC,q1,q2,q3,q4,eG⟩:=hC
  have cc:=hR.cell 7 (by omega)
  rw [eC]at cc
  obtain⟨_,_,eT,_⟩:=q3.byt.shape
  rw [eT]at cc
  have cf:=hR.frozen (k*9+7)
  have fs:=zab w3 gr (k*9+7) (.slice a5 o.text.length c5)
  have hlt3:=OwPlsM.lt hs.row
  have hnew:∀q∈FB (.slice a5 o.text.length c5),w2.heap.size≤q:=fun q hq=>(ho5.lt q (by simpa [FB]using hq)).1
  have hgl3:=hlt3 gr hgF
  have hng:∀q∈G,q∉[gr]:=fun q hq e=>by have e9:q=gr:=(by simpa using e);exact hgG (by rw [←e9];exact hq)
  obtain⟨F',g1,g2⟩:=hcl _ [gr] _ (zfn o l[k]) (FB K++FB N++FB (.slice a5 o.text.length c5)++Fa) (hR.put 7 (by omega) (.slice a5 o.text.length c5)) fs (fun q hq=>.inl (by simpa using hq))
   (by rw [eC];exact⟨K,N,_,A,Fa,rfl,⟨q1.1,zah q1.2 fs (fun q hq=>hng q (by rw [eG];simp [hq]))⟩,q2.frm fs (fun q hq=>hng q (by rw [eG];simp [hq])),(ho5.mono (Nat.zero_le _)).frm fs (fun q hq e=>by have e9:q=gr:=(by simpa using e);have:=hnew q hq;omega),OwAttrs.frm q4 fs (fun q hq=>hng q (by rw [eG];simp [hq])),rfl⟩)
   (zlN (by rw [←eG];exact hGN) (zaE _) (fun q hq e=>by have:=hnew q hq;have:=hlt3 q (hGF q (by rw [eG];exact e));omega))
   (fun q hq=>by
    rcases List.mem_append.1 hq with hq | hq
    ·rcases List.mem_append.1 hq with hq | hq
     ·exact .inl (by rw [eG];exact List.mem_append_left _ (List.mem_append_left _ hq))
     ·exact .inr ⟨fun e=>by have:=hnew q hq;have:=hlt3 q e;omega,by have:=hnew q hq;omega⟩
    ·exact .inl (by rw [eG];exact List.mem_append_right _ hq))
   rfl (hs.ids l[k] (List.getElem_mem hkl)).2
  have hsz2:=hA2.size
  have HE:=hide (zaa HQ (.returned (.tuple #[])) _ ⟨rfl,_,_,F',by rw [hdo2];exact g1,((Frm.ofBelow hA2 _).trans (Frm.ofBelow hb3 _)).trans (fs.mono (fun q hq=>by have e9:q=gr:=(by simpa using hq);rw [e9];simp [hgF])),fun q hq=>by
   rcases g2 q hq with e | e
   ·exact .inl e
   ·rcases List.mem_append.1 e with e | e
    ·rcases List.mem_append.1 e with e | e
     ·exact .inl (hGF q (by rw [eG];exact List.mem_append_left _ (List.mem_append_left _ e)))
     ·have:=hnew q e;right;omega
    ·exact .inl (hGF q (by rw [eG];exact List.mem_append_right _ e))⟩)
  clear HQ HC HY hs hs3_ hA2 hdo2 hR hcl q1 q2 q3 q4 g1 g2 fs ho5 hb3 hnew hng hGN hGF
  go_wp2_with fail
  go_end0
  exact zaa HE
 ·have hdo2:doV l o=l:=by rw [hdo,if_neg (by omega),if_pos hk,if_neg (fun e=>h1k e.2)]
  have HE:=hide (zaa HQ (.returned (.tuple #[])) w2 ⟨rfl,_,_,F,by rw [hdo2];exact hs,Frm.ofBelow hA2 _,fun q hq=>.inl hq⟩)
  clear hs hA2 hdo2 hdo hw2 lb2 h1 h2 h3 HQ
  go_wp2_with fail
  go_end0
  exact zaa HE
set_option maxHeartbeats 12800000 in
theorem zrE {B:Nat} {w0 w:World} {g mb:Nat} {a:Option Addr} {c:Nat} {l:List PlV} {F:List Nat} (h:FoS B w g mb a c l F) (hB0:w0.heap.size≤B) (hw0:Below w0.heap.size w0 w) (o:OpV) (k1 k2 k3:Option Addr) (d1 d2 d3:Nat)
  (h1:Ints w0 (.slice k1 o.key.length d1) o.key) (h2:Byt w0 (.slice k2 o.name.length d2) o.name) (h3:Byt w0 (.slice k3 o.text.length d3) o.text) (hs1:o.key.length≤1000000) (hs2:o.name.length≤1000000) (hs3:o.text.length≤1000000) (ho:opB o=true) (hk:o.kind=3) (hno:okI o.node) (hnm:zai o.name) (hFr:Fr l) (hAt:AtI l) (hG:Glo w) (k:Nat) (hp:posP l o.node=some k) :
  Calls Tryz.prog 88 #[.pointer (some ⟨g,0,none⟩),.agg #[.int .i64 o.kind,.int .i64 o.atN,.int .i64 o.atR,.int .i64 o.nodeN,.int .i64 o.nodeR,.int .i64 o.parN,.int .i64 o.parR,.slice k1 o.key.length d1,.int .i64 o.elem,.slice k2 o.name.length d2,.slice k3 o.text.length d3,.bool o.gone]] w fun e w'=>e=.returned (.tuple #[])∧FoT B w g mb (doV l o) F w':=by
 refine zaf ?_
 intro Q HQ
 have hA:Below w.heap.size w (w.alloc (.cells #[.int .i64 o.kind,.int .i64 o.atN,.int .i64 o.atR,.int .i64 o.nodeN,.int .i64 o.nodeR,.int .i64 o.parN,.int .i64 o.parR,.slice k1 o.key.length d1,.int .i64 o.elem,.slice k2 o.name.length d2,.slice k3 o.text.length d3,.bool o.gone] 83)):=(Below.refl _ _).alloc (Nat.le_refl _) _
 have lb:=Loc.made w #[.int .i64 o.kind,.int .i64 o.atN,.int .i64 o.atR,.int .i64 o.nodeN,.int .i64 o.nodeR,.int .i64 o.parN,.int .i64 o.parR,.slice k1 o.key.length d1,.int .i64 o.elem,.slice k2 o.name.length d2,.slice k3 o.text.length d3,.bool o.gone] 83
 have hq1:=h.keep hA
 have b0:=lb.cell 0
 have b3:=lb.cell 3
 have b4:=lb.cell 4
 have HF:=hide (zcj hq1 o.node hno)
 unfold OpV.node zap at HF
 have hgl:=h.set.lt
 have hml:=h.map.lt
 have hFl:=OwPlsM.lt h.row
 have hkl:k<l.length:=(posP_some.1 hp).1
 have hdo:=zhn (o:=o) (by omega) hp hkl
 have hk0:¬ o.kind=0:=by omega
 have HX:=hide (And.intro hA (And.intro hdo (And.intro hq1 (And.intro hp (And.intro lb (And.intro (hw0.trans (hA.mono hw0.size)) (And.intro h1 (And.intro h2 h3))))))))
 have HGL:=hide hG
 clear hG
 have HKK:=hide hk
 clear hk
 clear h hq1 hA lb hw0 h1 h2 h3 hdo ho hno hp
 go_enter Tryz.func88,Tryz.ntmps88
 go_wp2_with fail
 refine (zaa HF).mono ?_
 rintro e w2 ⟨_,hs2_,hb2⟩
 obtain⟨hA,hdo,hq1,hp,lb,hw0,h1,h2,h3⟩:=zaa HX
 obtain⟨gr,rfl,rfl⟩:=hs2_ k hp
 have hs:=hq1.keep hb2
 have lb2:=lb.all hb2
 have hw2:=hw0.trans (hb2.mono hw0.size)
 have hA2:=zad hA hb2
 have hB2_:B≤w2.heap.size:=by have:=hs.geg;have:=hs.set.lt;omega
 have hge:∀q∈g::mb::F,B≤q:=fun q hq=>by rcases List.mem_cons.1 hq with rfl | hq;(exact hs.geg);(rcases List.mem_cons.1 hq with rfl | hq;(exact hs.gem);(exact hs.ge q hq))
 clear HX HF hs2_ hb2 hA hq1 lb hw0 b0 b3 b4
 have b0:=lb2.cell 0
 have hk:=zaa HKK
 rw [hk]at b0
 obtain⟨y0,y1,y2,y3⟩:=(zaa HGL).keep hA2
 have htr:l[k].id=zag↔k=1:=by
  have hgk:l[k]? = some l[k]:=by simp [hkl]
  obtain⟨p1,hp1⟩:∃p1,l[1]? = some p1:=⟨l[1]'(by have:=hFr.two;omega),by simp [show 1<l.length by have:=hFr.two;omega]⟩
  constructor
  ·intro e
   have:=zbn hFr.uniq hgk
   rw [e,←hFr.trash p1 hp1,zbn hFr.uniq hp1]at this
   exact (Option.some.inj this).symm
  ·intro e
   subst e
   exact hFr.trash _ hgk
 obtain⟨Cs,C,G,hR,hC,_,_,_,_,_⟩:=hs.upd hkl
 obtain⟨_,_,_,_,_,eC,_⟩:=hC
 have c0:w2.cell? ⟨gr,k*9,none⟩=_:=hR.cell 0 (by omega)
 have c1:=hR.cell 1 (by omega)
 have c5:=hR.cell 5 (by omega)
 rw [eC]at c0 c1 c5
 clear hR eC
 by_cases hz:l[k].kind=0
 ·have w5_:(l[k].kind == 0)=true:=by simpa using hz
  by_cases htk:k=1
  ·have hid:=htr.2 htk
   have hdo2:doV l o=l:=by rw [hdo,if_neg (by omega),if_neg (by omega),if_neg (fun e=>e.1 htk)]
   have w1_:(l[k].idN == 0)=true:=by have:=(Prod.mk.inj hid).1;simpa using this
   have w2_:(l[k].idR == 1)=true:=by have:=(Prod.mk.inj hid).2;simpa using this
   have HE:=hide (fun n_=>zaa HQ (.returned (.tuple #[])) (w2.drewN n_) ⟨rfl,_,_,F,by rw [hdo2];exact hs.keep (below_drewN (Below.refl _ _) _),Frm.ofBelow (zad hA2 (below_drewN (Below.refl _ _) _)) _,fun q hq=>.inl hq⟩)
   clear hs hA2 hdo2 hdo hw2 lb2 h1 h2 h3 HQ hid htk hz htr
   go_wp2_with fail
   go_quiet (fail)
   go_wp2_with fail
   go_end0
   exact zaa HE _
  ·have hdo2:doV l o=l.set k (zbp o l[k]):=by rw [hdo,if_neg (by omega),if_neg (by omega),if_pos ⟨htk,hz⟩]
   have hid:l[k].id≠zag:=fun e=>htk (htr.1 e)
   have HY:=hide (And.intro hs (And.intro hA2 (And.intro hdo2 (And.intro lb2 (And.intro hw2 (And.intro h2 h3))))))
   by_cases e1:l[k].idN=0
   ·have e2:¬ l[k].idR=1:=fun e=>hid (Prod.ext e1 e)
    have w1_:(l[k].idN == 0)=true:=by simpa using e1
    have w2_:(l[k].idR == 1)=false:=by simpa using e2
    clear hs hA2 hdo2 hdo hw2 lb2 h1 h2 h3 hid htk hz htr e1 e2
    go_wp2_with fail
    go_quiet (fail)
    go_upto_region 14 with fail
    generalize hWq:w2.drewN _=wq
    obtain⟨hs,hA2,hdo2,lb2,hw2,hn2,ht2⟩:=zaa HY
    have hbq:Below w2.heap.size w2 wq:=by rw [←hWq];exact below_drewN (Below.refl _ _) _
    clear hWq
    have hbd:=hbq.drew
    have hs5:=hs.keep hbd
    have lb5:=lb2.all hbd
    have hw5:=hw2.trans (hbd.mono hw2.size)
    obtain⟨Cs,C,G,hR,hC,hGN,hGF,hgF,hgG,hcl⟩:=hs5.upd hkl
    obtain⟨K,N,T,A,Fa,eC,q1,q2,q3,q4,eG⟩:=hC
    obtain⟨a1,ca,rfl,_⟩:=Elems.shape (OwAttrs.rd q4)
    have c8:=hR.cell 8 (by omega)
    rw [eC]at c8
    have hFaG:∀q∈Fa,q∈G:=fun q hq=>by rw [eG];exact List.mem_append_right _ hq
    have hgFa:gr∉Fa:=fun e=>hgG (hFaG gr e)
    have hFaN:Fa.Nodup:=by rw [eG]at hGN;exact (List.nodup_append.1 hGN).2.1
    have hat:=hAt l[k] (List.getElem_mem hkl)
    have HC:=hide (zlZ wq.drew a1 ca l[k].attrs Fa o k1 k2 k3 d1 d2 d3 q4 hFaN hat.1 hat.2 (hn2.keep hw5) (ht2.keep hw5) (by omega) (by omega) hnm)
    have e0:=lb5.cell 0
    have e1:=lb5.cell 1
    have e2:=lb5.cell 2
    have e3:=lb5.cell 3
    have e4:=lb5.cell 4
    have e5:=lb5.cell 5
    have e6:=lb5.cell 6
    have e7:=lb5.cell 7
    have e8:=lb5.cell 8
    have e9:=lb5.cell 9
    have e10:=lb5.cell 10
    have e11:=lb5.cell 11
    have HR:=hide hR
    have HCL:=hide hcl
    have HZ:=hide (And.intro hs5 (And.intro hA2 (And.intro hdo2 (And.intro hbd (And.intro q1 (And.intro q2 (And.intro q3 (And.intro eG (And.intro hGN hGF)))))))))
    have hlen3:o.kind=3:=hk
    rw [hk]at HC e0
    clear hs hA2 hdo2 lb2 hw2 hn2 ht2 hs5 lb5 hw5 hR hcl q1 q2 q3 q4 eG hGN hGF hbd hbq HY
    go_region_with (go_at_call 124;refine (zaa HC).mono ?_;rintro e w6 ⟨a6,c6,F6,rfl,h6,hN6,hM6,hf6⟩;have hR6:=(zaa HR).frm hf6 hgFa;have cc:=hR6.cell 8 (by omega);rw [eC]at cc;have cf:=hR6.frozen (k*9+8);have HR6:=hide hR6;clear hR6)
    all_goals
     obtain⟨hs5,hA2,hdo2,hbd,q1,q2,q3,eG,hGN,hGF⟩:=zaa HZ
     have fs:=zab w6 gr (k*9+8) (.slice a6 (chgI l[k].attrs o).length c6)
     have hlt5:=OwPlsM.lt hs5.row
     have hFF:Frm wq.drew _ (Fa++[gr]):=(hf6.mono (fun q hq=>List.mem_append_left _ hq)).trans (fs.mono (S':=Fa++[gr]) (fun q hq=>List.mem_append_right _ hq))
     have hnG:∀q∈FB K++FB N++FB T,q∉Fa++[gr]:=fun q hq e=>by
      rcases List.mem_append.1 e with e | e
      ·rw [eG]at hGN
       exact (List.nodup_append.1 hGN).2.2 q hq q e rfl
      ·have e9_:q=gr:=by simpa using e
       exact hgG (by rw [eG,←e9_];exact List.mem_append_left _ hq)
     have hgl5:=hlt5 gr hgF
     have hB5:B≤wq.drew.heap.size:=by have:=hs5.geg;have:=hs5.set.lt;omega
     have hF6g:gr∉F6:=fun e=>by rcases hM6 gr e with e | e;(exact hgFa e);omega
     have hat':setAttrs l[k].attrs o=chgI l[k].attrs o:=zfw (hAt l[k] (List.getElem_mem hkl)).1 (hAt l[k] (List.getElem_mem hkl)).2 o
     obtain⟨F',g1,g2⟩:=(zaa HCL) _ (Fa++[gr]) _ (zbp o l[k]) (FB K++FB N++FB T++F6) ((zaa HR6).put 8 (by omega) (.slice a6 (chgI l[k].attrs o).length c6)) hFF (fun q hq=>by rcases List.mem_append.1 hq with e | e;(exact .inr (hFaG q e));(exact .inl (by simpa using e)))
      (by
       rw [eC]
       refine⟨K,N,T,_,F6,rfl,⟨q1.1,zah q1.2 hFF (fun q hq=>hnG q (by simp [hq]))⟩,q2.frm hFF (fun q hq=>hnG q (by simp [hq])),q3.frm hFF (fun q hq=>hnG q (by simp [hq])),?_,rfl⟩
       show OwAttrs _ _ (setAttrs l[k].attrs o) F6
       rw [hat']
       exact OwAttrs.frm h6 fs (fun q hq e=>by have e9_:q=gr:=(by simpa using e);exact hF6g (by rw [←e9_];exact hq)))
      (by
       rw [eG]at hGN
       refine List.nodup_append.2 ⟨(List.nodup_append.1 hGN).1,hN6,fun q hq q' hq' e=> ?_⟩
       rcases hM6 q' hq' with e' | e'
       ·exact (List.nodup_append.1 hGN).2.2 q hq q' e' e
       ·have:=hlt5 q (hGF q (by rw [eG];exact List.mem_append_left _ hq));omega)
      (fun q hq=>by
       rcases List.mem_append.1 hq with hq | hq
       ·exact .inl (by rw [eG];exact List.mem_append_left _ hq)
       ·rcases hM6 q hq with e | e
        ·exact .inl (hFaG q e)
        ·exact .inr ⟨fun e'=>by have:=hlt5 q e';omega,by omega⟩)
      rfl (hs5.ids l[k] (List.getElem_mem hkl)).2
     have hsz2:=hA2.size
     have hsz5:=hbd.size
     have HE:=hide (zaa HQ (.returned (.tuple #[])) _ ⟨rfl,_,_,F',by rw [hdo2];exact g1,((Frm.ofBelow hA2 _).trans (Frm.ofBelow hbd _)).trans (hFF.mono (fun q hq=>by rcases List.mem_append.1 hq with e | e;(simp [hGF q (hFaG q e)]);(have e9_:q=gr:=(by simpa using e);rw [e9_];simp [hgF]))),fun q hq=>by
      rcases g2 q hq with e | e
      ·exact .inl e
      ·rcases List.mem_append.1 e with e | e
       ·exact .inl (hGF q (by rw [eG];exact List.mem_append_left _ e))
       ·rcases hM6 q e with e | e
        ·exact .inl (hGF q (hFaG q e))
        ·right;omega⟩)
     clear HQ HC HZ HR HCL HR6 hs5 hA2 hdo2 q1 q2 q3 g1 g2 fs hFF hnG h6 hN6 hM6 hf6
     go_wp2_with fail
     go_end0
     exact zaa HE
   ·have w1_:(l[k].idN == 0)=false:=by simpa using e1
    clear hs hA2 hdo2 hdo hw2 lb2 h1 h2 h3 hid htk hz htr e1
    go_wp2_with fail
    go_quiet (fail)
    go_upto_region 14 with fail
    generalize hWq:w2.drewN _=wq
    obtain⟨hs,hA2,hdo2,lb2,hw2,hn2,ht2⟩:=zaa HY
    have hbq:Below w2.heap.size w2 wq:=by rw [←hWq];exact below_drewN (Below.refl _ _) _
    clear hWq
    have hbd:=hbq.drew
    have hs5:=hs.keep hbd
    have lb5:=lb2.all hbd
    have hw5:=hw2.trans (hbd.mono hw2.size)
    obtain⟨Cs,C,G,hR,hC,hGN,hGF,hgF,hgG,hcl⟩:=hs5.upd hkl
    obtain⟨K,N,T,A,Fa,eC,q1,q2,q3,q4,eG⟩:=hC
    obtain⟨a1,ca,rfl,_⟩:=Elems.shape (OwAttrs.rd q4)
    have c8:=hR.cell 8 (by omega)
    rw [eC]at c8
    have hFaG:∀q∈Fa,q∈G:=fun q hq=>by rw [eG];exact List.mem_append_right _ hq
    have hgFa:gr∉Fa:=fun e=>hgG (hFaG gr e)
    have hFaN:Fa.Nodup:=by rw [eG]at hGN;exact (List.nodup_append.1 hGN).2.1
    have hat:=hAt l[k] (List.getElem_mem hkl)
    have HC:=hide (zlZ wq.drew a1 ca l[k].attrs Fa o k1 k2 k3 d1 d2 d3 q4 hFaN hat.1 hat.2 (hn2.keep hw5) (ht2.keep hw5) (by omega) (by omega) hnm)
    have e0:=lb5.cell 0
    have e1:=lb5.cell 1
    have e2:=lb5.cell 2
    have e3:=lb5.cell 3
    have e4:=lb5.cell 4
    have e5:=lb5.cell 5
    have e6:=lb5.cell 6
    have e7:=lb5.cell 7
    have e8:=lb5.cell 8
    have e9:=lb5.cell 9
    have e10:=lb5.cell 10
    have e11:=lb5.cell 11
    have HR:=hide hR
    have HCL:=hide hcl
    have HZ:=hide (And.intro hs5 (And.intro hA2 (And.intro hdo2 (And.intro hbd (And.intro q1 (And.intro q2 (And.intro q3 (And.intro eG (And.intro hGN hGF)))))))))
    have hlen3:o.kind=3:=hk
    rw [hk]at HC e0
    clear hs hA2 hdo2 lb2 hw2 hn2 ht2 hs5 lb5 hw5 hR hcl q1 q2 q3 q4 eG hGN hGF hbd hbq HY
    go_region_with (go_at_call 124;refine (zaa HC).mono ?_;rintro e w6 ⟨a6,c6,F6,rfl,h6,hN6,hM6,hf6⟩;have hR6:=(zaa HR).frm hf6 hgFa;have cc:=hR6.cell 8 (by omega);rw [eC]at cc;have cf:=hR6.frozen (k*9+8);have HR6:=hide hR6;clear hR6)
    all_goals
     obtain⟨hs5,hA2,hdo2,hbd,q1,q2,q3,eG,hGN,hGF⟩:=zaa HZ
     have fs:=zab w6 gr (k*9+8) (.slice a6 (chgI l[k].attrs o).length c6)
     have hlt5:=OwPlsM.lt hs5.row
     have hFF:Frm wq.drew _ (Fa++[gr]):=(hf6.mono (fun q hq=>List.mem_append_left _ hq)).trans (fs.mono (S':=Fa++[gr]) (fun q hq=>List.mem_append_right _ hq))
     have hnG:∀q∈FB K++FB N++FB T,q∉Fa++[gr]:=fun q hq e=>by
      rcases List.mem_append.1 e with e | e
      ·rw [eG]at hGN
       exact (List.nodup_append.1 hGN).2.2 q hq q e rfl
      ·have e9_:q=gr:=by simpa using e
       exact hgG (by rw [eG,←e9_];exact List.mem_append_left _ hq)
     have hgl5:=hlt5 gr hgF
     have hB5:B≤wq.drew.heap.size:=by have:=hs5.geg;have:=hs5.set.lt;omega
     have hF6g:gr∉F6:=fun e=>by rcases hM6 gr e with e | e;(exact hgFa e);omega
     have hat':setAttrs l[k].attrs o=chgI l[k].attrs o:=zfw (hAt l[k] (List.getElem_mem hkl)).1 (hAt l[k] (List.getElem_mem hkl)).2 o
     obtain⟨F',g1,g2⟩:=(zaa HCL) _ (Fa++[gr]) _ (zbp o l[k]) (FB K++FB N++FB T++F6) ((zaa HR6).put 8 (by omega) (.slice a6 (chgI l[k].attrs o).length c6)) hFF (fun q hq=>by rcases List.mem_append.1 hq with e | e;(exact .inr (hFaG q e));(exact .inl (by simpa using e)))
      (by
       rw [eC]
       refine⟨K,N,T,_,F6,rfl,⟨q1.1,zah q1.2 hFF (fun q hq=>hnG q (by simp [hq]))⟩,q2.frm hFF (fun q hq=>hnG q (by simp [hq])),q3.frm hFF (fun q hq=>hnG q (by simp [hq])),?_,rfl⟩
       show OwAttrs _ _ (setAttrs l[k].attrs o) F6
       rw [hat']
       exact OwAttrs.frm h6 fs (fun q hq e=>by have e9_:q=gr:=(by simpa using e);exact hF6g (by rw [←e9_];exact hq)))
      (by
       rw [eG]at hGN
       refine List.nodup_append.2 ⟨(List.nodup_append.1 hGN).1,hN6,fun q hq q' hq' e=> ?_⟩
       rcases hM6 q' hq' with e' | e'
       ·exact (List.nodup_append.1 hGN).2.2 q hq q' e' e
       ·have:=hlt5 q (hGF q (by rw [eG];exact List.mem_append_left _ hq));omega)
      (fun q hq=>by
       rcases List.mem_append.1 hq with hq | hq
       ·exact .inl (by rw [eG];exact List.mem_append_left _ hq)
       ·rcases hM6 q hq with e | e
        ·exact .inl (hFaG q e)
        ·exact .inr ⟨fun e'=>by have:=hlt5 q e';omega,by omega⟩)
      rfl (hs5.ids l[k] (List.getElem_mem hkl)).2
     have hsz2:=hA2.size
     have hsz5:=hbd.size
     have HE:=hide (zaa HQ (.returned (.tuple #[])) _ ⟨rfl,_,_,F',by rw [hdo2];exact g1,((Frm.ofBelow hA2 _).trans (Frm.ofBelow hbd _)).trans (hFF.mono (fun q hq=>by rcases List.mem_append.1 hq with e | e;(simp [hGF q (hFaG q e)]);(have e9_:q=gr:=(by simpa using e);rw [e9_];simp [hgF]))),fun q hq=>by
      rcases g2 q hq with e | e
      ·exact .inl e
      ·rcases List.mem_append.1 e with e | e
       ·exact .inl (hGF q (by rw [eG];exact List.mem_append_left _ e))
       ·rcases hM6 q e with e | e
        ·exact .inl (hGF q (hFaG q e))
        ·right;omega⟩)
     clear HQ HC HZ HR HCL HR6 hs5 hA2 hdo2 q1 q2 q3 g1 g2 fs hFF hnG h6 hN6 hM6 hf6
     go_wp2_with fail
     go_end0
     exact zaa HE
 ·have hdo2:doV l o=l:=by rw [hdo,if_neg (by omega),if_neg (by omega),if_neg (fun e=>hz e.2)]
  have w5_:(l[k].kind == 0)=false:=by simpa using hz
  have HE:=hide (fun n_=>zaa HQ (.returned (.tuple #[])) (w2.drewN n_) ⟨rfl,_,_,F,by rw [hdo2];exact hs.keep (below_drewN (Below.refl _ _) _),Frm.ofBelow (zad hA2 (below_drewN (Below.refl _ _) _)) _,fun q hq=>.inl hq⟩)
  clear hs hA2 hdo2 hdo hw2 lb2 h1 h2 h3 HQ hz htr
  go_wp2_with fail
  go_quiet (fail)
  go_wp2_with fail
  go_end0
  exact zaa HE _
set_option maxHeartbeats 12800000 in
theorem zro {B:Nat} {w0 w:World} {g mb:Nat} {a:Option Addr} {c:Nat} {l:List PlV} {F:List Nat} (h:FoS B w g mb a c l F) (hB0:w0.heap.size≤B) (hw0:Below w0.heap.size w0 w) (o:OpV) (k1 k2 k3:Option Addr) (d1 d2 d3:Nat)
  (h1:Ints w0 (.slice k1 o.key.length d1) o.key) (h2:Byt w0 (.slice k2 o.name.length d2) o.name) (h3:Byt w0 (.slice k3 o.text.length d3) o.text) (hs1:o.key.length≤1000000) (hs2:o.name.length≤1000000) (hs3:o.text.length≤1000000) (ho:opB o=true) (hk:o.kind=1) (hno:okI o.node) (hpa:okI o.par) (hFr:Fr l) (hG:Glo w) (hB2:2≤B) (k:Nat) (hp:posP l o.node=some k) :
  Calls Tryz.prog 88 #[.pointer (some ⟨g,0,none⟩),.agg #[.int .i64 o.kind,.int .i64 o.atN,.int .i64 o.atR,.int .i64 o.nodeN,.int .i64 o.nodeR,.int .i64 o.parN,.int .i64 o.parR,.slice k1 o.key.length d1,.int .i64 o.elem,.slice k2 o.name.length d2,.slice k3 o.text.length d3,.bool o.gone]] w fun e w'=>e=.returned (.tuple #[])∧FoT B w g mb (doV l o) F w':=by
 refine zaf ?_
 intro Q HQ
 have hA:Below w.heap.size w (w.alloc (.cells #[.int .i64 o.kind,.int .i64 o.atN,.int .i64 o.atR,.int .i64 o.nodeN,.int .i64 o.nodeR,.int .i64 o.parN,.int .i64 o.parR,.slice k1 o.key.length d1,.int .i64 o.elem,.slice k2 o.name.length d2,.slice k3 o.text.length d3,.bool o.gone] 83)):=(Below.refl _ _).alloc (Nat.le_refl _) _
 have lb:=Loc.made w #[.int .i64 o.kind,.int .i64 o.atN,.int .i64 o.atR,.int .i64 o.nodeN,.int .i64 o.nodeR,.int .i64 o.parN,.int .i64 o.parR,.slice k1 o.key.length d1,.int .i64 o.elem,.slice k2 o.name.length d2,.slice k3 o.text.length d3,.bool o.gone] 83
 have hq1:=h.keep hA
 have b0:=lb.cell 0
 have b3:=lb.cell 3
 have b4:=lb.cell 4
 have HF:=hide (zcj hq1 o.node hno)
 unfold OpV.node zap at HF
 have hgl:=h.set.lt
 have hml:=h.map.lt
 have hFl:=OwPlsM.lt h.row
 have hkl:k<l.length:=(posP_some.1 hp).1
 have hdo:=zhn (o:=o) (by omega) hp hkl
 have hk0:¬ o.kind=0:=by omega
 have HX:=hide (And.intro hA (And.intro hdo (And.intro hq1 (And.intro hp (And.intro lb (And.intro (hw0.trans (hA.mono hw0.size)) (And.intro h1 (And.intro h2 h3))))))))
 have HGL:=hide hG
 clear hG
 have HKK:=hide hk
 clear hk
 clear h hq1 hA lb hw0 h1 h2 h3 hdo ho hno hp
 go_enter Tryz.func88,Tryz.ntmps88
 go_wp2_with fail
 refine (zaa HF).mono ?_
 rintro e w2 ⟨_,hs2_,hb2⟩
 obtain⟨hA,hdo,hq1,hp,lb,hw0,h1,h2,h3⟩:=zaa HX
 obtain⟨gr,rfl,rfl⟩:=hs2_ k hp
 have hs:=hq1.keep hb2
 have lb2:=lb.all hb2
 have hw2:=hw0.trans (hb2.mono hw0.size)
 have hA2:=zad hA hb2
 have hB2_:B≤w2.heap.size:=by have:=hs.geg;have:=hs.set.lt;omega
 have hge:∀q∈g::mb::F,B≤q:=fun q hq=>by rcases List.mem_cons.1 hq with rfl | hq;(exact hs.geg);(rcases List.mem_cons.1 hq with rfl | hq;(exact hs.gem);(exact hs.ge q hq))
 clear HX HF hs2_ hb2 hA hq1 lb hw0 b0 b3 b4
 have b0:=lb2.cell 0
 have hk:=zaa HKK
 rw [hk]at b0
 have b3:=lb2.cell 3
 have b4:=lb2.cell 4
 have b5:=lb2.cell 5
 have b6:=lb2.cell 6
 have hme:=zsn hFr hp
 have HM:=hide (zld hs hFr ((zaa HGL).keep hA2) hB2 o.node o.par hpa)
 unfold OpV.node OpV.par zap at HM
 have HX2:=hide (And.intro hs (And.intro hA2 (And.intro hdo (And.intro lb2 (And.intro hw2 (And.intro h1 hme))))))
 have hbx:w.heap.size<w2.heap.size:=lb2.lt
 clear hs hA2 hdo lb2 hw2 h1 h2 h3 hme
 go_wp2_with fail
 refine (zaa HM).mono ?_
 rintro e w3 ⟨rfl,hs3_,hf3⟩
 obtain⟨hs,hA2,hdo,lb2,hw2,h1,hme⟩:=zaa HX2
 have lb3:=lb2.frm hf3 (by simp;omega)
 have hfa:Frm w w3 [g]:=(Frm.ofBelow hA2 [g]).trans hf3
 have hw3:Below w0.heap.size w0 w3:=hw2.trans (hf3.below hw2.size (fun q hq=>by have e9:q=g:=(by simpa using hq);have:=hge g (by simp);omega))
 have hs23:=hf3.size
 clear HX2 HM hs lb2 hw2 hf3 b0 b3 b4 b5 b6
 cases hm:mayI l (o.nodeN,o.nodeR) (o.parN,o.parR)with
 | false=>
  have hdo2:doV l o=l:=by rw [hdo,if_pos hk,hme,show mayI l o.node o.par=false from hm];rfl
  have HE:=hide (zaa HQ (.returned (.tuple #[])) w3 ⟨rfl,_,_,F,by rw [hdo2];exact hs3_,hfa.mono (fun q hq=>by have e9:q=g:=(by simpa using hq);simp [e9]),fun q hq=>.inl hq⟩)
  clear hs3_ hfa lb3 hw3 hdo hdo2 hme hm HQ hA2
  go_wp2_with fail
  go_end0
  exact zaa HE
 | true=>
  have hdo2:doV l o=l.set k (zdp o l[k]):=by rw [hdo,if_pos hk,hme,show mayI l o.node o.par=true from hm];rfl
  clear hdo hme hm
  have hd:Below w3.heap.size w3 w3.drew:=(Below.refl _ _).drew
  obtain⟨Cs,C,G,hR,hC,hGN,hGF,hgF,hgG,hcl⟩:=hs3_.upd hkl
  have hlt3:=OwPlsM.lt hs3_.row
  have hgl3:=hlt3 gr hgF
  have hFl3:=hFl gr hgF
  have hnb:w.heap.size≠gr:=by omega
  have HC:=hide (zgF w3.drew _ o.key (h1.keep (hw3.trans (hd.mono hw3.size))) (by omega))
  have d5:w3.drew.cell? ⟨w.heap.size,5,none⟩=some (.int .i64 o.parN):=(lb3.all hd).cell 5
  have d6:w3.drew.cell? ⟨w.heap.size,6,none⟩=some (.int .i64 o.parR):=(lb3.all hd).cell 6
  have d7:w3.drew.cell? ⟨w.heap.size,7,none⟩=some (.slice k1 o.key.length d1):=(lb3.all hd).cell 7
  have HK:=hide (fun (W:World) (hW:Below w3.heap.size w3 W)=>And.intro (lb3.all hW) (hR.frm (Frm.ofBelow hW []) (by simp)))
  obtain⟨K,N,T,A,Fa,eC,q1,q2,q3,q4,eG⟩:=hC
  obtain⟨_,_,eK,_⟩:=q1.ints.shape
  have HY:=hide (And.intro hs3_ (And.intro hfa (And.intro hdo2 (And.intro q1 (And.intro q2 (And.intro q3 (And.intro q4 (And.intro eG (And.intro hGN (And.intro hGF hlt3))))))))))
  have HCL:=hide hcl
  clear hs3_ hfa hdo2 lb3 hw3 hcl q1 q2 q3 q4 eG hGN hGF hlt3 hR h1 hA2
  go_wp2_with fail
  go_region_held3 (fun w'=>w'.cell? ⟨w.heap.size,5,none⟩=some (.int .i64 o.parN)∧w'.cell? ⟨w.heap.size,6,none⟩=some (.int .i64 o.parR)∧w'.cell? ⟨w.heap.size,7,none⟩=some (.slice k1 o.key.length d1))
   (first | exact⟨by assumption,by assumption,by assumption⟩ | simp [*])
   (first
    | (go_at_call 122;refine (zaa HC).mono ?_;clear HC;rintro e w5 ⟨a5,c5,rfl,ho5,hb5⟩;have hK5:=zad hd hb5;have lb5:=(zaa HK w5 hK5).1;have hR5:=(zaa HK w5 hK5).2;have x5:=lb5.cell 5;have x6:=lb5.cell 6;have x7:=lb5.cell 7;have y2:=hR5.cell 2 (by omega);have y3:=hR5.cell 3 (by omega);have y4:=hR5.cell 4 (by omega);rw [eC]at y2 y3 y4;rw [eK]at y4;have z2:=hR5.frozen (k*9+2);have z3:=hR5.frozen (k*9+3);have z4:=hR5.frozen (k*9+4);have lbS:=(lb5.other gr (k*9+2) (.int .i64 o.parN) hnb).other gr (k*9+3) (.int .i64 o.parR) hnb;have hRS:=(hR5.put 2 (by omega) (.int .i64 o.parN)).put 3 (by omega) (.int .i64 o.parR);have s5:=lbS.cell 5;have s6:=lbS.cell 6;have s7:=lbS.cell 7;have v4:=hRS.cell 4 (by omega);rw [eC]at v4;rw [eK]at v4;have u4:=hRS.frozen (k*9+4);have lbT:=lbS.other gr (k*9+4) (.slice a5 o.key.length c5) hnb;have t5:=lbT.cell 5;have t6:=lbT.cell 6;have t7:=lbT.cell 7;have HRT:=hide (hRS.put 4 (by omega) (.slice a5 o.key.length c5));clear lb5 hR5 lbS hRS lbT))
  all_goals
   obtain⟨hs3_,hfa,hdo2,q1,q2,q3,q4,eG,hGN,hGF,hlt3⟩:=zaa HY
   have hRT:=zaa HRT
   clear x5 x6 x7 y2 y3 y4 z2 z3 z4 s5 s6 s7 v4 u4 t5 t6 t7 HRT HY HK d5 d6 d7
   have fs:Frm w5 (((w5.setCell ⟨gr,k*9+2,none⟩ (.int .i64 o.parN)).setCell ⟨gr,k*9+3,none⟩ (.int .i64 o.parR)).setCell ⟨gr,k*9+4,none⟩ (.slice a5 o.key.length c5)) [gr]:=((zab _ gr _ _).trans (zab _ gr _ _)).trans (zab _ gr _ _)
   have hf35:=(Frm.ofBelow hK5 [gr]).trans fs
   have hnew:∀q∈FB (.slice a5 o.key.length c5),w3.heap.size≤q:=fun q hq=>(ho5.lt q (by simpa [FB]using hq)).1
   have hng:∀q∈G,q∉[gr]:=fun q hq e=>by have e9:q=gr:=(by simpa using e);exact hgG (by rw [←e9];exact hq)
   have hB3:B≤w3.heap.size:=by omega
   obtain⟨F',g1,g2⟩:=(zaa HCL) _ [gr] _ (zdp o l[k]) (FB (.slice a5 o.key.length c5)++FB N++FB T++Fa) hRT hf35 (fun q hq=>.inl (by simpa using hq))
    (by rw [eC];exact⟨_,N,T,A,Fa,rfl,⟨ho5.1,zah (zbk ho5.2 0 (Nat.zero_le _)) fs (fun q hq e=>by have e9:q=gr:=(by simpa using e);have:=hnew q hq;omega)⟩,q2.frm hf35 (fun q hq=>hng q (by rw [eG];simp [hq])),q3.frm hf35 (fun q hq=>hng q (by rw [eG];simp [hq])),OwAttrs.frm q4 hf35 (fun q hq=>hng q (by rw [eG];simp [hq])),rfl⟩)
    (by
     have h9:=zlN (X:=[]) (T:=FB K) (T':=FB (.slice a5 o.key.length c5)) (Y:=FB N++FB T++Fa) (by rw [List.nil_append];rw [eG]at hGN;simpa [List.append_assoc]using hGN) (zaE _) (fun q hq e=>by have:=hnew q hq;have:=hlt3 q (hGF q (by rw [eG];simpa [List.append_assoc]using e));omega)
     simpa [List.append_assoc]using h9)
    (fun q hq=>by
     rw [List.append_assoc,List.append_assoc]at hq
     rcases List.mem_append.1 hq with hq | hq
     ·exact .inr ⟨fun e=>by have:=hnew q hq;have:=hlt3 q e;omega,by have:=hnew q hq;omega⟩
     ·exact .inl (by rw [eG,List.append_assoc,List.append_assoc];exact List.mem_append_right _ hq))
    rfl hpa
   have HE:=hide (zaa HQ (.returned (.tuple #[])) _ ⟨rfl,_,_,F',by rw [hdo2];exact g1,(hfa.mono (fun q hq=>by have e9:q=g:=(by simpa using hq);simp [e9])).trans (hf35.mono (fun q hq=>by have e9:q=gr:=(by simpa using hq);rw [e9];simp [hgF])),fun q hq=>by
    rcases g2 q hq with e | e
    ·exact .inl e
    ·rw [List.append_assoc,List.append_assoc]at e
     rcases List.mem_append.1 e with e | e
     ·have:=hnew q e;right;omega
     ·exact .inl (hGF q (by rw [eG,List.append_assoc,List.append_assoc];exact List.mem_append_right _ e))⟩)
   clear HQ HCL hs3_ hfa hdo2 q1 q2 q3 q4 g1 g2 fs hf35 hRT ho5
   go_wp2_with fail
   go_end0
   exact zaa HE
theorem zrV {B:Nat} {w0 w:World} {g mb:Nat} {a:Option Addr} {c:Nat} {l:List PlV} {F:List Nat} (h:FoS B w g mb a c l F) (hB0:w0.heap.size≤B) (hw0:Below w0.heap.size w0 w) (o:OpV) (k1 k2 k3:Option Addr) (d1 d2 d3:Nat)
  (h1:Ints w0 (.slice k1 o.key.length d1) o.key) (h2:Byt w0 (.slice k2 o.name.length d2) o.name) (h3:Byt w0 (.slice k3 o.text.length d3) o.text) (hs1:o.key.length≤1000000) (hs2:o.name.length≤1000000) (hs3:o.text.length≤1000000) (ho:opB o=true) (hFr:Fr l) (hAt:AtI l) (hK2:Kd2 l) (hG:Glo w) (hB2:2≤B) (hnew:o.kind=0→posP l o.at'=none) (hlen:l.length+1≤100000) :
  Calls Tryz.prog 88 #[.pointer (some ⟨g,0,none⟩),.agg #[.int .i64 o.kind,.int .i64 o.atN,.int .i64 o.atR,.int .i64 o.nodeN,.int .i64 o.nodeR,.int .i64 o.parN,.int .i64 o.parR,.slice k1 o.key.length d1,.int .i64 o.elem,.slice k2 o.name.length d2,.slice k3 o.text.length d3,.bool o.gone]] w fun e w'=>e=.returned (.tuple #[])∧FoT B w g mb (doV l o) F w':=by
 rcases zhY ho with hk | hk | hk | hk
 ·exact zsi h hB0 hw0 o k1 k2 k3 d1 d2 d3 h1 h2 h3 hs1 hs2 hs3 ho hk (hnew hk) hlen
 ·obtain⟨hno,hpa⟩:=zrh ho hk
  cases hp:posP l o.node with
  | none=>exact zid h hB0 hw0 o k1 k2 k3 d1 d2 d3 h1 h2 h3 hs1 hs2 hs3 ho (.inl hk) hno hp
  | some k=>exact zro h hB0 hw0 o k1 k2 k3 d1 d2 d3 h1 h2 h3 hs1 hs2 hs3 ho hk hno hpa hFr hG hB2 k hp
 ·have hno:=zrA ho hk
  cases hp:posP l o.node with
  | none=>exact zid h hB0 hw0 o k1 k2 k3 d1 d2 d3 h1 h2 h3 hs1 hs2 hs3 ho (.inr (.inl hk)) hno hp
  | some k=>exact zrG h hB0 hw0 o k1 k2 k3 d1 d2 d3 h1 h2 h3 hs1 hs2 hs3 ho hk hno hK2 k hp
 ·obtain⟨hno,hnm⟩:=zri ho hk
  cases hp:posP l o.node with
  | none=>exact zid h hB0 hw0 o k1 k2 k3 d1 d2 d3 h1 h2 h3 hs1 hs2 hs3 ho (.inr (.inr hk)) hno hp
  | some k=>exact zrE h hB0 hw0 o k1 k2 k3 d1 d2 d3 h1 h2 h3 hs1 hs2 hs3 ho hk hno hnm hFr hAt hG k hp
def zgm (n:Nat):Prop:=∀(w0:World) (B:Nat) (w:World) (g mb:Nat) (a:Option Addr) (c:Nat) (l:List PlV) (F:List Nat) (iN iR:Int) (ks:List (Tr n)) (a4:Option Addr) (c4:Nat),w0.heap.size≤B→Below w0.heap.size w0 w→FoS B w g mb a c l F→RdKids n w0 (.slice a4 ks.length c4) ks→okI (iN,iR)→SeedIds l→(zaz n (iN,iR) ks l).length≤100000→(∀x∈ks,szT n x≤2097152)→
  Calls Tryz.prog 87 #[.pointer (some ⟨g,0,none⟩),.agg #[.int .i64 iN,.int .i64 iR],.slice a4 ks.length c4] w fun e w'=>e=.returned (.tuple #[])∧FoT B w g mb (zaz n (iN,iR) ks l) F w'
def Aj4 (w3:World) (g kb:Nat) (a_:Option Addr) (c_:Nat) (m:List PlV) {n:Nat} (x:Nd (Tr n)) (ad1 ad2 ad3 ad4:Option Addr) (cp1 cp2 cp3 cp4:Nat) (s1 s2 s3 s4 s5 s6 s9 s10 s11 s12 s13 s14 s15 s24 s25 s26 s27 s28 s29 s30 s31 s32 s33 s34 s35 s36 s37 s38 s39:Value) (L:Array Bool) (a:Act) (w:World):Prop:=
 ∀C:Prop,(∀(b0 b1 b2 b3 b4 b5 b6 b7 b8 b9:Bool) (x8 x16 x17 x18 x19 x20 x21 x22 x23:Value),L = #[b0,b1,b2,b3,b4,b5,b6,b7,b8,b9]→a={ tmps:= #[.pointer (some ⟨g,0,none⟩),s1,s2,s3,s4,s5,s6,.pointer (some ⟨kb,0,none⟩),x8,s9,s10,s11,s12,s13,s14,s15,x16,x17,x18,x19,x20,x21,x22,x23,s24,s25,s26,s27,s28,s29,s30,s31,s32,s33,s34,s35,s36,s37,s38,s39],defers:=[] }→Below w3.heap.size w3 w→(b0=true→x16=.pointer (some ⟨g,0,none⟩))→(b1=true→x17=.pointer (some ⟨g,0,none⟩))→(b2=true→x18=.pointer (some ⟨g,0,none⟩))→(b3=true→x19=.slice a_ m.length c_)→(b4=true→x20=.int .i64 (m.length:Int))→(b5=true→x21=.agg #[.int .i64 0,.int .i64 (m.length:Int)])→(b6=true→x22=.agg #[.int .i64 x.kind,.slice ad1 x.name.length cp1,.slice ad2 x.text.length cp2,.slice ad3 x.attrs.length cp3,.slice ad4 x.kids.length cp4])→(b7=true→∃p2 k2 p3 k3 p4 k4 Fa,x23=.agg #[.int .i64 0,.int .i64 (m.length:Int),.int .i64 0,.int .i64 0,.slice none 0 0,.int .i64 x.kind,.slice p2 x.name.length k2,.slice p3 x.text.length k3,.slice p4 x.attrs.length k4]∧Own w 0 (.slice p2 x.name.length k2) x.name∧Own w 0 (.slice p3 x.text.length k3) x.text∧OwAttrs w (.slice p4 x.attrs.length k4) x.attrs Fa∧(FB (.slice p2 x.name.length k2)++FB (.slice p3 x.text.length k3)++Fa).Nodup∧(∀q∈FB (.slice p2 x.name.length k2)++FB (.slice p3 x.text.length k3)++Fa,w3.heap.size≤q))→(b8=true→∃pb,x8=.pointer (some ⟨pb,0,none⟩)∧w3.heap.size≤pb∧(b9=false→Loc w pb #[.int .i64 0,.int .i64 0,.int .i64 0,.int .i64 0,.slice none 0 0,.int .i64 0,.slice none 0 0,.slice none 0 0,.slice none 0 0] 117))→(b9=true→b8=true∧∃pb p2 k2 p3 k3 p4 k4 Fa,x8=.pointer (some ⟨pb,0,none⟩)∧Loc w pb #[.int .i64 0,.int .i64 (m.length:Int),.int .i64 0,.int .i64 0,.slice none 0 0,.int .i64 x.kind,.slice p2 x.name.length k2,.slice p3 x.text.length k3,.slice p4 x.attrs.length k4] 117∧Own w 0 (.slice p2 x.name.length k2) x.name∧Own w 0 (.slice p3 x.text.length k3) x.text∧OwAttrs w (.slice p4 x.attrs.length k4) x.attrs Fa∧(FB (.slice p2 x.name.length k2)++FB (.slice p3 x.text.length k3)++Fa).Nodup∧(∀q∈FB (.slice p2 x.name.length k2)++FB (.slice p3 x.text.length k3)++Fa,w3.heap.size≤q))→C)→C
theorem zoE {i:Nat} (h:i<10):i=0∨i=1∨i=2∨i=3∨i=4∨i=5∨i=6∨i=7∨i=8∨i=9:=by omega
set_option maxHeartbeats 25600000 in
theorem zjI (n:Nat) (hI:zgm n):zgm (n+1):=by
 intro w0 B w g mb a c l F iN iR ks a4 c4 hB0 hw0 h hK hi hS hN hZ
 refine zaf ?_
 intro Q HQ
 have HI:=hide hI
 have hA:Below w.heap.size w (w.alloc (.cells #[.int .i64 iN,.int .i64 iR] 81)):=(Below.refl _ _).alloc (Nat.le_refl _) _
 have l0:=Loc.made w #[.int .i64 iN,.int .i64 iR] 81
 have LL:=hide (And.intro hA (And.intro l0 (And.intro (h.keep hA) (show (w.alloc (.cells #[.int .i64 iN,.int .i64 iR] 81)).heap.size=w.heap.size+1 by simp))))
 obtain⟨R,hR⟩:∃R,R=zaz (n+1) (iN,iR) ks l:=⟨_,rfl⟩
 rw [←hR]at HQ
 have HR:=hide hR
 have hjl:∀j,(zbg n (iN,iR) ks l j).length≤100000:=fun j=>Nat.le_trans (zjC n (iN,iR) ks l j) hN
 have hK63:ks.length≤maxLen:=hK.1
 unfold maxLen at hK63
 have HGF:=hide (show g<w.heap.size∧mb<w.heap.size∧(∀q∈F,q<w.heap.size)∧(∀q∈g::mb::F,B≤q) from ⟨h.set.lt,h.map.lt,OwPlsM.lt h.row,fun q hq=>by rcases List.mem_cons.1 hq with rfl | hq;(exact h.geg);(rcases List.mem_cons.1 hq with rfl | hq;(exact h.gem);(exact h.ge q hq))⟩)
 have HK:=hide (And.intro hK (And.intro hi (And.intro hS (And.intro hjl (And.intro hZ (And.intro hB0 hw0))))))
 clear hA l0 hR hK hI hjl hN h hi hS hZ hB0 hw0
 go_enter Tryz.func87,Tryz.ntmps87
 go_wp2_with fail
 obtain⟨hA,l0,h1,hsz1⟩:=zaa LL
 clear LL
 generalize (w.alloc (.cells #[.int .i64 iN,.int .i64 iR] 81))=w1 at *
 go_loopw [11] (fun xv wr=>∃(j:Nat) (a':Option Addr) (c':Nat) (F':List Nat),j≤ks.length∧xv=.int .i64 (j:Int)∧FoS B wr g mb a' c' (zbg n (iN,iR) ks l j) F'∧Frm w wr (g::mb::F)∧(∀q∈F',q∈F∨w.heap.size+1≤q)∧Loc wr w.heap.size #[.int .i64 iN,.int .i64 iR] 81) (fun xv _=>((ks.length:Int)-intOf xv).toNat)
 case atStart=>exact⟨0,a,c,F,Nat.zero_le _,rfl,h1,Frm.ofBelow hA _,fun q hq=>.inl hq,l0⟩
 case round=>
  clear l0 h1 hA
  obtain⟨j,a',c',F',hj,rfl,hs,hf,hF',l0⟩:=hrel
  by_cases hlt:j<ks.length
  ·have hlt':(j:Int)<(ks.length:Int):=by omega
   have hj0:(0:Int)≤(j:Int):=by omega
   obtain⟨bk,off,rfl,hb9,_,_,C,hC,hcell,hrd⟩:=Elems.at (zaa HK).1 hlt
   obtain⟨x,hx⟩:∃x:Nd (Tr n),x=ks[j]:=⟨_,rfl⟩
   have hnext:zbg n (iN,iR) ks l (j+1)=zaW n (iN,iR) (zbg n (iN,iR) ks l j) (x,j):=by rw [hx];exact zhL n (iN,iR) ks l hlt
   have hsx:szT (n+1) x≤2097152:=(zaa HK).2.2.2.2.1 x (by rw [hx];exact List.getElem_mem hlt)
   replace hrd:RdNode (n+1) w0 C x:=by rw [hx];exact hrd
   have hrd0:=hrd
   obtain⟨_,_,_,_,eC,_,_,q1,q2,q3,q4⟩:=hrd
   obtain⟨ad1,cp1,rfl,_⟩:=q1.shape
   obtain⟨ad2,cp2,rfl,_⟩:=q2.shape
   obtain⟨ad3,cp3,rfl,_⟩:=Elems.shape q3
   obtain⟨ad4,cp4,rfl,_⟩:=Elems.shape q4
   have h06:Below w0.heap.size w0 wr:=(zaa HK).2.2.2.2.2.2.trans (hf.below (zaa HK).2.2.2.2.2.2.size (fun q hq=>Nat.le_trans (zaa HK).2.2.2.2.2.1 ((zaa HGF).2.2.2 q hq)))
   have v0_:wr.cell? ⟨bk,off+j*5,none⟩=some (.int .i64 x.kind):=by have h7:=hcell 0 (by decide);rw [eC]at h7;simp only [List.getElem?_cons_zero,Nat.add_zero]at h7;exact (h06.cell (p:=⟨bk,off+j*5,none⟩) hb9).trans h7
   have v1_:wr.cell? ⟨bk,off+j*5+1,none⟩=some (.slice ad1 x.name.length cp1):=by have h7:=hcell 1 (by decide);rw [eC]at h7;simp only [List.getElem?_cons_zero,List.getElem?_cons_succ]at h7;exact (h06.cell (p:=⟨bk,off+j*5+1,none⟩) hb9).trans h7
   have v2_:wr.cell? ⟨bk,off+j*5+2,none⟩=some (.slice ad2 x.text.length cp2):=by have h7:=hcell 2 (by decide);rw [eC]at h7;simp only [List.getElem?_cons_zero,List.getElem?_cons_succ]at h7;exact (h06.cell (p:=⟨bk,off+j*5+2,none⟩) hb9).trans h7
   have v3_:wr.cell? ⟨bk,off+j*5+3,none⟩=some (.slice ad3 x.attrs.length cp3):=by have h7:=hcell 3 (by decide);rw [eC]at h7;simp only [List.getElem?_cons_zero,List.getElem?_cons_succ]at h7;exact (h06.cell (p:=⟨bk,off+j*5+3,none⟩) hb9).trans h7
   have v4_:wr.cell? ⟨bk,off+j*5+4,none⟩=some (.slice ad4 x.kids.length cp4):=by have h7:=hcell 4 (by decide);rw [eC]at h7;simp only [List.getElem?_cons_zero,List.getElem?_cons_succ]at h7;exact (h06.cell (p:=⟨bk,off+j*5+4,none⟩) hb9).trans h7
   have hAa:Below wr.heap.size wr (wr.alloc (.cells #[.int .i64 x.kind,.slice ad1 x.name.length cp1,.slice ad2 x.text.length cp2,.slice ad3 x.attrs.length cp3,.slice ad4 x.kids.length cp4] 37)):=(Below.refl _ _).alloc (Nat.le_refl _) _
   rw [eC]at hrd0
   have LL:=hide (And.intro (Loc.made wr #[.int .i64 x.kind,.slice ad1 x.name.length cp1,.slice ad2 x.text.length cp2,.slice ad3 x.attrs.length cp3,.slice ad4 x.kids.length cp4] 37) (And.intro (hs.keep hAa) (And.intro (hf.moreS (Frm.ofBelow hAa []) (fun q hq=>by cases hq)) (And.intro (l0.all hAa) (And.intro (hrd0.keep (zad h06 hAa)) (And.intro (zad h06 hAa) (show wr.heap.size<(wr.alloc (.cells #[.int .i64 x.kind,.slice ad1 x.name.length cp1,.slice ad2 x.text.length cp2,.slice ad3 x.attrs.length cp3,.slice ad4 x.kids.length cp4] 37)).heap.size by simp)))))))
   have HN:=hide hnext
   have HQ4:=hide q4
   have HFK:=hide (show ∀q∈F',q<wr.heap.size from fun q hq=>OwPlsM.lt hs.row q hq)
   have LW:=hide (show w.heap.size+1≤wr.heap.size from l0.lt)
   have HSJ:=hide (SeedIds.J n (iN,iR) ks l j (zaa HK).2.2.1)
   have hml:=(zaa HK).2.2.2.1 j
   clear hs hf l0 hAa hnext q1 q2 q3 q4 eC hcell hx h06 hrd0
   generalize hml':zbg n (iN,iR) ks l j=m at *
   go_upto_region 4 with fail
   obtain⟨lk,hs,hf,l0,hrd3,h03,hw3⟩:=zaa LL
   clear LL v0_ v1_ v2_ v3_ v4_
   have hkb0:=zaa LW
   clear LW
   generalize wr.alloc (.cells #[.int .i64 x.kind,.slice ad1 x.name.length cp1,.slice ad2 x.text.length cp2,.slice ad3 x.attrs.length cp3,.slice ad4 x.kids.length cp4] 37)=w3 at *
   generalize wr.heap.size=kb at *
   have hFk:∀q∈F',q<kb:=zaa HFK
   clear HFK
   obtain⟨cs3,lg3,hc3,_⟩:=hs.set.loc
   have y0:w3.cell? ⟨g,0,none⟩=some (.slice a' m.length c'):=(lg3.cell 0).trans hc3
   have k0_0:=lk.cell 0
   have k1_0:=lk.cell 1
   have k2_0:=lk.cell 2
   have k3_0:=lk.cell 3
   have k4_0:=lk.cell 4
   have gz3:=hs.set.lt
   have kb3:=lk.lt
   have HX:=hide (And.intro lk (And.intro hs (And.intro hf (And.intro l0 h03))))
   clear lk hs hf l0 lg3 hc3 h03
   refine zbN (by kernel_rfl) (Aj4 w3 g kb a' c' m x ad1 ad2 ad3 ad4 cp1 cp2 cp3 cp4 (.agg #[.int .i64 iN,.int .i64 iR]) (.slice (some ⟨bk,off,none⟩) ks.length c4) (undef) (.pointer (some ⟨w.heap.size,0,none⟩)) (undef) (.int .i64 (j:Int)) (.slice (some ⟨bk,off,none⟩) ks.length c4) (.int .i64 (ks.length:Int)) (.int .i64 (j:Int)) (.bool true) (.int .i64 (j:Int)) (.pointer (some ⟨bk,off+j*5,none⟩)) (.agg #[.int .i64 x.kind,.slice ad1 x.name.length cp1,.slice ad2 x.text.length cp2,.slice ad3 x.attrs.length cp3,.slice ad4 x.kids.length cp4]) (u24) (u25) (u26) (u27) (u28) (u29) (u30) (u31) (u32) (u33) (u34) (u35) (u36) (u37) (u38) (u39)) ?sz ?h0 ?stp ?dn
   case sz=>
    intro L a w hI
    refine hI _ ?_
    intro b0 b1 b2 b3 b4 b5 b6 b7 b8 b9 x8 x16 x17 x18 x19 x20 x21 x22 x23 eL eA h0 f0 f1 f2 f3 f4 f5 f6 f7 f8 f9
    subst eL
    rfl
   case h0=>
    exact fun _ k_=>k_ false false false false false false false false false false _ _ _ _ _ _ _ _ _ rfl rfl ((Below.refl _ _).drew) (fun h=>by cases h) (fun h=>by cases h) (fun h=>by cases h) (fun h=>by cases h) (fun h=>by cases h) (fun h=>by cases h) (fun h=>by cases h) (fun h=>by cases h) (fun h=>by cases h) (fun h=>by cases h)
   case stp=>
    intro L a_9 w9_ i_ o_ hI hi ho
    refine hI _ ?_
    clear hI
    intro b0 b1 b2 b3 b4 b5 b6 b7 b8 b9 x8 x16 x17 x18 x19 x20 x21 x22 x23 eL eA h0 f0 f1 f2 f3 f4 f5 f6 f7 f8 f9
    subst eL eA
    rcases zoE (zcx hi)with rfl | rfl | rfl | rfl | rfl | rfl | rfl | rfl | rfl | rfl
    ·obtain rfl:=Option.some.inj ho
     go_simp
     exact fun _ k_=>k_ true b1 b2 b3 b4 b5 b6 b7 b8 b9 x8 _ x17 x18 x19 x20 x21 x22 x23 rfl rfl h0 (fun _=>rfl) f1 f2 f3 f4 f5 f6 f7 f8 f9
    ·have g0:=zac hi ho 0
     obtain rfl:=Option.some.inj ho
     have e0:=f0 (g0 (by kernel_rfl))
     subst e0
     go_simp
     exact fun _ k_=>k_ b0 true b2 b3 b4 b5 b6 b7 b8 b9 x8 _ _ x18 x19 x20 x21 x22 x23 rfl rfl h0 f0 (fun _=>rfl) f2 f3 f4 f5 f6 f7 f8 f9
    ·have g1:=zac hi ho 1
     obtain rfl:=Option.some.inj ho
     have e1:=f1 (g1 (by kernel_rfl))
     subst e1
     go_simp
     exact fun _ k_=>k_ b0 b1 true b3 b4 b5 b6 b7 b8 b9 x8 x16 _ _ x19 x20 x21 x22 x23 rfl rfl h0 f0 f1 (fun _=>rfl) f3 f4 f5 f6 f7 f8 f9
    ·have g2:=zac hi ho 2
     obtain rfl:=Option.some.inj ho
     have e2:=f2 (g2 (by kernel_rfl))
     subst e2
     have y0_:=(h0.cell (p:=⟨g,0,none⟩) gz3).trans y0
     go_simp
     exact fun _ k_=>k_ b0 b1 b2 true b4 b5 b6 b7 b8 b9 x8 x16 x17 _ _ x20 x21 x22 x23 rfl rfl h0 f0 f1 f2 (fun _=>rfl) f4 f5 f6 f7 f8 f9
    ·have g3:=zac hi ho 3
     obtain rfl:=Option.some.inj ho
     have e3:=f3 (g3 (by kernel_rfl))
     subst e3
     go_simp
     exact fun _ k_=>k_ b0 b1 b2 b3 true b5 b6 b7 b8 b9 x8 x16 x17 x18 _ _ x21 x22 x23 rfl rfl h0 f0 f1 f2 f3 (fun _=>rfl) f5 f6 f7 f8 f9
    ·have g4:=zac hi ho 4
     obtain rfl:=Option.some.inj ho
     have e4:=f4 (g4 (by kernel_rfl))
     subst e4
     go_simp
     exact fun _ k_=>k_ b0 b1 b2 b3 b4 true b6 b7 b8 b9 x8 x16 x17 x18 x19 _ _ x22 x23 rfl rfl h0 f0 f1 f2 f3 f4 (fun _=>rfl) f6 f7 f8 f9
    ·obtain rfl:=Option.some.inj ho
     have k0_:=(h0.cell (p:=⟨kb,0,none⟩) kb3).trans k0_0
     have k1_:=(h0.cell (p:=⟨kb,1,none⟩) kb3).trans k1_0
     have k2_:=(h0.cell (p:=⟨kb,2,none⟩) kb3).trans k2_0
     have k3_:=(h0.cell (p:=⟨kb,3,none⟩) kb3).trans k3_0
     have k4_:=(h0.cell (p:=⟨kb,4,none⟩) kb3).trans k4_0
     go_simp
     exact fun _ k_=>k_ b0 b1 b2 b3 b4 b5 true b7 b8 b9 x8 x16 x17 x18 x19 x20 x21 _ x23 rfl rfl h0 f0 f1 f2 f3 f4 f5 (fun _=>rfl) f7 f8 f9
    ·have g5:=zac hi ho 5
     have g6:=zac hi ho 6
     obtain rfl:=Option.some.inj ho
     have e5:=f5 (g5 (by kernel_rfl))
     have e6:=f6 (g6 (by kernel_rfl))
     subst e5 e6
     have HC:=hide (zeI n w9_ (0,(m.length:Int)) x _ _ _ _ (RdNode.keep (n:=n+1) hrd3 h0) hsx)
     unfold zap at HC
     have hw39:=h0.size
     go_simp
     refine (zaa HC).mono ?_
     rintro e w8 ⟨p2,k2,p3,k3,p4,k4,Fa,rfl,o1,o2,o3,o4,o5,hb9⟩
     exact fun _ k_=>k_ b0 b1 b2 b3 b4 b5 b6 true b8 b9 x8 x16 x17 x18 x19 x20 _ _ _ rfl rfl (zad h0 hb9) f0 f1 f2 f3 f4 (fun _=>rfl) (fun _=>rfl) (fun _=>⟨p2,k2,p3,k3,p4,k4,Fa,rfl,o1,o2,o3,o4,fun q hq=>Nat.le_trans hw39 (o5 q hq)⟩) (fun h=>by obtain⟨pb,e,hz,t⟩:=f8 h;exact⟨pb,e,hz,fun h=>(t h).all hb9⟩) (fun h=>by obtain⟨z,pb,p2,k2,p3,k3,p4,k4,Fa,e,l9,o1,o2,o3,o4,o5⟩:=f9 h;exact⟨z,pb,p2,k2,p3,k3,p4,k4,Fa,e,l9.all hb9,o1.keep hb9,o2.keep hb9,OwAttrs.frm o3 (Frm.ofBelow hb9 []) (fun _ _=>by simp),o4,o5⟩)
    ·have hbz:b8=false:=by simpa using zaj rfl hi
     obtain rfl:=Option.some.inj ho
     have hb9:Below w9_.heap.size w9_ (w9_.alloc (.cells #[.int .i64 0,.int .i64 0,.int .i64 0,.int .i64 0,.slice none 0 0,.int .i64 0,.slice none 0 0,.slice none 0 0,.slice none 0 0] 117)):=(Below.refl _ _).alloc (Nat.le_refl _) _
     have lm9:=Loc.made w9_ #[.int .i64 0,.int .i64 0,.int .i64 0,.int .i64 0,.slice none 0 0,.int .i64 0,.slice none 0 0,.slice none 0 0,.slice none 0 0] 117
     have hw9:=h0.size
     have HBZ:=hide hbz
     clear hbz
     go_simp
     exact fun _ k_=>k_ b0 b1 b2 b3 b4 b5 b6 b7 true b9 _ x16 x17 x18 x19 x20 x21 x22 x23 rfl rfl (zad h0 hb9) f0 f1 f2 f3 f4 f5 f6 (fun h=>by obtain⟨p2,k2,p3,k3,p4,k4,Fa,e,o1,o2,o3,o4,o5⟩:=f7 h;exact⟨p2,k2,p3,k3,p4,k4,Fa,e,o1.keep hb9,o2.keep hb9,OwAttrs.frm o3 (Frm.ofBelow hb9 []) (fun _ _=>by simp),o4,o5⟩) (fun _=>⟨w9_.heap.size,rfl,hw9,fun _=>lm9⟩) (fun h=>by have:=(f9 h).1;rw [zaa HBZ]at this;cases this)
    ·have g7:=zac hi ho 7
     have g8:=zac hi ho 8
     have hbz:b9=false:=by simpa using zaj rfl hi
     obtain rfl:=Option.some.inj ho
     have t8:b8=true:=g8 (by kernel_rfl)
     obtain⟨p2,k2,p3,k3,p4,k4,Fa,en,o1,o2,o3,o4,o5⟩:=f7 (g7 (by kernel_rfl))
     obtain⟨pb,ep,hp,lp0⟩:=f8 t8
     have lp:=lp0 hbz
     obtain⟨lpn,fpn⟩:=zki lp (.int .i64 0) (.int .i64 (m.length:Int)) (.int .i64 0) (.int .i64 0) (.slice none 0 0) (.int .i64 x.kind) (.slice p2 x.name.length k2) (.slice p3 x.text.length k3) (.slice p4 x.attrs.length k4)
     have hB9:=h0.trans (fpn.below h0.size (fun q hq=>by simp at hq;omega))
     have q1:=o1.frm fpn (fun q hq hq'=>zcA o1.2 lp (by decide) (by have e9:q=pb:=(by simpa using hq');rw [←e9];exact hq))
     have q2:=o2.frm fpn (fun q hq hq'=>zcA o2.2 lp (by decide) (by have e9:q=pb:=(by simpa using hq');rw [←e9];exact hq))
     have q3:=OwAttrs.frm o3 fpn (fun q hq hq'=>zhE o3 lp (by have e9:q=pb:=(by simpa using hq');rw [←e9];exact hq))
     have fz0:=lp.frozen 0
     have fz1:=lp.frozen 1
     have fz2:=lp.frozen 2
     have fz3:=lp.frozen 3
     have fz4:=lp.frozen 4
     have fz5:=lp.frozen 5
     have fz6:=lp.frozen 6
     have fz7:=lp.frozen 7
     have fz8:=lp.frozen 8
     have cz0:=lp.cell 0
     have cz1:=lp.cell 1
     have cz2:=lp.cell 2
     have cz3:=lp.cell 3
     have cz4:=lp.cell 4
     have cz5:=lp.cell 5
     have cz6:=lp.cell 6
     have cz7:=lp.cell 7
     have cz8:=lp.cell 8
     have HW:=hide (And.intro t8 (And.intro lpn (And.intro hB9 (And.intro q1 (And.intro q2 q3)))))
     clear t8 lpn fpn hB9 hbz lp lp0 q1 q2 q3 o1 o2 o3
     subst ep en
     go_simp
     exact fun _ k_=>k_ b0 b1 b2 b3 b4 b5 b6 b7 b8 true _ x16 x17 x18 x19 x20 x21 x22 _ rfl rfl ((zaa HW).2.2.1) f0 f1 f2 f3 f4 f5 f6 (fun _=>⟨p2,k2,p3,k3,p4,k4,Fa,rfl,(zaa HW).2.2.2.1,(zaa HW).2.2.2.2.1,(zaa HW).2.2.2.2.2,o4,o5⟩) (fun _=>⟨pb,rfl,hp,fun h=>by cases h⟩) (fun _=>⟨(zaa HW).1,pb,p2,k2,p3,k3,p4,k4,Fa,rfl,(zaa HW).2.1,(zaa HW).2.2.2.1,(zaa HW).2.2.2.2.1,(zaa HW).2.2.2.2.2,o4,o5⟩)
   case dn=>
    intro L a_9 w9_ hI hre
    have hall:=zbF (L:=L) (by refine hI _ ?_;intro b0 b1 b2 b3 b4 b5 b6 b7 b8 b9 x8 x16 x17 x18 x19 x20 x21 x22 x23 eL eA h0 f0 f1 f2 f3 f4 f5 f6 f7 f8 f9;subst eL;rfl) (by kernel_rfl) hre 10
    refine hI _ ?_
    clear hI
    intro b0 b1 b2 b3 b4 b5 b6 b7 b8 b9 x8 x16 x17 x18 x19 x20 x21 x22 x23 eL eA h0 f0 f1 f2 f3 f4 f5 f6 f7 f8 f9
    subst eL eA
    have t9:b9=true:=hall 9 (by omega) (by decide)
    obtain⟨t8,pb9,p2,k2,p3,k3,p4,k4,Fa,ep,lp5,o1,o2,o3,o4,o5⟩:=f9 t9
    obtain⟨pb',ep9,hp9,_⟩:=f8 t8
    have EP:=ep9.symm.trans ep
    injection EP with y1
    injection y1 with y1
    injection y1 with y1 _ _
    subst y1
    clear ep9
    subst ep
    obtain⟨lk,hs,hf,l0,h03⟩:=zaa HX
    clear HX hall hre t9 t8 f0 f1 f2 f3 f4 f5 f6 f7 f8 f9 y0 k0_0 k1_0 k2_0 k3_0 k4_0 hrd3
    replace lk:=lk.all h0
    replace l0:=l0.all h0
    have hgz:=hs.set.lt
    have hmz:=hs.map.lt
    replace hs:=hs.keep h0
    replace hf:=hf.moreS (Frm.ofBelow h0 []) (fun q hq=>by cases hq)
    replace h03:=h03.trans (h0.mono h03.size)
    have hw35:=h0.size
    clear h0
    obtain⟨w5,hw5⟩:∃w5,w5=w9_:=⟨_,rfl⟩
    rw [←hw5]at lp5 lk l0 hs hf o1 o2 o3 hw35 h03 ⊢
    clear hw5
    obtain⟨pb,hpb⟩:∃pb,pb=pb':=⟨_,rfl⟩
    rw [←hpb]at lp5 hp9 ⊢
    clear hpb
    have hwr:IntKind.i64.wrap ((j:Int)+1)=(j:Int)+1:=by rw [IntKind.wrap_i64];have:=hK63;omega
    have i0:=l0.cell 0
    have i1:=l0.cell 1
    have hb6:Below w5.heap.size w5 (w5.alloc (.cells #[.int .i64 ((j:Int)+1)] 3)):=(Below.refl _ _).alloc (Nat.le_refl _) _
    have lz:=Loc.made w5 #[.int .i64 ((j:Int)+1)] 3
    have lp6:=lp5.all hb6
    have z0:(w5.alloc (.cells #[.int .i64 ((j:Int)+1)] 3)).cell? ⟨pb,2,none⟩=_:=lp6.cell 2
    have z1:(w5.alloc (.cells #[.int .i64 ((j:Int)+1)] 3)).cell? ⟨pb,3,none⟩=_:=lp6.cell 3
    have z2:(w5.alloc (.cells #[.int .i64 ((j:Int)+1)] 3)).cell? ⟨pb,4,none⟩=_:=lp6.cell 4
    have i0':(w5.alloc (.cells #[.int .i64 ((j:Int)+1)] 3)).cell? ⟨w.heap.size,0,none⟩=_:=(l0.all hb6).cell 0
    have i1':(w5.alloc (.cells #[.int .i64 ((j:Int)+1)] 3)).cell? ⟨w.heap.size,1,none⟩=_:=(l0.all hb6).cell 1
    have zf0:=lp6.frozen 2
    have zf1:=lp6.frozen 3
    have zf2:=lp6.frozen 4
    have lp7:=((lp6.set 2 (.int .i64 iN)).set 3 (.int .i64 iR)).set 4 (.slice (some ⟨w5.heap.size,0,none⟩) 1 1)
    have f7:Frm (w5.alloc (.cells #[.int .i64 ((j:Int)+1)] 3)) ((((w5.alloc (.cells #[.int .i64 ((j:Int)+1)] 3)).setCell ⟨pb,2,none⟩ (.int .i64 iN)).setCell ⟨pb,3,none⟩ (.int .i64 iR)).setCell ⟨pb,4,none⟩ (.slice (some ⟨w5.heap.size,0,none⟩) 1 1)) [pb]:=((zab _ pb 2 _).trans (zab _ pb 3 _)).trans (zab _ pb 4 _)
    have HS:=hide (And.intro lp7 (And.intro f7 (And.intro hb6 (And.intro lz (And.intro lp5 (And.intro lk (And.intro l0 (And.intro hs (And.intro hf (And.intro o1 (And.intro o2 o3)))))))))))
    clear lp7 f7 hb6 lz lp5 lp6 lk l0 hs hf o1 o2 o3
    go_upto_region 6 with fail
    obtain⟨lp7,f7,hb6,lz,lp5,lk,l0,hs,hf,o1,o2,o3⟩:=zaa HS
    have hs6:(w5.alloc (.cells #[.int .i64 ((j:Int)+1)] 3)).heap.size=w5.heap.size+1:=by simp
    have hpz:=lp5.lt
    have hw6:(((((w5.alloc (.cells #[.int .i64 ((j:Int)+1)] 3)).setCell ⟨pb,2,none⟩ (.int .i64 iN)).setCell ⟨pb,3,none⟩ (.int .i64 iR)).setCell ⟨pb,4,none⟩ (.slice (some ⟨w5.heap.size,0,none⟩) 1 1))).heap.size=w5.heap.size+1:=by simp
    clear HS z0 z1 z2 zf0 zf1 zf2 i0 i1 i0' i1'
    generalize hWW:(((((w5.alloc (.cells #[.int .i64 ((j:Int)+1)] 3)).setCell ⟨pb,2,none⟩ (.int .i64 iN)).setCell ⟨pb,3,none⟩ (.int .i64 iR)).setCell ⟨pb,4,none⟩ (.slice (some ⟨w5.heap.size,0,none⟩) 1 1)))=w7 at *
    have hnpb:∀q,q<kb→q∉[pb]:=fun q hq e=>by have e9:q=pb:=(by simpa using e);omega
    have hs7:=(hs.keep hb6).frm f7 (hnpb g (by have:=hFk;have:=(zaa HGF).1;omega)) (hnpb mb (by have:=(zaa HGF).2.1;omega)) (fun q hq=>hnpb q (hFk q hq)) (fun q hq=>by have e9:q=pb:=(by simpa using hq);rw [e9];exact Cells.ofL (lp5.all hb6))
    have lk7:=(lk.all hb6).frm f7 (by simp;omega)
    have l07:=(l0.all hb6).frm f7 (by simp;omega)
    have lz7:=lz.frm f7 (by simp;omega)
    have o17:=(o1.keep hb6).frm f7 (fun q hq e=>by have e9:q=pb:=(by simpa using e);exact zcA o1.2 lp5 (by decide) (by rw [←e9];exact hq))
    have o27:=(o2.keep hb6).frm f7 (fun q hq e=>by have e9:q=pb:=(by simpa using e);exact zcA o2.2 lp5 (by decide) (by rw [←e9];exact hq))
    have o37:=OwAttrs.frm (OwAttrs.frm o3 (Frm.ofBelow hb6 []) (fun _ _=>by simp)) f7 (fun q hq e=>by have e9:q=pb:=(by simpa using e);exact zhE o3 lp5 (by rw [←e9];exact hq))
    have hoz:OwnZ w7 0 (.slice (some ⟨w5.heap.size,0,none⟩) 1 1) [(j:Int)+1]:=⟨fun q hq=>by simp at hq;omega,⟨rfl,.inr ⟨w5.heap.size,1,_,rfl,Nat.zero_le _,lz7,Nat.le_refl _,by decide,rfl,rfl⟩⟩⟩
    obtain⟨y,hy⟩:∃y,y=zaK m.length (iN,iR) x j:=⟨_,rfl⟩
    have hlt5:∀q∈FB (.slice p2 x.name.length k2)++FB (.slice p3 x.text.length k3)++Fa,q<w5.heap.size:=fun q hq=>by
     rcases List.mem_append.1 hq with hq | hq
     ·rcases List.mem_append.1 hq with hq | hq
      ·exact (o1.lt q (by simpa [FB]using hq)).2
      ·exact (o2.lt q (by simpa [FB]using hq)).2
     ·exact OwAttrs.lt o3 q hq
    have hPc:OwPlM w7 [.int .i64 0,.int .i64 (m.length:Int),.int .i64 iN,.int .i64 iR,.slice (some ⟨w5.heap.size,0,none⟩) 1 1,.int .i64 x.kind,.slice p2 x.name.length k2,.slice p3 x.text.length k3,.slice p4 x.attrs.length k4] y (FB (.slice (some ⟨w5.heap.size,0,none⟩) 1 1)++FB (.slice p2 x.name.length k2)++FB (.slice p3 x.text.length k3)++Fa):=by
     rw [hy]
     exact⟨_,_,_,_,Fa,rfl,hoz,o17.rowm,o27,o37,rfl⟩
    have hGz:FB (.slice (some ⟨w5.heap.size,0,none⟩) 1 1)=[w5.heap.size]:=rfl
    have hGm:∀q,q∈FB (.slice (some ⟨w5.heap.size,0,none⟩) 1 1)++FB (.slice p2 x.name.length k2)++FB (.slice p3 x.text.length k3)++Fa→q=w5.heap.size∨q∈FB (.slice p2 x.name.length k2)++FB (.slice p3 x.text.length k3)++Fa:=fun q hq=>by
     rw [hGz,List.append_assoc,List.append_assoc]at hq
     rcases List.mem_append.1 hq with hq | hq
     ·exact .inl (by simpa using hq)
     ·exact .inr (by rw [List.append_assoc];exact hq)
    have hGn:(FB (.slice (some ⟨w5.heap.size,0,none⟩) 1 1)++FB (.slice p2 x.name.length k2)++FB (.slice p3 x.text.length k3)++Fa).Nodup:=by
     rw [hGz,List.append_assoc,List.append_assoc]
     rw [List.append_assoc]at o4 hlt5
     exact List.nodup_append.2 ⟨by simp,o4,fun q hq q' hq' e=>by
      have e9:q=w5.heap.size:=by simpa using hq
      have:=hlt5 q' hq'
      omega⟩
    have hG3:∀q∈FB (.slice (some ⟨w5.heap.size,0,none⟩) 1 1)++FB (.slice p2 x.name.length k2)++FB (.slice p3 x.text.length k3)++Fa,w3.heap.size≤q:=fun q hq=>by
     rcases hGm q hq with e | e
     ·omega
     ·exact o5 q e
    have hgB:=hs.geg
    have hidy:okI y.id:=by rw [hy];exact zdi hml
    have hpary:okI y.par:=by rw [hy];exact (zaa HK).2.1
    have hNX:=zaa HN
    have hm5:m.length+1≤100000:=by
     have h7:=(zaa HK).2.2.2.1 (j+1)
     rw [hNX]at h7
     exact Nat.le_trans (zeW n (iN,iR) m (x,j)) h7
    have HNX:=hide (show zbg n (iN,iR) ks l (j+1)=zaz n (0,(m.length:Int)) x.kids (m++[y]) from hNX.trans (by rw [hy];rfl))
    have hkey:y.key.length=1:=by rw [hy];rfl
    have hlens:y.name=x.name∧y.text=x.text∧y.attrs=x.attrs∧y.kind=x.kind∧y.idN=0∧y.idR=(m.length:Int)∧y.parN=iN∧y.parR=iR:=by rw [hy];exact⟨rfl,rfl,rfl,rfl,rfl,rfl,rfl,rfl⟩
    obtain⟨e1,e2,e3,e4,e5,e6,e7,e8⟩:=hlens
    have HC:=zgs hs7 y (some ⟨w5.heap.size,0,none⟩) p2 p3 p4 1 k2 k3 k4 _ (by rw [e1,e2,e3,e4,e5,e6,e7,e8,hkey];exact hPc) hGn (fun q hq=>Nat.le_trans (Nat.le_trans hgB (Nat.le_of_lt hgz)) (hG3 q hq)) (fun q hq hq'=>by have:=hG3 q hq';have:=hFk q hq;omega) hidy hpary (by show posP m (y.idN,y.idR)=none;rw [e5,e6];exact (zaa HSJ).new) hm5
    rw [e1,e2,e3,e4,e5,e6,e7,e8,hkey]at HC
    have HC:=hide HC
    have c0:=lp7.cell 0
    have c1:=lp7.cell 1
    have c2:=lp7.cell 2
    have c3:=lp7.cell 3
    have c4:=lp7.cell 4
    have c5:=lp7.cell 5
    have c6:=lp7.cell 6
    have c7:=lp7.cell 7
    have c8:=lp7.cell 8
    have HZ:=hide (And.intro lp7 (And.intro lk7 (And.intro l07 (And.intro (hf.moreS (Frm.ofBelow hb6 []) (fun q hq=>by cases hq)) (And.intro f7 hG3)))))
    clear hy hNX hPc hoz hGn hGm hlt5 o1 o2 o3 o17 o27 o37 lz lz7 hs hs7 lp7 lk7 l07 lp5 lk l0 hf f7 hb6
    go_upto_region 7 with (go_at_call 58;refine (zaa HC).mono ?_;rintro e w8 ⟨rfl,a8,c8_,F8,hs8,hf8,hF8⟩)
    obtain⟨lp7,lk7,l07,hf,f7,hG3⟩:=zaa HZ
    have hN8:∀q,q<kb∨(kb≤q∧q<w3.heap.size)∨q=pb→q∉F'→q≠g→q≠mb→q∉g::mb::F':=fun q _ h1 h2 h3 e=>by
     rcases List.mem_cons.1 e with e | e
     ·exact h2 e
     ·rcases List.mem_cons.1 e with e | e
      ·exact h3 e
      ·exact h1 e
    have hgw:=(zaa HGF).1
    have hmw:=(zaa HGF).2.1
    have lk8:=lk7.frm hf8 (hN8 kb (.inr (.inl ⟨Nat.le_refl _,kb3⟩)) (fun e=>by have:=hFk kb e;omega) (by omega) (by omega))
    have lp8:=lp7.frm hf8 (hN8 pb (.inr (.inr rfl)) (fun e=>by have:=hFk pb e;omega) (by omega) (by omega))
    have l08:=l07.frm hf8 (hN8 w.heap.size (.inl (by omega)) (fun e=>by rcases hF' _ e with e | e;(have:=(zaa HGF).2.2.1 _ e;omega);omega) (by omega) (by omega))
    have hsub8:∀q∈g::mb::F',q∈g::mb::F∨w.heap.size≤q:=fun q hq=>by
     rcases List.mem_cons.1 hq with rfl | hq
     ·exact .inl (List.mem_cons_self ..)
     ·rcases List.mem_cons.1 hq with rfl | hq
      ·exact .inl (List.mem_cons_of_mem _ (List.mem_cons_self ..))
      ·rcases hF' q hq with e | e
       ·exact .inl (List.mem_cons_of_mem _ (List.mem_cons_of_mem _ e))
       ·right;omega
    have hf8w:=(hf.moreS f7 (fun q hq=>by have e9:q=pb:=(by simpa using hq);right;omega)).moreS hf8 hsub8
    have hF8w:∀q∈F8,q∈F∨w.heap.size+1≤q:=fun q hq=>by
     rcases hF8 q hq with e | e | e
     ·exact hF' q e
     ·have:=hG3 q e;right;omega
     ·right;omega
    have hge8:∀q∈g::mb::F,w0.heap.size≤q:=fun q hq=>Nat.le_trans (zaa HK).2.2.2.2.2.1 ((zaa HGF).2.2.2 q hq)
    have hw08:Below w0.heap.size w0 w8:=(zaa HK).2.2.2.2.2.2.trans (hf8w.below (zaa HK).2.2.2.2.2.2.size hge8)
    have hlen9:(zaz n (0,(m.length:Int)) x.kids (m++[y])).length≤100000:=by rw [←zaa HNX];exact (zaa HK).2.2.2.1 (j+1)
    have HC2:=hide (zaa HI w0 B w8 g mb a8 c8_ (m++[y]) F8 0 (m.length:Int) x.kids ad4 cp4 (zaa HK).2.2.2.2.2.1 hw08 hs8 (zaa HQ4) (zdi hml) ((zaa HSJ).snoc e5 e6) hlen9 (fun z hz=>Nat.le_trans (zlV hz) hsx))
    have k0:=lk8.cell 4
    have d0:=lp8.cell 0
    have d1:=lp8.cell 1
    have HY:=hide (And.intro l08 (And.intro hf8w hF8w))
    clear lk8 lp8 l08 hf8w hF8w hs8 hf8 hF8 hf f7 hG3 lp7 lk7 l07 HZ HC c0 c1 c2 c3 c4 c5 c6 c7 c8 hw08 hge8 hsub8 hN8
    go_wp2_with fail
    refine (zaa HC2).mono ?_
    rintro e w9 ⟨rfl,a9,c9,F9,hs9,hf9,hF9⟩
    obtain⟨l08,hf8w,hF8w⟩:=zaa HY
    have hs89:=hf8w.size
    have hl8:=l08.lt
    have l09:=l08.frm hf9 (fun e=>by
     rcases List.mem_cons.1 e with e | e
     ·omega
     ·rcases List.mem_cons.1 e with e | e
      ·omega
      ·rcases hF8w _ e with e | e
       ·have:=(zaa HGF).2.2.1 _ e;omega
       ·omega)
    have hf9w:=hf8w.moreS hf9 (fun q hq=>by
     rcases List.mem_cons.1 hq with rfl | hq
     ·exact .inl (List.mem_cons_self ..)
     ·rcases List.mem_cons.1 hq with rfl | hq
      ·exact .inl (List.mem_cons_of_mem _ (List.mem_cons_self ..))
      ·rcases hF8w q hq with e | e
       ·exact .inl (List.mem_cons_of_mem _ (List.mem_cons_of_mem _ e))
       ·right;omega)
    have hF9w:∀q∈F9,q∈F∨w.heap.size+1≤q:=fun q hq=>by
     rcases hF9 q hq with e | e
     ·exact hF8w q e
     ·right;omega
    have HE:=hide (And.intro (show FoS B w9 g mb a9 c9 (zbg n (iN,iR) ks l (j+1)) F9 by rw [zaa HNX];exact hs9) (And.intro hf9w (And.intro hF9w l09)))
    clear hs9 hf9 hF9 hf9w hF9w l09 l08 hf8w hF8w HY HC2 k0 d0 d1
    go_wp2_with fail
    go_roundw
    case rel=>exact⟨j+1,a9,c9,F9,by omega,by go_num,(zaa HE).1,(zaa HE).2.1,(zaa HE).2.2.1,(zaa HE).2.2.2⟩
    case measure=>simp [intOf];omega
  ·have hlt':¬ (j:Int)<(ks.length:Int):=by omega
   have HE:=hide (zaa HQ (.returned (.tuple #[])) wr ⟨rfl,a',c',F',by rw [zaa HR,←zio n (iN,iR) ks l (show ks.length≤j by omega)];exact hs,hf,fun q hq=>(hF' q hq).imp id (fun h=>by omega)⟩)
   clear hs hf l0 hF' HQ
   go_wp2_with fail
   go_end0
   exact zaa HE
theorem zkp:zgm 0:=by
 intro w0 B w g mb a c l F iN iR ks a4 c4 hB0 hw0 h hK hi hS hN hZ
 refine zaf ?_
 intro Q HQ
 obtain rfl:ks=[]:=by
  cases ks with
  | nil=>rfl
  | cons x r=>exact x.elim
 have hA:Below w.heap.size w (w.alloc (.cells #[.int .i64 iN,.int .i64 iR] 81)):=(Below.refl _ _).alloc (Nat.le_refl _) _
 have HE:=hide (zaa HQ (.returned (.tuple #[])) _ ⟨rfl,a,c,F,h.keep hA,Frm.ofBelow hA _,fun q hq=>.inl hq⟩)
 clear hA h hK hN HQ
 go_enter Tryz.func87,Tryz.ntmps87
 go_wp2_with fail
 go_loopw [11] (fun xv wr=>xv=.int .i64 0∧wr=(w.alloc (.cells #[.int .i64 iN,.int .i64 iR] 81))) (fun _ _=>0)
 case atStart=>exact⟨rfl,rfl⟩
 case round=>
  obtain⟨rfl,rfl⟩:=hrel
  go_wp2_with fail
  go_end0
  exact zaa HE
theorem zgE:∀n,zgm n
 | 0=>zkp
 | n+1=>zjI n (zgE n)
end Go.Proofs.YtlpnibbdmkeklaaGreatDoor
