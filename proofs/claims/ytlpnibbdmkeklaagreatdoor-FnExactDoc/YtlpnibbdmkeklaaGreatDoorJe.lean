/- Own texts joined: FoF, FoG, FoW, FoV, IdJ, IdI, OpN, DoM, PlF, SetP, Push, SetQ, SdM, SdB, SdI, OpsT, LesI, OpsM, PutV, L5fd, AppM, L5tk. -/
import Derived.Test.YtlpnibbdmkeklaaGreatDoorJa
import Derived.Test.YtlpnibbdmkeklaaGreatDoorJb
import Derived.Test.YtlpnibbdmkeklaaGreatDoorJc
import Derived.Test.YtlpnibbdmkeklaaGreatDoorJd
import Derived.Deep.RegionHeld3
import Derived.Deep.QuietTactic
import Derived.BigQuiet
import Derived.WalkMore
import Derived.Deep.AppendLies
import Derived.WalkLawsBesides
namespace Go.Proofs.YtlpnibbdmkeklaaGreatDoor
open Go.RowKit Go.Maps
set_option linter.unusedVariables false
set_option maxRecDepth 100000
theorem FoS.at {B:Nat} {w:Xe} {g mb:Nat} {a:Xc} {c:Nat} {l:List PlV} {F:Xb} (h:FoS B w g mb a c l F) (hl:0<l.length):∃gr,a=some ⟨gr,0,none⟩∧gr∈F:=by
 obtain⟨Cs,Fs,e1,e2,e3,e4,rfl⟩:=h.row
 obtain⟨gr,cap,e,_,_⟩:=e4.form hl
 injection e with e _ _
 subst e
 exact⟨gr,rfl,List.mem_append_left _ (by simp [FB,Value.ownBlock])⟩
set_option maxHeartbeats 1600000 in
theorem zco {B:Nat} {w:Xe} {g mb:Nat} {a:Xc} {c:Nat} {l:List PlV} {F:Xb} (h:FoS B w g mb a c l F) (i:IdV) (hi:okI i) :
  Calls Tryz.prog 54 #[.pointer (some ⟨g,0,none⟩),zaq i] w fun e w'=>(posP l i=none->e=.returned (.pointer none))∧(∀k,posP l i=some k->∃gr,a=some ⟨gr,0,none⟩∧e=.returned (.pointer (some ⟨gr,k*9,none⟩)))∧Below w.heap.size w w':=by
 have hA:Below w.heap.size w (w.alloc (.cells #[.int .i64 i.1,.int .i64 i.2] 81)):=(Below.refl _ _).alloc (Nat.le_refl _) _
 have lb:=Loc.made w #[.int .i64 i.1,.int .i64 i.2] 81
 have hd:Below (w.alloc (.cells #[.int .i64 i.1,.int .i64 i.2] 81)).heap.size (w.alloc (.cells #[.int .i64 i.1,.int .i64 i.2] 81)) (w.alloc (.cells #[.int .i64 i.1,.int .i64 i.2] 81)).drew:=(Below.refl _ _).drew
 have h1:=h.keep hA
 have h2:=h1.keep hd
 obtain⟨cs,lg,hc0,hc1⟩:=h2.set.loc
 obtain⟨ci,hrun,hci⟩:=h2.map.look hi
 have g0:=lg.cell 0
 have g1:=lg.cell 1
 rw [hc0]at g0
 rw [hc1]at g1
 have hbw:=zad hA hd
 have hat:=h.at
 have hlen:=h.len
 have hP:∀k,posP l i=some k->k<l.length:=fun k hk=>(posP_some.1 hk).1
 unfold zaq at *
 have LL:=hide (And.intro hbw (And.intro hat (And.intro hci hP)))
 have lbd:=lb.all hd
 have b0:=lbd.cell 0
 have b1:=lbd.cell 1
 clear h h1 h2 hA hd lb lbd lg hc0 hc1 hbw hat hci hP hi
 refine zaf ?_
 intro Q HQ
 generalize hp:posP l i=po at *
 go_enter Tryz.func54,Tryz.ntmps54
 go_wp2_with fail
 go_region
 cases po with
 | none=>
  go_wp2_with fail
  exact zaa HQ _ _ ⟨fun _=>rfl,fun k hk=>(by cases hk),(zaa LL).1⟩
 | some k=>
  have hkl:=(zaa LL).2.2.2 k rfl
  have hck:=(zaa LL).2.2.1 k rfl
  obtain⟨gr,rfl,_⟩:=(zaa LL).2.1 (by omega)
  subst hck
  have hk0:(0:Int)<=(k:Int):=by omega
  have hkl':(k:Int)<(l.length:Int):=by omega
  go_wp2_with fail
  exact zaa HQ _ _ ⟨fun h=>(by cases h),fun k' hk=>(by cases hk;exact⟨gr,rfl,rfl⟩),(zaa LL).1⟩
theorem FoS.own {B:Nat} {w:Xe} {g mb gr:Nat} {c:Nat} {l:List PlV} {F:Xb} (h:FoS B w g mb (some ⟨gr,0,none⟩) c l F) {k:Nat} (hk:k<l.length) :
  ∃(k1:Xc) (ck:Nat) (n1:Xc) (cn:Nat) (t1:Xc) (ct:Nat) (a1:Xc) (ca:Nat) (Fa:Xb),w.cell? ⟨gr,k*9,none⟩=some (.int .i64 l[k].idN)∧w.cell? ⟨gr,k*9+1,none⟩=some (.int .i64 l[k].idR)∧w.cell? ⟨gr,k*9+2,none⟩=some (.int .i64 l[k].parN)∧w.cell? ⟨gr,k*9+3,none⟩=some (.int .i64 l[k].parR)∧w.cell? ⟨gr,k*9+4,none⟩=some (.slice k1 l[k].key.length ck)∧w.cell? ⟨gr,k*9+5,none⟩=some (.int .i64 l[k].kind)∧w.cell? ⟨gr,k*9+6,none⟩=some (.slice n1 l[k].name.length cn)∧w.cell? ⟨gr,k*9+7,none⟩=some (.slice t1 l[k].text.length ct)∧w.cell? ⟨gr,k*9+8,none⟩=some (.slice a1 l[k].attrs.length ca)∧OwnZ w 0 (.slice k1 l[k].key.length ck) l[k].key∧RowM w 0 (.slice n1 l[k].name.length cn) l[k].name∧Own w 0 (.slice t1 l[k].text.length ct) l[k].text∧OwAttrs w (.slice a1 l[k].attrs.length ca) l[k].attrs Fa∧∀q∈FB (.slice k1 l[k].key.length ck)++FB (.slice n1 l[k].name.length cn)++FB (.slice t1 l[k].text.length ct)++Fa,q∈F∧q≠gr:=by
 have hnd:=h.nd
 obtain⟨Cs,Fs,e1,e2,e3,e4,rfl⟩:=h.row
 obtain⟨_,K,N,T,A,Fa,eC,o1,o2,o3,o4,eF⟩:=e3 k hk
 obtain⟨k1,ck,rfl,_⟩:=o1.ints.shape
 obtain⟨n1,cn,rfl,_⟩:=o2.byt.shape
 obtain⟨t1,ct,rfl,_⟩:=o3.byt.shape
 obtain⟨a1,ca,rfl,_⟩:=Elems.shape (OwAttrs.rd o4)
 have hcl:=fun r (hr:r<9)=>zaU e4 (fun i hi=>(e3 i (by omega)).1) e1 k r hk hr
 rw [eC]at hcl
 have d:=fun r hr=>hcl r hr
 have d0:=d 0 (by omega)
 have d1:=d 1 (by omega)
 have d2:=d 2 (by omega)
 have d3:=d 3 (by omega)
 have d4:=d 4 (by omega)
 have d5:=d 5 (by omega)
 have d6:=d 6 (by omega)
 have d7:=d 7 (by omega)
 have d8:=d 8 (by omega)
 refine⟨k1,ck,n1,cn,t1,ct,a1,ca,Fa,d0,d1,d2,d3,d4,d5,d6,d7,d8,o1,o2,o3,o4,fun q hq=> ?_⟩
 rw [<-eF]at hq
 refine⟨List.mem_append_right _ (zav hq),fun e=> ?_⟩
 exact (List.nodup_append.1 hnd).2.2 gr (by simp [FB,Value.ownBlock]) q (zav hq) e.symm
theorem zgU {l:List PlV} {i:IdV} {k:Nat} (hp:posP l i=some k) (hk:k<l.length):zae l i=(decide (l[k].kind=0) && !zaj l[k].name):=by
 unfold zae
 rw [hp]
 simp only [List.getElem?_eq_getElem hk]
 rfl
theorem zgX {l:List PlV} {i:IdV} (hp:posP l i=none):zae l i=false:=by
 unfold zae
 rw [hp]
open Classical in
set_option maxHeartbeats 3200000 in
theorem ziK {B:Nat} {w:Xe} {g mb:Nat} {a:Xc} {c:Nat} {l:List PlV} {F:Xb} (h:FoS B w g mb a c l F) (i:IdV) (hi:okI i) :
  Calls Tryz.prog 91 #[.pointer (some ⟨g,0,none⟩),zaq i] w fun e w'=>e=.returned (.bool (zae l i))∧FoS B w' g mb a c l F∧Frm w w' [g]:=by
 refine zaf ?_
 intro Q HQ
 have hA:Below w.heap.size w (w.alloc (.cells #[.int .i64 i.1,.int .i64 i.2] 81)):=(Below.refl _ _).alloc (Nat.le_refl _) _
 have h1:=h.keep hA
 have HF:=hide (zco h1 i hi)
 have HA:=hide (And.intro hA h1)
 clear h hA h1 hi
 unfold zaq at *
 go_enter Tryz.func91,Tryz.ntmps91
 go_wp2_with fail
 refine (zaa HF).mono ?_
 rintro e w2 ⟨hn,hs,hb2⟩
 obtain⟨hA,h1⟩:=zaa HA
 have h2:=h1.keep hb2
 have hA2:=zad hA hb2
 clear HF HA hb2 h1 hA
 cases hp:posP l i with
 | none=>
  obtain rfl:=hn hp
  have HE:=hide (zaa HQ (.returned (.bool false)) w2.drew ⟨by rw [zgX hp],h2.keep ((Below.refl _ _).drew),Frm.ofBelow (hA2.drew) _⟩)
  clear hs hn h2 hA2 HQ
  go_wp2_with fail
  go_region
  go_wp2_with fail
  exact zaa HE
 | some k=>
  obtain⟨gr,rfl,rfl⟩:=hs k hp
  have hk:k<l.length:=(posP_some.1 hp).1
  have hd2:=h2.keep ((Below.refl _ _).drew)
  obtain⟨k1,ck,n1,cn,t1,ct,a1,ca,Fa,_,_,_,_,_,e5,e6,_,_,_,oN,_,_,hF⟩:=hd2.own hk
  have ht:=zgU hp hk
  obtain⟨p,hpe⟩:∃p,p=l[k]:=⟨_,rfl⟩
  rw [<-hpe]at ht e5 e6 oN hF
  have hfd:=Frm.ofBelow (hA2.drew) [g]
  by_cases h0:p.kind=0
  ·have hB:mb+1<=w2.drew.heap.size:=hd2.map.lt
   have hnm:∀w',Frm w2.drew w' [g]->Byt w' (.slice n1 p.name.length cn) p.name:=fun w' f=>(oN.frm f (fun q hq e=>hd2.gF (by have e9:q=g:=(by simpa using e);rw [<-e9];exact (hF q (by simp [hq])).1))).byt
   have HC:=hide (zlb (mb+1) (.slice (some ⟨gr,0,none⟩) l.length c) (.map (some mb)) g w2.drew (.slice n1 p.name.length cn) p.name hd2.set hB hnm)
   have hvv:decide (Void p.name)=zaj p.name:=by
    cases hv:zaj p.name with
    | true=>exact decide_eq_true ((zaS _).1 hv)
    | false=>exact decide_eq_false (fun e=>by rw [(zaS _).2 e]at hv;cases hv)
   rw [hvv]at HC
   have hgr:gr≠g:=fun e=>by
    obtain⟨gr',hg1,hg2⟩:=hd2.at (by omega)
    injection hg1 with hg1
    injection hg1 with hg1 _ _
    exact hd2.gF (by rw [<-e,hg1];exact hg2)
   have HNE:=hide (show ∀w',Frm w2.drew w' [g]->∀j,w'.cell? ⟨gr,j,none⟩=w2.drew.cell? ⟨gr,j,none⟩ from fun w' f j=>World.cell?_of_block (f.block gr (zaJ e6) (by simpa using hgr)))
   have HZ:=hide (And.intro hd2 (And.intro hfd ht))
   clear hd2 hfd ht h2 hA2 hs hn hF oN hnm hvv hpe
   rw [h0]at e5
   go_wp2_with fail
   go_region_held3 (fun w'=>w'.cell? ⟨gr,k*9+5,none⟩=some (.int .i64 0)∧w'.cell? ⟨gr,k*9+6,none⟩=some (.slice n1 p.name.length cn))
    (first | exact⟨by assumption,by assumption⟩ | simp [*])
    (first | (go_at_call 85;refine (zaa HC).mono ?_;rintro e w3 ⟨rfl,hmd,hf3⟩;have z5:=(zaa HNE w3 hf3 (k*9+5)).trans e5;have z6:=(zaa HNE w3 hf3 (k*9+6)).trans e6))
   obtain⟨hd2,hfd,ht⟩:=zaa HZ
   have h3:FoS B w3 g mb (some ⟨gr,0,none⟩) c l F:=⟨.inr hmd,hd2.map.frm hf3 (by simpa using fun e=>hd2.gm e.symm),hd2.row.frm hf3 (fun q hq e=>hd2.gF (by have e9:q=g:=(by simpa using e);rw [<-e9];exact hq)),hd2.nd,hd2.ge,hd2.geg,hd2.gem,hd2.ids,hd2.len⟩
   have HE:=hide (zaa HQ (.returned (.bool (zae l i))) w3 ⟨rfl,h3,hfd.trans hf3⟩)
   rw [ht,decide_eq_true h0,Bool.true_and]at HE
   clear h3 hd2 hfd ht HZ HC HQ hmd hf3
   go_wp2_with fail
   exact zaa HE
  ·have HE:=hide (fun n=>zaa HQ (.returned (.bool false)) (w2.drewN n) ⟨by rw [ht,decide_eq_false h0];rfl,h2.keep (below_drewN (Below.refl _ _) _),Frm.ofBelow (zad hA2 (below_drewN (Below.refl _ _) _)) _⟩)
   have e5':w2.cell? ⟨gr,k*9+5,none⟩=some (.int .i64 p.kind):=e5
   have h0':(p.kind == 0)=false:=by simpa using h0
   clear h0 hpe hp
   clear hd2 hfd ht h2 hA2 hs hn hF oN HQ
   go_wp2_with fail
   go_quiet (fail)
   go_wp2_with fail
   exact zaa HE _
def Glo (w:Xe):Prop:=w.cell? ⟨0,0,none⟩=some (.int .i64 0)∧w.cell? ⟨0,1,none⟩=some (.int .i64 0)∧w.cell? ⟨1,0,none⟩=some (.int .i64 0)∧w.cell? ⟨1,1,none⟩=some (.int .i64 1)
theorem Glo.frm {w w':Xe} {S:Xb} (h:Glo w) (f:Frm w w' S) (hS:∀q∈S,2<=q):Glo w':=by
 have hc:∀b j v,b<2->w.cell? ⟨b,j,none⟩=some v->w'.cell? ⟨b,j,none⟩=some v:=fun b j v hb hv=>(World.cell?_of_block (f.block b (zaJ hv) (fun e=>by have:=hS b e;omega))).trans hv
 exact⟨hc 0 0 _ (by omega) h.1,hc 0 1 _ (by omega) h.2.1,hc 1 0 _ (by omega) h.2.2.1,hc 1 1 _ (by omega) h.2.2.2⟩
theorem Glo.keep {w w':Xe} (h:Glo w) (hb:Below w.heap.size w w'):Glo w':=h.frm (Frm.ofBelow hb []) (fun q hq=>by cases hq)
theorem zhJ (l:List PlV) (n:Nat) (i:IdV):zaw l (n+1) i i=true:=by unfold zaw;rw [if_pos rfl]
theorem zbO {l:List PlV} {n:Nat} {i o:IdV} (h:i≠o) (k:i=zak∨i=zag):zaw l (n+1) i o=false:=by unfold zaw;rw [if_neg h,if_pos k]
theorem zce {l:List PlV} {n k:Nat} {i o:IdV} (h:i≠o) (h1:¬ (i=zak∨i=zag)) (hp:posP l i=some k) (hk:k<l.length):zaw l (n+1) i o=zaw l n l[k].par o:=by
 conv=>lhs;unfold zaw
 rw [if_neg h,if_neg h1,hp]
 simp only [List.getElem?_eq_getElem hk]
set_option maxHeartbeats 6400000 in
theorem zhK {B:Nat} {w:Xe} {g mb:Nat} {a:Xc} {c:Nat} {l:List PlV} {F:Xb} (h:FoS B w g mb a c l F) (hF:Fr l) (hG:Glo w) (i o:IdV) (hi:okI i) (k0:Nat) (hk0:posP l i=some k0) :
  Calls Tryz.prog 93 #[.pointer (some ⟨g,0,none⟩),zaq i,zaq o] w fun e w'=>e=.returned (.bool (zaw l l.length i o))∧Below w.heap.size w w':=by
 refine zaf ?_
 intro Q HQ
 have hA:Below w.heap.size w ((w.alloc (.cells #[.int .i64 i.1,.int .i64 i.2] 81)).alloc (.cells #[.int .i64 o.1,.int .i64 o.2] 81)):=zad ((Below.refl _ _).alloc (Nat.le_refl _) _) ((Below.refl _ _).alloc (Nat.le_refl _) _)
 have l0:=(Loc.made w #[.int .i64 i.1,.int .i64 i.2] 81).alloc (.cells #[.int .i64 o.1,.int .i64 o.2] 81)
 have l1:=Loc.made (w.alloc (.cells #[.int .i64 i.1,.int .i64 i.2] 81)) #[.int .i64 o.1,.int .i64 o.2] 81
 simp only [World.size_alloc]at l1
 have h1:=h.keep hA
 have hG1:=hG.keep hA
 obtain⟨cs,lg,hc0,_⟩:=h1.set.loc
 have g0:(((w.alloc (.cells #[.int .i64 i.1,.int .i64 i.2] 81)).alloc (.cells #[.int .i64 o.1,.int .i64 o.2] 81))).cell? ⟨g,0,none⟩=some (.slice a l.length c):=(lg.cell 0).trans hc0
 have hlen:=h1.len
 have LL:=hide (And.intro hA (And.intro l0 (And.intro l1 (And.intro h1 hG1))))
 have HF:=hide hF
 have HI:=hide (And.intro hi hk0)
 have HGG:=hide (show g≠w.heap.size∧g≠w.heap.size+1∧2<=w.heap.size from ⟨by have:=h.set.lt;omega,by have:=h.set.lt;omega,by have h9:=zaJ hG.2.2.1;exact h9⟩)
 clear h hA l0 l1 h1 hG hG1 lg hc0 hF hi hk0
 unfold zaq at *
 go_enter Tryz.func93,Tryz.ntmps93
 go_wp2_with fail
 go_step3
 go_wp2_with fail
 go_step3
 go_wp2_with fail
 obtain⟨hA,l0,l1,h1,hG1⟩:=zaa LL
 clear LL
 generalize ((w.alloc (.cells #[.int .i64 i.1,.int .i64 i.2] 81)).alloc (.cells #[.int .i64 o.1,.int .i64 o.2] 81))=w1 at *
 have LZ:=hide l0
 go_loopw [12] (fun x wr=>∃(j:Nat) (i':IdV),j<=l.length∧x=.int .i64 (j:Int)∧Hid (zaw l (l.length-j) i' o=zaw l l.length i o)∧Hid (okI i')∧(∃k,posP l i'=some k)∧Loc wr w.heap.size #[.int .i64 i'.1,.int .i64 i'.2] 81∧Frm w1 wr [w.heap.size]) (fun x _=>l.length-(intOf x).toNat)
 case atStart=>exact⟨0,i,Nat.zero_le _,rfl,hide rfl,hide (zaa HI).1,⟨k0,(zaa HI).2⟩,l0,Frm.refl _ _⟩
 case round=>
  clear l0 g0
  obtain⟨j,i',hj,rfl,HW,HO,⟨k,hk⟩,l0,hf⟩:=hrel
  have l1r:=l1.frm hf (by simp)
  have hGr:=hG1.frm hf (fun q hq=>by have e:q=w.heap.size:=(by simpa using hq);have:=(zaa HGG).2.2;omega)
  have hr:=h1.frm hf (by simpa using (zaa HGG).1) (fun e=>by have e9:mb=w.heap.size:=(by simpa using e);exact h1.box (q:=mb) (cs:=_) (T:=81) (by rw [e9];exact (show Loc w1 w.heap.size _ 81 from zaa LZ)) (by decide) (by decide) (by simp)) (fun q hq e=>by have e9:q=w.heap.size:=(by simpa using e);exact h1.box (q:=q) (by rw [e9];exact (zaa LZ)) (by decide) (by decide) (by simp [hq])) (fun q hq=>by have e9:q=w.heap.size:=(by simpa using hq);rw [e9];exact Cells.ofL (zaa LZ))
  obtain⟨iN,iR⟩:=i'
  obtain⟨oN,oR⟩:=o
  have b0:wr.cell? ⟨w.heap.size,0,none⟩=some (.int .i64 iN):=l0.cell 0
  have b1:wr.cell? ⟨w.heap.size,1,none⟩=some (.int .i64 iR):=l0.cell 1
  have c0:wr.cell? ⟨w.heap.size+1,0,none⟩=some (.int .i64 oN):=l1r.cell 0
  have c1:wr.cell? ⟨w.heap.size+1,1,none⟩=some (.int .i64 oR):=l1r.cell 1
  obtain⟨y0,y1,y2,y3⟩:=hGr
  have hBr:Below w.heap.size w wr:=hA.trans (hf.below hA.size (fun q hq=>by have e:q=w.heap.size:=(by simpa using hq);omega))
  by_cases hlt:j<l.length
  ·have hlt':(j:Int)<(l.length:Int):=by omega
   obtain⟨n,hn⟩:∃n,l.length-j=n+1:=⟨l.length-j-1,by omega⟩
   have hw:=zaa HW
   rw [hn]at hw
   by_cases e1:iN=oN
   ·by_cases e2:iR=oR
    ·have heq:(iN,iR)=(oN,oR):=by rw [e1,e2]
     have d1:(iN == oN)=true:=by simpa using e1
     have d2:(iR == oR)=true:=by simpa using e2
     have HE:=hide (zaa HQ (.returned (.bool true)) wr ⟨by rw [<-hw,heq,zhJ],hBr⟩)
     clear hw HW HQ HO hr l1r l0 hf hBr h1 l1 hA hk HI HF hn
     clear heq e1 e2
     go_wp2_with fail
     exact zaa HE
    ·have hne:(iN,iR)≠(oN,oR):=fun e=>e2 (Prod.mk.inj e).2
     have d1:(iN == oN)=true:=by simpa using e1
     have d2:(iR == oR)=false:=by simpa using e2
     clear e1 e2
     by_cases z1:iN=0
     ·by_cases z2:iR=0
      ·have htop:(iN,iR)=zak∨(iN,iR)=zag:=.inl (by rw [z1,z2];rfl)
       have w1_:(iN == 0)=true:=by simpa using z1
       have w2_:(iR == 0)=true:=by simpa using z2
       clear z1 z2
       have HE:=hide (zaa HQ (.returned (.bool false)) wr ⟨by rw [<-hw,zbO hne htop],hBr⟩)
       clear hw HW HQ HO hr l1r l0 hf hBr h1 l1 hA hk HI HF hn
       clear hne htop
       go_wp2_with fail
       exact zaa HE
      ·by_cases z3:iR=1
       ·have htop:(iN,iR)=zak∨(iN,iR)=zag:=.inr (by rw [z1,z3];rfl)
        have w1_:(iN == 0)=true:=by simpa using z1
        have w2_:(iR == 0)=false:=by simpa using z2
        have w3_:(iR == 1)=true:=by simpa using z3
        clear z1 z2 z3
        have HE:=hide (zaa HQ (.returned (.bool false)) wr ⟨by rw [<-hw,zbO hne htop],hBr⟩)
        clear hw HW HQ HO hr l1r l0 hf hBr h1 l1 hA hk HI HF hn
        clear hne htop
        go_wp2_with fail
        exact zaa HE
       ·have htop:¬ ((iN,iR)=zak∨(iN,iR)=zag):=fun e=>by rcases e with e | e;(exact z2 (Prod.mk.inj e).2);(exact z3 (Prod.mk.inj e).2)
        have w1_:(iN == 0)=true:=by simpa using z1
        have w2_:(iR == 0)=false:=by simpa using z2
        have w3_:(iR == 1)=false:=by simpa using z3
        clear z1 z2 z3
        have hkl:k<l.length:=(posP_some.1 hk).1
        have h2k:2<=k:=by
         rcases Nat.lt_or_ge k 2 with h9 | h9
         ·exact absurd (((zaa HF).low hk).1 h9) htop
         ·exact h9
        have hup:=hw.symm.trans (zce (n:=n) hne htop hk hkl)
        obtain⟨k',hk'⟩:=(zaa HF).par k l[k] h2k (by simp [hkl])
        have hop:=(hr.ids l[k] (List.getElem_mem hkl)).2
        have HFD:=hide (zco hr (iN,iR) (zaa HO))
        unfold zaq at HFD
        have HK:=hide (And.intro hk (And.intro h2k (And.intro hup (And.intro hk' (And.intro hop (And.intro hr (And.intro l0 hf)))))))
        clear hw HW HQ HO hr l1r l0 hf hBr hk hne htop h2k hup hk' hop h1 l1 hA
        go_wp2_with fail
        refine (zaa HFD).mono ?_
        rintro e w4 ⟨hn4,hs4,hb4⟩
        obtain⟨hk,h2k,hup,hk',hop,hr,l0,hf⟩:=zaa HK
        obtain⟨gr,rfl,rfl⟩:=hs4 k hk
        have hb:=hb4
        have h4:=hr.keep hb
        obtain⟨k1,ck,n1,cn,t1,ct,a1,ca,Fa,_,_,p2,p3,_⟩:=h4.own hkl
        have l4:=l0.all hb
        have q0:=l4.cell 0
        have q1:=l4.cell 1
        have qf0:=l4.frozen 0
        have qf1:=l4.frozen 1
        have lX:=(l4.set 0 (.int .i64 l[k].parN)).set 1 (.int .i64 l[k].parR)
        have fX:=hf.trans ((Frm.ofBelow hb _).trans ((zab w4 w.heap.size 0 (.int .i64 l[k].parN)).trans (zab _ w.heap.size 1 (.int .i64 l[k].parR))))
        have HE:=hide (And.intro lX (And.intro fX (And.intro hup (And.intro hk' hop))))
        clear hk h2k hup hk' hop hr l0 hf h4 l4 lX fX HK HFD hn4 hs4 hb4 hb
        generalize l[k]=pk at *
        go_wp2_with fail
        go_roundw
        case rel=>exact⟨j+1,(pk.parN,pk.parR),by omega,by go_num,hide (by rw [show l.length-(j+1)=n by omega];exact (zaa HE).2.2.1.symm),hide (zaa HE).2.2.2.2,⟨k',(zaa HE).2.2.2.1⟩,(zaa HE).1,(zaa HE).2.1⟩
        case measure=>simp [intOf];omega
     ·have htop:¬ ((iN,iR)=zak∨(iN,iR)=zag):=fun e=>by rcases e with e | e<;>exact z1 (Prod.mk.inj e).1
      have w1_:(iN == 0)=false:=by simpa using z1
      clear z1
      have hkl:k<l.length:=(posP_some.1 hk).1
      have h2k:2<=k:=by
       rcases Nat.lt_or_ge k 2 with h9 | h9
       ·exact absurd (((zaa HF).low hk).1 h9) htop
       ·exact h9
      have hup:=hw.symm.trans (zce (n:=n) hne htop hk hkl)
      obtain⟨k',hk'⟩:=(zaa HF).par k l[k] h2k (by simp [hkl])
      have hop:=(hr.ids l[k] (List.getElem_mem hkl)).2
      have HFD:=hide (zco hr (iN,iR) (zaa HO))
      unfold zaq at HFD
      have HK:=hide (And.intro hk (And.intro h2k (And.intro hup (And.intro hk' (And.intro hop (And.intro hr (And.intro l0 hf)))))))
      clear hw HW HQ HO hr l1r l0 hf hBr hk hne htop h2k hup hk' hop h1 l1 hA
      go_wp2_with fail
      refine (zaa HFD).mono ?_
      rintro e w4 ⟨hn4,hs4,hb4⟩
      obtain⟨hk,h2k,hup,hk',hop,hr,l0,hf⟩:=zaa HK
      obtain⟨gr,rfl,rfl⟩:=hs4 k hk
      have hb:=hb4
      have h4:=hr.keep hb
      obtain⟨k1,ck,n1,cn,t1,ct,a1,ca,Fa,_,_,p2,p3,_⟩:=h4.own hkl
      have l4:=l0.all hb
      have q0:=l4.cell 0
      have q1:=l4.cell 1
      have qf0:=l4.frozen 0
      have qf1:=l4.frozen 1
      have lX:=(l4.set 0 (.int .i64 l[k].parN)).set 1 (.int .i64 l[k].parR)
      have fX:=hf.trans ((Frm.ofBelow hb _).trans ((zab w4 w.heap.size 0 (.int .i64 l[k].parN)).trans (zab _ w.heap.size 1 (.int .i64 l[k].parR))))
      have HE:=hide (And.intro lX (And.intro fX (And.intro hup (And.intro hk' hop))))
      clear hk h2k hup hk' hop hr l0 hf h4 l4 lX fX HK HFD hn4 hs4 hb4 hb
      generalize l[k]=pk at *
      go_wp2_with fail
      go_roundw
      case rel=>exact⟨j+1,(pk.parN,pk.parR),by omega,by go_num,hide (by rw [show l.length-(j+1)=n by omega];exact (zaa HE).2.2.1.symm),hide (zaa HE).2.2.2.2,⟨k',(zaa HE).2.2.2.1⟩,(zaa HE).1,(zaa HE).2.1⟩
      case measure=>simp [intOf];omega
   ·have hne:(iN,iR)≠(oN,oR):=fun e=>e1 (Prod.mk.inj e).1
    have d1:(iN == oN)=false:=by simpa using e1
    clear e1
    by_cases z1:iN=0
    ·by_cases z2:iR=0
     ·have htop:(iN,iR)=zak∨(iN,iR)=zag:=.inl (by rw [z1,z2];rfl)
      have w1_:(iN == 0)=true:=by simpa using z1
      have w2_:(iR == 0)=true:=by simpa using z2
      clear z1 z2
      have HE:=hide (zaa HQ (.returned (.bool false)) wr ⟨by rw [<-hw,zbO hne htop],hBr⟩)
      clear hw HW HQ HO hr l1r l0 hf hBr h1 l1 hA hk HI HF hn
      clear hne htop
      go_wp2_with fail
      exact zaa HE
     ·by_cases z3:iR=1
      ·have htop:(iN,iR)=zak∨(iN,iR)=zag:=.inr (by rw [z1,z3];rfl)
       have w1_:(iN == 0)=true:=by simpa using z1
       have w2_:(iR == 0)=false:=by simpa using z2
       have w3_:(iR == 1)=true:=by simpa using z3
       clear z1 z2 z3
       have HE:=hide (zaa HQ (.returned (.bool false)) wr ⟨by rw [<-hw,zbO hne htop],hBr⟩)
       clear hw HW HQ HO hr l1r l0 hf hBr h1 l1 hA hk HI HF hn
       clear hne htop
       go_wp2_with fail
       exact zaa HE
      ·have htop:¬ ((iN,iR)=zak∨(iN,iR)=zag):=fun e=>by rcases e with e | e;(exact z2 (Prod.mk.inj e).2);(exact z3 (Prod.mk.inj e).2)
       have w1_:(iN == 0)=true:=by simpa using z1
       have w2_:(iR == 0)=false:=by simpa using z2
       have w3_:(iR == 1)=false:=by simpa using z3
       clear z1 z2 z3
       have hkl:k<l.length:=(posP_some.1 hk).1
       have h2k:2<=k:=by
        rcases Nat.lt_or_ge k 2 with h9 | h9
        ·exact absurd (((zaa HF).low hk).1 h9) htop
        ·exact h9
       have hup:=hw.symm.trans (zce (n:=n) hne htop hk hkl)
       obtain⟨k',hk'⟩:=(zaa HF).par k l[k] h2k (by simp [hkl])
       have hop:=(hr.ids l[k] (List.getElem_mem hkl)).2
       have HFD:=hide (zco hr (iN,iR) (zaa HO))
       unfold zaq at HFD
       have HK:=hide (And.intro hk (And.intro h2k (And.intro hup (And.intro hk' (And.intro hop (And.intro hr (And.intro l0 hf)))))))
       clear hw HW HQ HO hr l1r l0 hf hBr hk hne htop h2k hup hk' hop h1 l1 hA
       go_wp2_with fail
       refine (zaa HFD).mono ?_
       rintro e w4 ⟨hn4,hs4,hb4⟩
       obtain⟨hk,h2k,hup,hk',hop,hr,l0,hf⟩:=zaa HK
       obtain⟨gr,rfl,rfl⟩:=hs4 k hk
       have hb:=hb4
       have h4:=hr.keep hb
       obtain⟨k1,ck,n1,cn,t1,ct,a1,ca,Fa,_,_,p2,p3,_⟩:=h4.own hkl
       have l4:=l0.all hb
       have q0:=l4.cell 0
       have q1:=l4.cell 1
       have qf0:=l4.frozen 0
       have qf1:=l4.frozen 1
       have lX:=(l4.set 0 (.int .i64 l[k].parN)).set 1 (.int .i64 l[k].parR)
       have fX:=hf.trans ((Frm.ofBelow hb _).trans ((zab w4 w.heap.size 0 (.int .i64 l[k].parN)).trans (zab _ w.heap.size 1 (.int .i64 l[k].parR))))
       have HE:=hide (And.intro lX (And.intro fX (And.intro hup (And.intro hk' hop))))
       clear hk h2k hup hk' hop hr l0 hf h4 l4 lX fX HK HFD hn4 hs4 hb4 hb
       generalize l[k]=pk at *
       go_wp2_with fail
       go_roundw
       case rel=>exact⟨j+1,(pk.parN,pk.parR),by omega,by go_num,hide (by rw [show l.length-(j+1)=n by omega];exact (zaa HE).2.2.1.symm),hide (zaa HE).2.2.2.2,⟨k',(zaa HE).2.2.2.1⟩,(zaa HE).1,(zaa HE).2.1⟩
       case measure=>simp [intOf];omega
    ·have htop:¬ ((iN,iR)=zak∨(iN,iR)=zag):=fun e=>by rcases e with e | e<;>exact z1 (Prod.mk.inj e).1
     have w1_:(iN == 0)=false:=by simpa using z1
     clear z1
     have hkl:k<l.length:=(posP_some.1 hk).1
     have h2k:2<=k:=by
      rcases Nat.lt_or_ge k 2 with h9 | h9
      ·exact absurd (((zaa HF).low hk).1 h9) htop
      ·exact h9
     have hup:=hw.symm.trans (zce (n:=n) hne htop hk hkl)
     obtain⟨k',hk'⟩:=(zaa HF).par k l[k] h2k (by simp [hkl])
     have hop:=(hr.ids l[k] (List.getElem_mem hkl)).2
     have HFD:=hide (zco hr (iN,iR) (zaa HO))
     unfold zaq at HFD
     have HK:=hide (And.intro hk (And.intro h2k (And.intro hup (And.intro hk' (And.intro hop (And.intro hr (And.intro l0 hf)))))))
     clear hw HW HQ HO hr l1r l0 hf hBr hk hne htop h2k hup hk' hop h1 l1 hA
     go_wp2_with fail
     refine (zaa HFD).mono ?_
     rintro e w4 ⟨hn4,hs4,hb4⟩
     obtain⟨hk,h2k,hup,hk',hop,hr,l0,hf⟩:=zaa HK
     obtain⟨gr,rfl,rfl⟩:=hs4 k hk
     have hb:=hb4
     have h4:=hr.keep hb
     obtain⟨k1,ck,n1,cn,t1,ct,a1,ca,Fa,_,_,p2,p3,_⟩:=h4.own hkl
     have l4:=l0.all hb
     have q0:=l4.cell 0
     have q1:=l4.cell 1
     have qf0:=l4.frozen 0
     have qf1:=l4.frozen 1
     have lX:=(l4.set 0 (.int .i64 l[k].parN)).set 1 (.int .i64 l[k].parR)
     have fX:=hf.trans ((Frm.ofBelow hb _).trans ((zab w4 w.heap.size 0 (.int .i64 l[k].parN)).trans (zab _ w.heap.size 1 (.int .i64 l[k].parR))))
     have HE:=hide (And.intro lX (And.intro fX (And.intro hup (And.intro hk' hop))))
     clear hk h2k hup hk' hop hr l0 hf h4 l4 lX fX HK HFD hn4 hs4 hb4 hb
     generalize l[k]=pk at *
     go_wp2_with fail
     go_roundw
     case rel=>exact⟨j+1,(pk.parN,pk.parR),by omega,by go_num,hide (by rw [show l.length-(j+1)=n by omega];exact (zaa HE).2.2.1.symm),hide (zaa HE).2.2.2.2,⟨k',(zaa HE).2.2.2.1⟩,(zaa HE).1,(zaa HE).2.1⟩
     case measure=>simp [intOf];omega
  ·have hlt':¬ (j:Int)<(l.length:Int):=by omega
   have hw:=zaa HW
   rw [show l.length-j=0 by omega]at hw
   have HE:=hide (zaa HQ (.returned (.bool false)) wr ⟨by rw [<-hw];rfl,hBr⟩)
   clear hw HW HQ hr l1r l0 hf hBr h1 l1 hA
   go_wp2_with fail
   exact zaa HE
def mayI (l:List PlV) (i o:IdV):Bool:= !decide (i=zak∨i=zag) && zae l o && !zaw l l.length o i
theorem zjQ {l:List PlV} {i o:IdV} (h:i=zak∨i=zag):mayI l i o=false:=by unfold mayI;rw [decide_eq_true h];rfl
theorem zmw {l:List PlV} {i o:IdV} (h:zae l o=false):mayI l i o=false:=by unfold mayI;rw [h];simp
theorem zkG {l:List PlV} {i o:IdV} (h:¬ (i=zak∨i=zag)) (k:zae l o=true):mayI l i o = !zaw l l.length o i:=by unfold mayI;rw [decide_eq_false h,k];simp
set_option maxHeartbeats 6400000 in
theorem zlg {B:Nat} {w:Xe} {g mb:Nat} {a:Xc} {c:Nat} {l:List PlV} {F:Xb} (h:FoS B w g mb a c l F) (hF:Fr l) (hG:Glo w) (hB2:2<=B) (i o:IdV) (ho:okI o) :
  Calls Tryz.prog 121 #[.pointer (some ⟨g,0,none⟩),zaq i,zaq o] w fun e w'=>e=.returned (.bool (mayI l i o))∧FoS B w' g mb a c l F∧Frm w w' [g]:=by
 refine zaf ?_
 intro Q HQ
 have hA:Below w.heap.size w ((w.alloc (.cells #[.int .i64 i.1,.int .i64 i.2] 81)).alloc (.cells #[.int .i64 o.1,.int .i64 o.2] 81)):=zad ((Below.refl _ _).alloc (Nat.le_refl _) _) ((Below.refl _ _).alloc (Nat.le_refl _) _)
 have l0:=(Loc.made w #[.int .i64 i.1,.int .i64 i.2] 81).alloc (.cells #[.int .i64 o.1,.int .i64 o.2] 81)
 have l1:=Loc.made (w.alloc (.cells #[.int .i64 i.1,.int .i64 i.2] 81)) #[.int .i64 o.1,.int .i64 o.2] 81
 simp only [World.size_alloc]at l1
 have h1:=h.keep hA
 have hG1:=hG.keep hA
 have HT:=hide (ziK h1 o ho)
 have b0:=l0.cell 0
 have b1:=l0.cell 1
 have c0:=l1.cell 0
 have c1:=l1.cell 1
 obtain⟨y0,y1,y2,y3⟩:=id hG1
 have LL:=hide (And.intro hA (And.intro l0 (And.intro l1 (And.intro h1 (And.intro hG1 hF)))))
 have HGL:=hide (And.intro h.set.lt (And.intro hB2 h.geg))
 have HO:=hide ho
 clear h hA l0 l1 h1 hG hG1 hF ho hB2
 obtain⟨iN,iR⟩:=i
 obtain⟨oN,oR⟩:=o
 unfold zaq at *
 by_cases z1:iN=0
 ·by_cases z2:iR=0
  ·have htop:(iN,iR)=zak∨(iN,iR)=zag:=.inl (by rw [z1,z2];rfl)
   have w1_:(iN == 0)=true:=by simpa using z1
   have w2_:(iR == 0)=true:=by simpa using z2
   clear z1 z2
   have HE:=hide (zaa HQ (.returned (.bool false)) _ ⟨by rw [zjQ htop],(zaa LL).2.2.2.1,Frm.ofBelow (zaa LL).1 _⟩)
   clear htop HQ LL HT
   go_enter Tryz.func121,Tryz.ntmps121
   go_wp2_with fail
   exact zaa HE
  ·by_cases z3:iR=1
   ·have htop:(iN,iR)=zak∨(iN,iR)=zag:=.inr (by rw [z1,z3];rfl)
    have w1_:(iN == 0)=true:=by simpa using z1
    have w2_:(iR == 0)=false:=by simpa using z2
    have w3_:(iR == 1)=true:=by simpa using z3
    clear z1 z2 z3
    have HE:=hide (zaa HQ (.returned (.bool false)) _ ⟨by rw [zjQ htop],(zaa LL).2.2.2.1,Frm.ofBelow (zaa LL).1 _⟩)
    clear htop HQ LL HT
    go_enter Tryz.func121,Tryz.ntmps121
    go_wp2_with fail
    exact zaa HE
   ·have htop:¬ ((iN,iR)=zak∨(iN,iR)=zag):=fun e=>by rcases e with e | e;(exact z2 (Prod.mk.inj e).2);(exact z3 (Prod.mk.inj e).2)
    have w1_:(iN == 0)=true:=by simpa using z1
    have w2_:(iR == 0)=false:=by simpa using z2
    have w3_:(iR == 1)=false:=by simpa using z3
    clear z1 z2 z3
    have HM:=hide (And.intro (fun (k:zae l (oN,oR)=false)=>zmw (i:=(iN,iR)) k) (fun (k:zae l (oN,oR)=true)=>zkG htop k))
    clear htop
    go_enter Tryz.func121,Tryz.ntmps121
    go_wp2_with fail
    refine (zaa HT).mono ?_
    rintro e w2 ⟨rfl,h2,hf2⟩
    obtain⟨hA,l0,l1,h1,hG1,hF⟩:=zaa LL
    obtain⟨hgl,hB2,hgg⟩:=zaa HGL
    have m0:=l0.frm hf2 (by simp;omega)
    have m1:=l1.frm hf2 (by simp;omega)
    have hG2:=hG1.frm hf2 (fun q hq=>by have e:q=g:=(by simpa using hq);omega)
    have hfa:=(Frm.ofBelow hA [g]).trans hf2
    clear LL HT l0 l1 h1 hG1 hA hf2 b0 b1 c0 c1 y0 y1 y2 y3
    have b0:=m0.cell 0
    have b1:=m0.cell 1
    have c0:=m1.cell 0
    have c1:=m1.cell 1
    cases ht:zae l (oN,oR)with
    | false=>
     have HE:=hide (zaa HQ (.returned (.bool false)) w2 ⟨by rw [(zaa HM).1 ht],h2,hfa⟩)
     clear HQ HM ht h2 hfa hG2 hF m0 m1
     go_wp2_with fail
     exact zaa HE
    | true=>
     obtain⟨k,p,hk,_⟩:=zdG ht
     have HC:=hide (zhK h2 hF hG2 (oN,oR) (iN,iR) (zaa HO) k hk)
     have hmm:=(zaa HM).2 ht
     unfold zaq at HC
     have HZ:=hide (And.intro h2 hfa)
     clear h2 hfa hG2 hF m0 m1 ht hk HM
     go_wp2_with fail
     refine (zaa HC).mono ?_
     rintro e w3 ⟨rfl,hb3⟩
     have HE:=hide (zaa HQ (.returned (.bool (mayI l (iN,iR) (oN,oR)))) w3 ⟨rfl,(zaa HZ).1.keep hb3,(zaa HZ).2.trans (Frm.ofBelow hb3 _)⟩)
     rw [hmm]at HE
     clear HQ HZ HC hb3 hmm
     go_wp2_with fail
     exact zaa HE
 ·have htop:¬ ((iN,iR)=zak∨(iN,iR)=zag):=fun e=>by rcases e with e | e<;>exact z1 (Prod.mk.inj e).1
  have w1_:(iN == 0)=false:=by simpa using z1
  clear z1
  have HM:=hide (And.intro (fun (k:zae l (oN,oR)=false)=>zmw (i:=(iN,iR)) k) (fun (k:zae l (oN,oR)=true)=>zkG htop k))
  clear htop
  go_enter Tryz.func121,Tryz.ntmps121
  go_wp2_with fail
  refine (zaa HT).mono ?_
  rintro e w2 ⟨rfl,h2,hf2⟩
  obtain⟨hA,l0,l1,h1,hG1,hF⟩:=zaa LL
  obtain⟨hgl,hB2,hgg⟩:=zaa HGL
  have m0:=l0.frm hf2 (by simp;omega)
  have m1:=l1.frm hf2 (by simp;omega)
  have hG2:=hG1.frm hf2 (fun q hq=>by have e:q=g:=(by simpa using hq);omega)
  have hfa:=(Frm.ofBelow hA [g]).trans hf2
  clear LL HT l0 l1 h1 hG1 hA hf2 b0 b1 c0 c1 y0 y1 y2 y3
  have b0:=m0.cell 0
  have b1:=m0.cell 1
  have c0:=m1.cell 0
  have c1:=m1.cell 1
  cases ht:zae l (oN,oR)with
  | false=>
   have HE:=hide (zaa HQ (.returned (.bool false)) w2 ⟨by rw [(zaa HM).1 ht],h2,hfa⟩)
   clear HQ HM ht h2 hfa hG2 hF m0 m1
   go_wp2_with fail
   exact zaa HE
  | true=>
   obtain⟨k,p,hk,_⟩:=zdG ht
   have HC:=hide (zhK h2 hF hG2 (oN,oR) (iN,iR) (zaa HO) k hk)
   have hmm:=(zaa HM).2 ht
   unfold zaq at HC
   have HZ:=hide (And.intro h2 hfa)
   clear h2 hfa hG2 hF m0 m1 ht hk HM
   go_wp2_with fail
   refine (zaa HC).mono ?_
   rintro e w3 ⟨rfl,hb3⟩
   have HE:=hide (zaa HQ (.returned (.bool (mayI l (iN,iR) (oN,oR)))) w3 ⟨rfl,(zaa HZ).1.keep hb3,(zaa HZ).2.trans (Frm.ofBelow hb3 _)⟩)
   rw [hmm]at HE
   clear HQ HZ HC hb3 hmm
   go_wp2_with fail
   exact zaa HE
end Go.Proofs.YtlpnibbdmkeklaaGreatDoor
namespace Go.Proofs.YtlpnibbdmkeklaaGreatDoor
open Go.RowKit
set_option linter.unusedVariables false
set_option maxRecDepth 100000
def zam (n r:Int):Bool:=decide (1<=n) && (decide (n<=1000000) && (decide (0<=r) && decide (r<8)))
theorem zkX (n r:Int) :
  (zam n r=false∧decide (1<=n)=false)∨
  (zam n r=false∧decide (1<=n)=true∧decide (n<=1000000)=false)∨
  (zam n r=false∧decide (1<=n)=true∧decide (n<=1000000)=true∧decide (0<=r)=false)∨
  (zam n r=true∧decide (1<=n)=true∧decide (n<=1000000)=true∧decide (0<=r)=true∧decide (r<8)=true)∨
  (zam n r=false∧decide (1<=n)=true∧decide (n<=1000000)=true∧decide (0<=r)=true∧decide (r<8)=false):=by
 unfold zam
 cases decide (1<=n)<;>cases decide (n<=1000000)<;>cases decide (0<=r)<;>cases decide (r<8)<;>simp
set_option maxHeartbeats 1600000 in
theorem zaI (w:Xe) (n r:Int) :
  Calls Tryz.prog 89 #[.agg #[.int .i64 n,.int .i64 r]] w fun e w'=>e=.returned (.bool (zam n r))∧w'=w.alloc (.cells #[.int .i64 n,.int .i64 r] 81):=by
 rcases zkX n r with ⟨h,q1⟩ | ⟨h,q1,q2⟩ | ⟨h,q1,q2,q3⟩ | ⟨h,q1,q2,q3,q4⟩ | ⟨h,q1,q2,q3,q4⟩
 all_goals
  have HE:=hide h
  clear h
  go_enter Tryz.func89,Tryz.ntmps89
  go_wp2
  go_ret
  exact⟨by rw [zaa HE];rfl,rfl⟩
theorem ziT (n r:Int) :
  (zam n r=true∧idB n r=true)∨
  (zam n r=false∧idB n r=false∧(n == 0)=false)∨
  (zam n r=false∧idB n r=false∧n=0∧(n == 0)=true∧decide (0<=r)=false)∨
  (zam n r=false∧idB n r=decide (r<=121)∧n=0∧(n == 0)=true∧decide (0<=r)=true):=by
 unfold zam idB
 by_cases a:n=0
 ·subst a
  by_cases b:0<=r
  ·right;right;right
   refine⟨by simp,?_,rfl,rfl,by simpa using b⟩
   rw [Bool.eq_iff_iff]
   simp
   omega
  ·right;right;left
   refine⟨by simp,?_,rfl,rfl,by simpa using b⟩
   rw [Bool.eq_false_iff]
   simp only [ne_eq,Bool.and_eq_true,Bool.or_eq_true,decide_eq_true_eq]
   omega
 ·by_cases c:1<=n∧n<=1000000∧0<=r∧r<8
  ·left
   simp only [Bool.and_eq_true,Bool.or_eq_true,decide_eq_true_eq]
   omega
  ·right;left
   refine⟨?_,?_,by simpa using a⟩
   ·rw [Bool.eq_false_iff]
    simp only [ne_eq,Bool.and_eq_true,decide_eq_true_eq]
    omega
   ·rw [Bool.eq_false_iff]
    simp only [ne_eq,Bool.and_eq_true,Bool.or_eq_true,decide_eq_true_eq]
    omega
set_option maxHeartbeats 1600000 in
theorem zek (w:Xe) (n r:Int) :
  Calls Tryz.prog 55 #[.agg #[.int .i64 n,.int .i64 r]] w fun e w'=>e=.returned (.bool (idB n r))∧w'=(w.alloc (.cells #[.int .i64 n,.int .i64 r] 81)).alloc (.cells #[.int .i64 n,.int .i64 r] 81):=by
 have HS:=hide (zaI (w.alloc (.cells #[.int .i64 n,.int .i64 r] 81)) n r)
 rcases ziT n r with ⟨h,k⟩ | ⟨h,k,q1⟩ | ⟨h,k,rfl,q1,q2⟩ | ⟨h,k,rfl,q1,q2⟩
 all_goals
  rw [h]at HS
  have HE:=hide k
  clear h k
  go_enter Tryz.func55,Tryz.ntmps55
  go_wp2_with fail
  refine (zaa HS).mono ?_
  rintro e w1 ⟨rfl,rfl⟩
  go_wp2
  go_ret
  exact⟨by rw [zaa HE];rfl,rfl⟩
theorem zmy (w:Xe) (v:Xf) (l:Xa) (h:Byt w v l):Calls Tryz.prog 114 #[v] w fun e w'=>e=.returned (.bool (zbD l))∧w'=w:=by
 by_cases hn:zah l
 ·rw [(zby l).2 hn];exact zjo w v l h hn
 ·rw [Bool.eq_false_iff.2 (fun k=>hn ((zby l).1 k))];exact zqS w v l h hn
theorem zih (w:Xe) (v:Xf) (l:Xa) (h:Byt w v l):Calls Tryz.prog 113 #[v] w fun e w'=>e=.returned (.bool (zbt l))∧w'=w:=by
 by_cases hn:zat l
 ·rw [(zbE l).2 hn];exact zpi w v l h hn
 ·rw [Bool.eq_false_iff.2 (fun k=>hn ((zbE l).1 k))];exact zpI w v l h hn
def valB (t:Xa) (gone:Bool):Bool:=if gone then (t.length:Int) == 0 else zbt t
set_option maxHeartbeats 1600000 in
theorem zpR (w:Xe) (v:Xf) (t:Xa) (gone:Bool) (h:Byt w v t) :
  Calls Tryz.prog 115 #[v,.bool gone] w fun e w'=>e=.returned (.bool (valB t gone))∧w'=w:=by
 have HT:=hide (zih w v t h)
 obtain⟨a,c,rfl,_,_⟩:=h.shape
 clear h
 cases gone
 ·go_enter Tryz.func115,Tryz.ntmps115
  go_wp2_with fail
  refine (zaa HT).mono ?_
  rintro e w1 ⟨rfl,rfl⟩
  go_wp2
  go_ret
  exact⟨rfl,rfl⟩
 ·go_enter Tryz.func115,Tryz.ntmps115
  go_wp2_with fail
  go_ret
  exact⟨rfl,rfl⟩
def zcF (k:Int) (n t:Xa):Bool:=if k=0 then zbD n && (t.length:Int) == 0 else if k=1 then (n.length:Int) == 0 && zbt t else false
theorem zlw (w:Xe):Calls Tryz.prog 125 #[.slice none 0 0] w fun e w'=>e=.returned (.bool true)∧w'=w:=by
 go_enter Tryz.func125,Tryz.ntmps125
 go_wp2
 refine wp_loop_rounds 1 ?_
 rw [rounds_succ]
 go_wp2
 go_ret
 exact⟨rfl,rfl⟩
set_option maxHeartbeats 3200000 in
theorem znK (w:Xe) (k:Int) (vn vt:Xf) (n t:Xa) (g:Nat) (hn:Byt w vn n) (ht:Byt w vt t) :
  Calls Tryz.prog 90 #[.agg #[.int .i64 k,vn,vt,.slice none 0 0,.slice none 0 0],.pointer (some ⟨g,0,none⟩)] w fun e w'=>e=.returned (.bool (zcF k n t))∧w'=w.alloc (.cells #[.int .i64 k,vn,vt,.slice none 0 0,.slice none 0 0] 37):=by
 have HA:=hide ((Below.refl w.heap.size w).alloc (Nat.le_refl _) (.cells #[.int .i64 k,vn,vt,.slice none 0 0,.slice none 0 0] 37))
 have HN:=hide (zmy _ vn n (hn.keep (zaa HA)))
 have HT:=hide (zih _ vt t (ht.keep (zaa HA)))
 obtain⟨a1,c1,rfl,_,_⟩:=hn.shape
 obtain⟨a2,c2,rfl,_,_⟩:=ht.shape
 clear hn ht
 by_cases k0:k=0
 ·subst k0
  have HE:=hide (show zcF 0 n t=(zbD n && (t.length:Int) == 0) from rfl)
  generalize zbD n=x at *
  generalize n.length=ln at *
  generalize t.length=lt at *
  cases x
  ·go_enter Tryz.func90,Tryz.ntmps90
   go_wp2_with fail
   refine (zaa HN).mono ?_
   rintro e w1 ⟨rfl,rfl⟩
   go_wp2_with fail
   go_ret
   exact⟨by rw [zaa HE];rfl,rfl⟩
  ·by_cases h0:lt=0
   ·subst h0
    go_enter Tryz.func90,Tryz.ntmps90
    go_wp2_with fail
    refine (zaa HN).mono ?_
    rintro e w1 ⟨rfl,rfl⟩
    go_wp2_with fail
    refine (zlw _).mono ?_
    rintro e w1 ⟨rfl,rfl⟩
    go_wp2_with fail
    go_ret
    exact⟨by rw [zaa HE];rfl,rfl⟩
   ·have h0':((lt:Int) == 0)=false:=by simpa using h0
    go_enter Tryz.func90,Tryz.ntmps90
    go_wp2_with fail
    refine (zaa HN).mono ?_
    rintro e w1 ⟨rfl,rfl⟩
    go_wp2_with fail
    go_ret
    exact⟨by rw [zaa HE,h0'];rfl,rfl⟩
 ·by_cases k1:k=1
  ·subst k1
   have HE:=hide (show zcF 1 n t=((n.length:Int) == 0 && zbt t) from rfl)
   generalize zbt t=x at *
   generalize n.length=ln at *
   generalize t.length=lt at *
   by_cases h0:ln=0
   ·subst h0
    cases x
    ·go_enter Tryz.func90,Tryz.ntmps90
     go_wp2_with fail
     refine (zaa HT).mono ?_
     rintro e w1 ⟨rfl,rfl⟩
     go_wp2_with fail
     go_ret
     exact⟨by rw [zaa HE];rfl,rfl⟩
    ·go_enter Tryz.func90,Tryz.ntmps90
     go_wp2_with fail
     refine (zaa HT).mono ?_
     rintro e w1 ⟨rfl,rfl⟩
     go_wp2_with fail
     go_ret
     exact⟨by rw [zaa HE];rfl,rfl⟩
   ·have h0':((ln:Int) == 0)=false:=by simpa using h0
    go_enter Tryz.func90,Tryz.ntmps90
    go_wp2_with fail
    go_ret
    exact⟨by rw [zaa HE,h0'];rfl,rfl⟩
  ·have HE:=hide (show zcF k n t=false by unfold zcF;rw [if_neg k0,if_neg k1])
   have q0:(k == 0)=false:=by simpa using k0
   have q1:(k == 1)=false:=by simpa using k1
   go_enter Tryz.func90,Tryz.ntmps90
   go_wp2_with fail
   go_ret
   exact⟨by rw [zaa HE];rfl,rfl⟩
set_option maxHeartbeats 3200000 in
theorem zpt (w:Xe) (k:Int) (vn vt:Xf) (n t:Xa) (hn:Byt w vn n) (ht:Byt w vt t) :
  Calls Tryz.prog 56 #[.agg #[.int .i64 k,vn,vt,.slice none 0 0,.slice none 0 0]] w fun e w'=>e=.returned (.bool (zcF k n t))∧w'=((w.alloc (.cells #[.int .i64 k,vn,vt,.slice none 0 0,.slice none 0 0] 37)).alloc (.cells #[.int .u32 0,.int .i32 0,.int .u32 0,.map none] 110)).alloc (.cells #[.int .i64 k,vn,vt,.slice none 0 0,.slice none 0 0] 37):=by
 have HN:=hide (fun W (h:Below w.heap.size w W)=>hn.keep h)
 have HT:=hide (fun W (h:Below w.heap.size w W)=>ht.keep h)
 obtain⟨a1,c1,rfl,_,_⟩:=hn.shape
 obtain⟨a2,c2,rfl,_,_⟩:=ht.shape
 clear hn ht
 go_enter Tryz.func56,Tryz.ntmps56
 go_wp2_with fail
 have HB:=hide (((Below.refl w.heap.size w).alloc (Nat.le_refl _) (.cells #[.int .i64 k,.slice a1 n.length c1,.slice a2 t.length c2,.slice none 0 0,.slice none 0 0] 37)).alloc (by simp) (.cells #[.int .u32 0,.int .i32 0,.int .u32 0,.map none] 110))
 refine (znK _ k _ _ n t _ (zaa HN _ (zaa HB)) (zaa HT _ (zaa HB))).mono ?_
 rintro e w1 ⟨rfl,rfl⟩
 go_wp2
 go_ret
 exact⟨rfl,rfl⟩
def zbq (o:OpV):Bool:=(o.kind == 0) && (zbC o.atN o.atR && (zbC o.nodeN o.nodeR && (zbC o.parN o.parR && ((o.key.length:Int) == 0 && ((o.elem == 0) && ((o.name.length:Int) == 0 && ((o.text.length:Int) == 0 && !o.gone)))))))
set_option maxHeartbeats 3200000 in
theorem zeG (w:Xe) (o:OpV) (a1 a2 a3:Xc) (c1 c2 c3:Nat) :
  Calls Tryz.prog 116 #[zaY o (.slice a1 o.key.length c1) (.slice a2 o.name.length c2) (.slice a3 o.text.length c3)] w fun e w'=>e=.returned (.bool (zbq o))∧Below w.heap.size w w':=by
 unfold zaY
 go_enter Tryz.func116,Tryz.ntmps116
 go_wp2_with fail
 all_goals
  go_ret
  exact⟨by simp [zbq,zbC, *],(Below.refl w.heap.size w).alloc (Nat.le_refl _) _⟩
end Go.Proofs.YtlpnibbdmkeklaaGreatDoor
namespace Go.Proofs.YtlpnibbdmkeklaaGreatDoor
set_option linter.unusedVariables false
theorem zeq (o:OpV):zbM o=(decide (o.kind<0) || (decide (3<o.kind) || (!zam o.atN o.atR || !zbt o.text))):=by
 unfold zbM zam
 have e1:decide (1<=o.atN) = !decide (o.atN<1):=by rw [Bool.eq_iff_iff];simp
 have e2:decide (o.atN<=1000000) = !decide (1000000<o.atN):=by rw [Bool.eq_iff_iff];simp
 have e3:decide (0<=o.atR) = !decide (o.atR<0):=by rw [Bool.eq_iff_iff];simp
 have e4:decide (o.atR<8) = !decide (8<=o.atR):=by rw [Bool.eq_iff_iff];simp
 rw [e1,e2,e3,e4]
 cases decide (o.kind<0)<;>cases decide (3<o.kind)<;>cases decide (o.atN<1)<;>cases decide (1000000<o.atN)<;>cases decide (o.atR<0)<;>cases decide (8<=o.atR)<;>rfl
theorem zfR {t:Xa} (h:((t.length:Int) == 0)=true):zbt t=true:=by
 have:t=[]:=by simpa using h
 subst this
 rfl
theorem zgt:((([]:Xa).length:Int) == 0)=true:=rfl
theorem zez:zbC 0 0=true:=rfl
def zjG (o:OpV):OpV:=⟨0,0,0,o.nodeN,o.nodeR,0,0,[],0,[],[],o.gone⟩
def zjD (o:OpV):OpV:=⟨0,0,0,0,0,0,0,[],o.elem,o.name,o.text,o.gone⟩
def zjy (o:OpV):OpV:=⟨0,0,0,0,0,o.parN,o.parR,o.key,o.elem,o.name,[],o.gone⟩
def zjz (o:OpV):OpV:=⟨0,0,0,0,0,o.parN,o.parR,o.key,o.elem,[],[],false⟩
theorem zjE {o:OpV} (h:o.kind=0):opB o=(zam o.atN o.atR && ((idB o.parN o.parR && (keyB o.key && zcF o.elem o.name o.text)) && zbq (zjG o))):=by
 unfold opB
 rw [zeq,h]
 simp only [Int.lt_irrefl,decide_false,Bool.false_or,beq_self_eq_true,if_true,show decide ((3:Int)<0)=false from rfl]
 unfold zfH zbq zjG
 simp only [zez,zgt,beq_self_eq_true,Bool.true_and]
 unfold zcF
 cases hs:zam o.atN o.atR
 ·simp
 cases idB o.parN o.parR
 ·simp
 cases keyB o.key
 ·simp
 cases zbC o.nodeN o.nodeR
 ·simp
 cases o.gone
 ·by_cases e1:o.elem=1
  ·rw [e1]
   cases zbt o.text<;>simp
  ·by_cases e0:o.elem=0
   ·rw [e0]
    cases ht:zbt o.text
    ·cases hl:((o.text.length:Int) == 0)
     ·simp
     ·rw [zfR hl]at ht;cases ht
    ·simp
   ·simp [e0,e1]
 ·simp
theorem zjA {o:OpV} (h:o.kind=1):opB o=(zam o.atN o.atR && ((idB o.nodeN o.nodeR && (idB o.parN o.parR && keyB o.key)) && zbq (zjD o))):=by
 unfold opB
 rw [zeq,h]
 simp only [show decide ((1:Int)<0)=false from rfl,Bool.false_or,show ((1:Int) == 0)=false from rfl,show ((1:Int) == 1)=true from rfl,show decide ((3:Int)<1)=false from rfl,if_true]
 unfold zel zbq zjD
 simp only [zez,zgt,beq_self_eq_true,Bool.true_and]
 cases hs:zam o.atN o.atR
 ·simp
 cases idB o.nodeN o.nodeR
 ·simp
 cases idB o.parN o.parR
 ·simp
 cases keyB o.key
 ·simp
 cases hl:((o.text.length:Int) == 0)
 ·simp
 ·rw [zfR hl];simp
theorem zjC {o:OpV} (h:o.kind=2):opB o=(zam o.atN o.atR && ((idB o.nodeN o.nodeR && zbt o.text) && zbq (zjy o))):=by
 unfold opB
 rw [zeq,h]
 simp only [show decide ((2:Int)<0)=false from rfl,Bool.false_or,show ((2:Int) == 0)=false from rfl,show ((2:Int) == 1)=false from rfl,show decide ((3:Int)<2)=false from rfl]
 unfold zeh zbq zjy
 rw [h]
 simp only [zez,zgt,beq_self_eq_true,Bool.true_and,if_true]
 have ek:decide (0<(o.key.length:Int)) = !((o.key.length:Int) == 0):=by rw [Bool.eq_iff_iff];simp [Nat.pos_iff_ne_zero]
 rw [ek]
 cases hs:zam o.atN o.atR
 ·simp
 cases idB o.nodeN o.nodeR
 ·simp
 cases zbt o.text
 ·simp
 cases zbC o.parN o.parR
 ·simp
 cases ((o.key.length:Int) == 0)
 ·simp
 cases (o.elem == 0)
 ·simp
 simp
theorem zjF {o:OpV} (h:o.kind=3):opB o=(zam o.atN o.atR && ((idB o.nodeN o.nodeR && (zbD o.name && valB o.text o.gone)) && zbq (zjz o))):=by
 unfold opB
 rw [zeq,h]
 simp only [show decide ((3:Int)<0)=false from rfl,Bool.false_or,show ((3:Int) == 0)=false from rfl,show ((3:Int) == 1)=false from rfl,show decide ((3:Int)<3)=false from rfl]
 unfold zeh zbq zjz valB
 rw [h]
 simp only [zez,zgt,beq_self_eq_true,Bool.true_and,show ((3:Int) == 2)=false from rfl]
 have ek:decide (0<(o.key.length:Int)) = !((o.key.length:Int) == 0):=by rw [Bool.eq_iff_iff];simp [Nat.pos_iff_ne_zero]
 rw [ek]
 cases hs:zam o.atN o.atR
 ·simp
 cases idB o.nodeN o.nodeR
 ·simp
 cases zbC o.parN o.parR
 ·simp
 cases ((o.key.length:Int) == 0)
 ·simp
 cases (o.elem == 0)
 ·simp
 cases zbD o.name
 ·simp
 cases o.gone
 ·cases zbt o.text<;>simp
 ·cases hl:((o.text.length:Int) == 0)
  ·simp
  ·rw [zfR hl];simp
theorem zrj {o:OpV} (h0:o.kind≠0) (h1:o.kind≠1) (h2:o.kind≠2) (h3:o.kind≠3):opB o=false:=by
 have:(decide (o.kind<0) || decide (3<o.kind))=true:=by
  simp only [Bool.or_eq_true,decide_eq_true_eq]
  omega
 unfold opB
 rw [zeq,<-Bool.or_assoc,this]
 rfl
end Go.Proofs.YtlpnibbdmkeklaaGreatDoor
namespace Go.Proofs.YtlpnibbdmkeklaaGreatDoor
open Go.RowKit
set_option linter.unusedVariables false
def AtI (l:List PlV):Prop:=∀p∈l,SrtA p.attrs∧p.attrs.length<=4
def Kd2 (l:List PlV):Prop:=∀(k:Nat) (p:PlV),k<2->l[k]? = some p->p.kind=0
theorem zlv {l:List AtV} {n:Xa}:∀x∈l.take (posA l n),klB x.1 n=true:=by
 induction l with
 | nil=>intro x hx;simp at hx
 | cons a r ih=>
  rw [zex]
  by_cases h:klB a.1 n=true
  ·rw [if_pos h,List.take_succ_cons]
   intro x hx
   rcases List.mem_cons.1 hx with rfl | hx
   ·exact h
   ·exact ih x hx
  ·rw [if_neg h];intro x hx;simp at hx
theorem zgM {l:List AtV} {n:Xa} (hs:SrtA l) (ht:zbk l n=false):∀x∈l.drop (posA l n),klB n x.1=true:=by
 induction l with
 | nil=>intro x hx;simp at hx
 | cons a r ih=>
  obtain⟨ha,hr⟩:=List.pairwise_cons.1 hs
  rw [zex]
  rw [zhc]at ht
  by_cases h:klB a.1 n=true
  ·rw [if_pos h]at ht ⊢
   rw [List.drop_succ_cons]
   exact ih hr ht
  ·rw [if_neg h]at ht ⊢
   have hne:a.1≠n:=of_decide_eq_false ht
   have h1:=zed a.1 n
   rw [decide_eq_false hne]at h1
   have h0:klB a.1 n=false:=by simpa using h
   rw [h0]at h1
   have hna:klB n a.1=true:=by simpa using h1
   intro x hx
   rw [List.drop_zero]at hx
   rcases List.mem_cons.1 hx with rfl | hx
   ·exact hna
   ·exact zdB hna (ha x hx)
theorem zlW {l:List AtV} (h:SrtA l) (o:OpV):SrtA (chgI l o):=by
 unfold chgI
 by_cases ht:zbk l o.name=true
 ·rw [if_pos ht]
  obtain⟨hp,he⟩:=zfU ht
  by_cases hg:o.gone=true
  ·rw [if_pos hg,<-List.eraseIdx_eq_take_drop_succ]
   exact List.Pairwise.sublist (List.eraseIdx_sublist ..) h
  ·rw [if_neg hg]
   have hm:(l.set (posA l o.name) (o.name,o.text)).map (·.1)=l.map (·.1):=by
    rw [List.map_set]
    apply List.ext_getElem?
    intro j
    rw [List.getElem?_set]
    split
    ·rename_i e
     subst e
     simp [hp,he]
    ·rfl
   have h2:(l.map (·.1)).Pairwise (fun a b=>klB a b=true):=List.pairwise_map.2 h
   rw [<-hm]at h2
   exact List.pairwise_map.1 h2
 ·have ht':zbk l o.name=false:=by simpa using ht
  rw [if_neg ht]
  by_cases hg:o.gone=true
  ·rw [if_pos hg];exact h
  ·rw [if_neg hg]
   by_cases h4:l.length=4
   ·rw [if_pos h4];exact h
   ·rw [if_neg h4]
    refine List.pairwise_append.2 ⟨List.Pairwise.sublist (List.take_sublist ..) h,List.pairwise_cons.2 ⟨fun y hy=>zgM h ht' y hy,List.Pairwise.sublist (List.drop_sublist ..) h⟩,fun x hx y hy=> ?_⟩
    have hx':=zlv x hx
    rcases List.mem_cons.1 hy with rfl | hy
    ·exact hx'
    ·exact zdB hx' (zgM h ht' y hy)
theorem zmi {l:List AtV} (hl:l.length<=4) (o:OpV):(chgI l o).length<=4:=by
 unfold chgI
 have:=zgE l o.name
 split
 ·split
  ·simp;omega
  ·simpa using hl
 ·split
  ·exact hl
  ·split
   ·exact hl
   ·simp;omega
theorem zem {l:List PlV} {k:Nat} {p q:PlV} (h:q∈l.set k p):q∈l∨q=p:=List.mem_or_eq_of_mem_set h
theorem Kd2.set {l:List PlV} (h:Kd2 l) {k:Nat} {p q:PlV} (hk:l[k]? = some p) (e:q.kind=p.kind):Kd2 (l.set k q):=fun j r hj hr=>by
 rcases zcJ hk hr with ⟨rfl,rfl⟩ | ⟨_,hr⟩
 ·rw [e];exact h _ p hj hk
 ·exact h j r hj hr
theorem Kd2.do {l:List PlV} (h:Kd2 l) (h2:2<=l.length) (o:OpV):Kd2 (doV l o):=by
 unfold doV
 split
 ·split
  ·intro k p hk hp
   rw [List.getElem?_append_left (by omega)]at hp
   exact h k p hk hp
  ·exact h
 ·split
  ·exact h
  ·split
   ·exact h
   ·rename_i p hp
    split
    ·split
     ·exact h.set hp rfl
     ·exact h
    ·split
     ·split
      ·exact h.set hp rfl
      ·exact h
     ·split
      ·exact h.set hp rfl
      ·exact h
theorem zet {n r:Int} (h:idB n r=true):okI (n,r):=by
 unfold idB at h
 simp only [Bool.and_eq_true,Bool.or_eq_true,decide_eq_true_eq]at h
 exact⟨WalkArith.wf_i64 (by omega),WalkArith.wf_i64 (by omega)⟩
theorem zsK {n r:Int} (h:zam n r=true):okI (n,r):=by
 unfold zam at h
 simp only [Bool.and_eq_true,decide_eq_true_eq]at h
 exact⟨WalkArith.wf_i64 (by omega),WalkArith.wf_i64 (by omega)⟩
theorem zis {o:OpV} (h:opB o=true):o.kind=0∨o.kind=1∨o.kind=2∨o.kind=3:=by
 by_cases h0:o.kind=0
 ·exact .inl h0
 ·by_cases h1:o.kind=1
  ·exact .inr (.inl h1)
  ·by_cases h2:o.kind=2
   ·exact .inr (.inr (.inl h2))
   ·by_cases h3:o.kind=3
    ·exact .inr (.inr (.inr h3))
    ·rw [zrj h0 h1 h2 h3]at h;cases h
theorem znY {o:OpV} (h:opB o=true) (h0:o.kind=0):zam o.atN o.atR=true∧okI o.at'∧okI o.par∧(o.elem=0∨o.elem=1):=by
 rw [zjE h0]at h
 simp only [Bool.and_eq_true]at h
 refine⟨h.1,zsK h.1,zet h.2.1.1,?_⟩
 have h9:=h.2.1.2.2
 unfold zcF at h9
 by_cases e0:o.elem=0
 ·exact .inl e0
 ·by_cases e1:o.elem=1
  ·exact .inr e1
  ·rw [if_neg e0,if_neg e1]at h9;cases h9
theorem zrt {o:OpV} (h:opB o=true) (h1:o.kind=1):okI o.node∧okI o.par:=by
 rw [zjA h1]at h
 simp only [Bool.and_eq_true]at h
 exact⟨zet h.2.1.1,zet h.2.1.2.1⟩
theorem zrF {o:OpV} (h:opB o=true) (h1:o.kind=2):okI o.node:=by
 rw [zjC h1]at h
 simp only [Bool.and_eq_true]at h
 exact zet h.2.1.1
theorem zsw {o:OpV} (h:opB o=true) (h1:o.kind=3):okI o.node∧zah o.name:=by
 rw [zjF h1]at h
 simp only [Bool.and_eq_true]at h
 exact⟨zet h.2.1.1,(zby _).1 h.2.1.2.1⟩
theorem zsT {l:List PlV} (h:Fr l) {o:OpV} {k:Nat} (hk:posP l o.node=some k):zcb l o k=mayI l o.node o.par:=by
 unfold zcb mayI
 have hlow:=h.low hk
 have e1:decide (2<=k) = !decide (o.node=zak∨o.node=zag):=by
  by_cases h2:k<2
  ·rw [decide_eq_true (hlow.1 h2),decide_eq_false (by omega)];rfl
  ·rw [decide_eq_false (fun e=>h2 (hlow.2 e)),decide_eq_true (by omega)];rfl
 rw [e1]
 cases ht:zae l o.par with
 | false=>simp
 | true=>
  obtain⟨j,p,hj,_⟩:=zdG ht
  rw [h.under o.par o.node j hj]
set_option maxRecDepth 100000
def IntsF (w0 w:Xe) (v:Xf) (l:Xa) (F:Xb):Prop:=(Ints w0 v l∧F=[])∨(OwnZ w 0 v l∧F=FB v)
def BytF (w0 w:Xe) (v:Xf) (l:Xa) (F:Xb):Prop:=(Byt w0 v l∧F=[])∨(RowM w 0 v l∧F=FB v)
def zjB (w0:Xe) (C:Xd) (x:Xa×Xa) (G:Xb):Prop:=∃a b,C=[a,b]∧Byt w0 a x.1∧Byt w0 b x.2∧G=[]
def AttrsF (w0 w:Xe) (v:Xf) (l:List (Xa×Xa)) (F:Xb):Prop:=(RdAttrs w0 v l∧F=[])∨OwElems w 144 2 v l (zjB w0) F
def PlF (w0 w:Xe) (C:Xd) (p:PlV) (F:Xb):Prop:=∃k n t a F1 F2 F3,C=[.int .i64 p.idN,.int .i64 p.idR,.int .i64 p.parN,.int .i64 p.parR,k,.int .i64 p.kind,n,t,a]∧IntsF w0 w k p.key F1∧BytF w0 w n p.name F2∧Byt w0 t p.text∧AttrsF w0 w a p.attrs F3∧F=F1++F2++F3
def PlsF (w0 w:Xe) (v:Xf) (l:List PlV) (F:Xb):Prop:=OwElems w 117 9 v l (PlF w0 w) F
theorem IntsF.frm {w0 w w':Xe} {v:Xf} {l:Xa} {F S:Xb} (h:IntsF w0 w v l F) (f:Frm w w' S) (hd:∀g∈F,g∉S):IntsF w0 w' v l F:=by
 rcases h with h | ⟨h,rfl⟩
 ·exact .inl h
 ·exact .inr ⟨h.frm f hd,rfl⟩
theorem BytF.frm {w0 w w':Xe} {v:Xf} {l:Xa} {F S:Xb} (h:BytF w0 w v l F) (f:Frm w w' S) (hd:∀g∈F,g∉S):BytF w0 w' v l F:=by
 rcases h with h | ⟨h,rfl⟩
 ·exact .inl h
 ·exact .inr ⟨h.frm f hd,rfl⟩
theorem AttrsF.frm {w0 w w':Xe} {v:Xf} {l:List (Xa×Xa)} {F S:Xb} (h:AttrsF w0 w v l F) (f:Frm w w' S) (hd:∀g∈F,g∉S):AttrsF w0 w' v l F:=by
 rcases h with h | h
 ·exact .inl h
 ·exact .inr (OwElems.frm h f hd (fun C x G hr hG=>hr))
theorem PlF.frm {w0 w w':Xe} {C:Xd} {p:PlV} {F S:Xb} (h:PlF w0 w C p F) (f:Frm w w' S) (hd:∀g∈F,g∉S):PlF w0 w' C p F:=by
 obtain⟨k,n,t,a,F1,F2,F3,e,h1,h2,h3,h4,rfl⟩:=h
 exact⟨k,n,t,a,F1,F2,F3,e,h1.frm f (fun g hg=>hd g (by simp [hg])),h2.frm f (fun g hg=>hd g (by simp [hg])),h3,h4.frm f (fun g hg=>hd g (by simp [hg])),rfl⟩
theorem PlsF.frm {w0 w w':Xe} {v:Xf} {l:List PlV} {F S:Xb} (h:PlsF w0 w v l F) (f:Frm w w' S) (hd:∀g∈F,g∉S):PlsF w0 w' v l F:=OwElems.frm h f hd (fun C x G hr hG=>hr.frm f hG)
theorem IntsF.rd {w0 w:Xe} {v:Xf} {l:Xa} {F:Xb} (h:IntsF w0 w v l F) (hb:Below w0.heap.size w0 w):Ints w v l:=by
 rcases h with ⟨h,_⟩ | ⟨h,_⟩
 ·exact h.keep hb
 ·exact h.ints
theorem BytF.rd {w0 w:Xe} {v:Xf} {l:Xa} {F:Xb} (h:BytF w0 w v l F) (hb:Below w0.heap.size w0 w):Byt w v l:=by
 rcases h with ⟨h,_⟩ | ⟨h,_⟩
 ·exact h.keep hb
 ·exact h.byt
theorem AttrsF.rd {w0 w:Xe} {v:Xf} {l:List (Xa×Xa)} {F:Xb} (h:AttrsF w0 w v l F) (hb:Below w0.heap.size w0 w):RdAttrs w v l:=by
 rcases h with ⟨h,_⟩ | h
 ·exact h.keep hb
 ·exact OwElems.rd h (OwElems.len h) (fun C x G ⟨a,b,e,h1,h2,_⟩=>⟨a,b,e,h1.keep hb,h2.keep hb⟩)
theorem PlF.rd {w0 w:Xe} {C:Xd} {p:PlV} {F:Xb} (h:PlF w0 w C p F) (hb:Below w0.heap.size w0 w):RdPlC w C p:=by
 obtain⟨k,n,t,a,F1,F2,F3,e,h1,h2,h3,h4,_⟩:=h
 exact⟨k,n,t,a,e,h1.rd hb,h2.rd hb,h3.keep hb,h4.rd hb⟩
def StB (w0 w:Xe) (sb:Nat) (a:Xc) (c:Nat) (l:List PlV) (F:Xb):Prop:=Loc w sb #[.slice a l.length c] 58∧PlsF w0 w (.slice a l.length c) l F∧F.Nodup∧(∀q∈F,w0.heap.size<=q∧q<w.heap.size∧q≠sb)∧w0.heap.size<=sb∧Below w0.heap.size w0 w
theorem StB.frm {w0 w w':Xe} {sb:Nat} {a:Xc} {c:Nat} {l:List PlV} {F S:Xb} (h:StB w0 w sb a c l F) (f:Frm w w' S) (hd:∀g∈F,g∉S) (hs:sb∉S) (hS:∀q∈S,w0.heap.size<=q):StB w0 w' sb a c l F:=by
 obtain⟨h1,h2,h3,h4,h5,h6⟩:=h
 exact⟨h1.frm f hs,h2.frm f hd,h3,fun q hq=>⟨(h4 q hq).1,Nat.lt_of_lt_of_le (h4 q hq).2.1 f.size,(h4 q hq).2.2⟩,h5,h6.trans (f.below h6.size hS)⟩
theorem StB.keep {w0 w w':Xe} {sb:Nat} {a:Xc} {c:Nat} {l:List PlV} {F:Xb} (h:StB w0 w sb a c l F) (hb:Below w.heap.size w w'):StB w0 w' sb a c l F:=h.frm (Frm.ofBelow hb []) (fun _ _=>by simp) (by simp) (fun q hq=>by cases hq)
theorem zcw {Fs:List (Xb)} {G:Xb} {i q:Nat} (h:q∈(Fs.set i G).flatten):q∈Fs.flatten∨q∈G:=by
 obtain⟨F,hF,hq⟩:=List.mem_flatten.1 h
 rcases List.mem_or_eq_of_mem_set hF with hF | rfl
 ·exact .inl (List.mem_flatten.2 ⟨F,hF,hq⟩)
 ·exact .inr hq
theorem zdn:∀{Fs:List (Xb)} {G:Xb} {i:Nat},Fs.flatten.Nodup->G.Nodup->(∀q∈G,q∈Fs.getD i []∨q∉Fs.flatten)->(Fs.set i G).flatten.Nodup
 | [],_,_,_,_,_=>by simp
 | F::Fs,G,0,h,hG,hd=>by
  rw [List.flatten_cons]at h
  have h':=List.nodup_append.1 h
  rw [List.set_cons_zero,List.flatten_cons]
  refine List.nodup_append.2 ⟨hG,h'.2.1,fun a ha b hb e=> ?_⟩
  subst e
  rcases hd a ha with h1 | h1
  ·exact h'.2.2 a (by simpa using h1) a hb rfl
  ·exact h1 (by rw [List.flatten_cons];exact List.mem_append_right _ hb)
 | F::Fs,G,i+1,h,hG,hd=>by
  rw [List.flatten_cons]at h
  have h':=List.nodup_append.1 h
  rw [List.set_cons_succ,List.flatten_cons]
  refine List.nodup_append.2 ⟨h'.1,zdn h'.2.1 hG (fun q hq=> ?_),fun a ha b hb e=> ?_⟩
  ·rcases hd q hq with h1 | h1
   ·exact .inl (by simpa using h1)
   ·exact .inr (fun hq'=>h1 (by rw [List.flatten_cons];exact List.mem_append_right _ hq'))
  ·subst e
   rcases zcw hb with hb | hb
   ·exact h'.2.2 a ha a hb rfl
   ·rcases hd a hb with h1 | h1
    ·exact h'.2.2 a ha a (zav (by simpa using h1)) rfl
    ·exact h1 (by rw [List.flatten_cons];exact List.mem_append_left _ ha)
theorem PlsF.one {w0 w:Xe} {g cap:Nat} {l:List PlV} {F:Xb} (h:PlsF w0 w (.slice (some ⟨g,0,none⟩) l.length cap) l F) (hN:F.Nodup) (k:Nat) (hk:k<l.length) :
  ∃Cs C G,RowJ w 117 9 g l.length cap Cs k C∧PlF w0 w C l[k] G∧G.Nodup∧(∀q∈G,q∈F)∧g∈F∧g∉G∧
   ∀(w':Xe) (D:Xd) (p':PlV) (G':Xb),RowJ w' 117 9 g l.length cap Cs k D->Frm w w' [g]->PlF w0 w' D p' G'->G'.Nodup->(∀q∈G',q∈G∨q∉F)->
    ∃F',PlsF w0 w' (.slice (some ⟨g,0,none⟩) (l.set k p').length cap) (l.set k p') F'∧F'.Nodup∧∀q∈F',q∈F∨q∈G':=by
 obtain⟨Cs,Fs,e1,e2,e3,e4,rfl⟩:=h
 have hC:∀i,i<Cs.length->(Cs.getD i []).length=9:=fun i hi=>(e3 i (by omega)).1
 have hgF:g∉Fs.flatten:=fun hq=>(List.nodup_append.1 hN).2.2 g (by simp [FB,Value.ownBlock]) g hq rfl
 have hNf:=(List.nodup_append.1 hN).2.1
 refine⟨Cs,Cs.getD k [],Fs.getD k [],RowJ.start e1 hC k hk e4,(e3 k hk).2,zdh hNf,fun q hq=>List.mem_append_right _ (zav hq),by simp [FB,Value.ownBlock],fun hq=>hgF (zav hq),?_⟩
 intro w' D p' G' hR f hp hGN hG'
 have hgG:g∉G':=fun hq=>by
  rcases hG' g hq with h1 | h1
  ·exact hgF (zav h1)
  ·exact h1 (by simp [FB,Value.ownBlock])
 refine⟨FB (.slice (some ⟨g,0,none⟩) l.length cap)++(Fs.set k G').flatten,⟨Cs.set k D,Fs.set k G',by simp [e1],by simp [e2],fun i hi=> ?_,?_,?_⟩,?_,?_⟩
 ·have hi':i<l.length:=by simpa using hi
  by_cases e:i=k
  ·subst e
   rw [zbH _ _ _ (by omega),zbH _ _ _ (by omega),List.getElem_set_self]
   exact⟨hR.lenD,hp⟩
  ·rw [zbw _ _ _ _ e,zbw _ _ _ _ e,List.getElem_set_ne (Ne.symm e)]
   exact⟨(e3 i hi').1,(e3 i hi').2.frm f (fun q hq hq'=>by simp at hq';subst hq';exact hgF (zav hq))⟩
 ·rw [List.length_set]
  exact hR.row
 ·rw [List.length_set]
 ·refine List.nodup_append.2 ⟨zaF _,zdn hNf hGN (fun q hq=>(hG' q hq).imp id (fun h1 h2=>h1 (List.mem_append_right _ h2))),fun a ha b hb e=> ?_⟩
  have ea:a=g:=by simpa [FB,Value.ownBlock]using ha
  subst e
  subst ea
  rcases zcw hb with hb | hb
  ·exact hgF hb
  ·exact hgG hb
 ·intro q hq
  rcases List.mem_append.1 hq with hq | hq
  ·exact .inl (List.mem_append_left _ hq)
  ·rcases zcw hq with hq | hq
   ·exact .inl (List.mem_append_right _ hq)
   ·exact .inr hq
theorem OwElems.push {α:Type} {R:Xe->Xd->α->Xb->Prop} (hRf:∀{w w':Xe} {S:Xb} {C:Xd} {x:α} {G:Xb},R w C x G->Frm w w' S->(∀g∈G,g∉S)->R w' C x G)
  {w w':Xe} {e:Xg} {size:Nat} {v:Xf} {l:List α} {Cs:List (Xd)} {Fs:List (Xb)} {C:Xd} {y:α} {G:Xb} {g cap:Nat}
  (h1:Cs.length=l.length) (h2:Fs.length=l.length) (h3:∀i (hi:i<l.length),(Cs.getD i []).length=size∧R w (Cs.getD i []) l[i] (Fs.getD i []))
  (hN:(FB v++Fs.flatten).Nodup) (hC:C.length=size) (hy:R w C y G) (hGN:G.Nodup) (hFG:∀g∈FB v++Fs.flatten,g∉G) (hlt:∀q,q∈FB v++Fs.flatten∨q∈G->q<w.heap.size)
  (k1:w'.ownsRow 0 e size (.slice (some ⟨g,0,none⟩) (l.length+1) cap) (l.length+1) (Cs.flatten++C)) (k2:w.grownBy w' v.ownBlock) (k3:v.ownBlock=some g∨g=w.heap.size) :
  OwElems w' e size (.slice (some ⟨g,0,none⟩) (l.length+1) cap) (l++[y]) (R w') (g::(Fs.flatten++G))∧(g::(Fs.flatten++G)).Nodup∧(∀q∈g::(Fs.flatten++G),q∈FB v++Fs.flatten∨q∈G∨q=w.heap.size):=by
 have hFd:∀q∈Fs.flatten,q∉v.ownBlock.toList:=fun q hq hv=>(List.nodup_append.1 hN).2.2 q (by simpa [FB]using hv) q hq rfl
 have hGd:∀q∈G,q∉v.ownBlock.toList:=fun q hq hv=>hFG q (List.mem_append_left _ (by simpa [FB]using hv)) hq
 have hf:=Frm.ofGrown k2
 refine⟨⟨Cs++[C],Fs++[G],by simp [h1],by simp [h2],fun i hi=> ?_,?_,?_⟩,?_,?_⟩
 ·by_cases hil:i<l.length
  ·have a:=h3 i hil
   have e1:(Cs++[C]).getD i []=Cs.getD i []:=by rw [List.getD_eq_getElem?_getD,List.getD_eq_getElem?_getD,List.getElem?_append_left (by omega)]
   have e2:(Fs++[G]).getD i []=Fs.getD i []:=by rw [List.getD_eq_getElem?_getD,List.getD_eq_getElem?_getD,List.getElem?_append_left (by omega)]
   rw [e1,e2,List.getElem_append_left hil]
   exact⟨a.1,hRf a.2 hf (fun q hq=>hFd q (zav hq))⟩
  ·have e0:i=l.length:=by simp at hi;omega
   subst e0
   have e1:(Cs++[C]).getD l.length []=C:=by rw [<-h1];simp
   have e2:(Fs++[G]).getD l.length []=G:=by rw [<-h2];simp
   rw [e1,e2]
   simp only [List.getElem_concat_length]
   exact⟨hC,hRf hy hf hGd⟩
 ·simp only [List.length_append,List.length_cons,List.length_nil,List.flatten_append,List.flatten_cons,List.flatten_nil,List.append_nil]
  exact k1
 ·simp [FB,Value.ownBlock]
 ·rw [List.nodup_cons]
  refine⟨fun hq=> ?_,List.nodup_append.2 ⟨(List.nodup_append.1 hN).2.1,hGN,fun a ha b hb hab=>hFG a (List.mem_append_right _ ha) (hab ▸ hb)⟩⟩
  rcases List.mem_append.1 hq with hq | hq
  ·rcases k3 with k3 | k3
   ·exact hFd g hq (by simp [k3])
   ·have:=hlt g (.inl (List.mem_append_right _ hq));omega
  ·rcases k3 with k3 | k3
   ·exact hGd g hq (by simp [k3])
   ·have:=hlt g (.inr hq);omega
 ·intro q hq
  rcases List.mem_cons.1 hq with rfl | hq
  ·rcases k3 with k3 | k3
   ·exact .inl (List.mem_append_left _ (by simp [FB,k3]))
   ·exact .inr (.inr k3)
  ·rcases List.mem_append.1 hq with hq | hq
   ·exact .inl (List.mem_append_right _ hq)
   ·exact .inr (.inl hq)
theorem zgP {α:Type} {R:Xe->Xd->α->Xb->Prop} (hRf:∀{w w':Xe} {S:Xb} {C:Xd} {x:α} {G:Xb},R w C x G->Frm w w' S->(∀g∈G,g∉S)->R w' C x G)
  {w:Xe} {ops:Array Oper} {rest:List Oper} {o:Oper} {a:Act} {Q:Exit->Act->Xe->Prop} (hgd:o.guard=none) (s x:Operand) (t:Xg)
  (ho:o.op=.call { callee:=.builtin .append,args:= #[s,x],argTypes:= #[t,t] })
  (e:Xg) (i:TypeInfo) (z:Xf) (size bytes:Nat) (ht:Tryz.prog.underlying t=some (.slice e)) (hi:Tryz.prog.info? e=some i) (hz:i.zero=some z)
  (hsize:i.size=size) (hby:i.bytes=bytes) (hzs:z.cells.size=size) (hsz:0<size)
  (v:Xf) (l:List α) (F:Xb) (hs:a.eval s=v) (h:OwElems w e size v l (R w) F) (hN:F.Nodup)
  (ad:Addr) (c:Nat) (C:Xd) (y:α) (G:Xb) (hx:a.eval x=.slice (some ad) 1 c) (hC:C.length=size) (hcell:∀j u,C[j]? = some u->w.cell? (ad.add j)=some u) (h1:∀u∈C,u.oneCell'=true)
  (hy:R w C y G) (hGN:G.Nodup) (hFG:∀g∈F,g∉G) (hlt:∀q,q∈F∨q∈G->q<w.heap.size) (h63:l.length+1<=maxLen) (hbytes:(l.length+1)*bytes<=140737488355328)
  (hK:∀g cap w' F',OwElems w' e size (.slice (some ⟨g,0,none⟩) (l.length+1) cap) (l++[y]) (R w') F'->F'.Nodup->(∀q∈F',q∈F∨q∈G∨q=w.heap.size)->Frm w w' (FB v)->g<w'.heap.size->wpList Tryz.prog ops Q rest (a.put o.dst (.slice (some ⟨g,0,none⟩) (l.length+1) cap)) w'):wpList Tryz.prog ops Q (o::rest) a w:=by
 obtain⟨Cs,Fs,e1,e2,e3,e4,rfl⟩:=h
 refine wpList_append_lies w hgd s x t ho 0 e i z size bytes ht hi hz hsize hby hzs hsz v l.length Cs.flatten hs e4 ad 1 c C hx (by omega) hcell h1 (by omega) h63 hbytes (Nat.zero_le _) w.heap.size rfl ?_
 intro g cap w' k1 k2 k3 k4
 obtain⟨m1,m2,m3⟩:=OwElems.push (R:=R) hRf e1 e2 e3 hN hC hy hGN hFG hlt k1 k2 k3
 exact hK g cap w' _ m1 m2 m3 (Frm.ofGrown k2) k4
theorem zbQ {α:Type} {R:Xe->Xd->α->Xb->Prop} (hRf:∀{w w':Xe} {S:Xb} {C:Xd} {x:α} {G:Xb},R w C x G->Frm w w' S->(∀g∈G,g∉S)->R w' C x G)
  {w:Xe} {ops:Array Oper} {o:Oper} {a:Act} {K:Act->Xe->Prop} {Q:Exit->Act->Xe->Prop} {E:Prop} (hgd:o.guard=none) (s x:Operand) (t:Xg)
  (ho:o.op=.call { callee:=.builtin .append,args:= #[s,x],argTypes:= #[t,t] })
  (e:Xg) (i:TypeInfo) (z:Xf) (size bytes:Nat) (ht:Tryz.prog.underlying t=some (.slice e)) (hi:Tryz.prog.info? e=some i) (hz:i.zero=some z)
  (hsize:i.size=size) (hby:i.bytes=bytes) (hzs:z.cells.size=size) (hsz:0<size)
  (v:Xf) (l:List α) (F:Xb) (hs:a.eval s=v) (h:OwElems w e size v l (R w) F) (hN:F.Nodup)
  (ad:Addr) (c:Nat) (C:Xd) (y:α) (G:Xb) (hx:a.eval x=.slice (some ad) 1 c) (hC:C.length=size) (hcell:∀j u,C[j]? = some u->w.cell? (ad.add j)=some u) (h1:∀u∈C,u.oneCell'=true)
  (hy:R w C y G) (hGN:G.Nodup) (hFG:∀g∈F,g∉G) (hlt:∀q,q∈F∨q∈G->q<w.heap.size) (h63:l.length+1<=maxLen) (hbytes:(l.length+1)*bytes<=140737488355328)
  (hK:∀g cap w' F',OwElems w' e size (.slice (some ⟨g,0,none⟩) (l.length+1) cap) (l++[y]) (R w') F'->F'.Nodup->(∀q∈F',q∈F∨q∈G∨q=w.heap.size)->Frm w w' (FB v)->g<w'.heap.size->K (a.put o.dst (.slice (some ⟨g,0,none⟩) (l.length+1) cap)) w'):if Region.wanted o (yielded ops a.tmps)=true then Oper.wp Tryz.prog o a w K Q else E:=by
 obtain⟨Cs,Fs,e1,e2,e3,e4,rfl⟩:=h
 refine step_append_lies w hgd s x t ho 0 e i z size bytes ht hi hz hsize hby hzs hsz v l.length Cs.flatten hs e4 ad 1 c C hx (by omega) hcell h1 (by omega) h63 hbytes (Nat.zero_le _) w.heap.size rfl ?_
 intro g cap w' k1 k2 k3 k4
 obtain⟨m1,m2,m3⟩:=OwElems.push (R:=R) hRf e1 e2 e3 hN hC hy hGN hFG hlt k1 k2 k3
 exact hK g cap w' _ m1 m2 m3 (Frm.ofGrown k2) k4
theorem StB.one {w0 w:Xe} {sb b c:Nat} {l:List PlV} {F:Xb} (h:StB w0 w sb (some ⟨b,0,none⟩) c l F) {k:Nat} {p:PlV} (hk:l[k]? = some p) :
  ∃Cs C G,RowJ w 117 9 b l.length c Cs k C∧PlF w0 w C p G∧G.Nodup∧b∉G∧b<w.heap.size∧b≠sb∧
   ∀(w':Xe) (D:Xd) (p':PlV) (G':Xb),RowJ w' 117 9 b l.length c Cs k D->Frm w w' [b]->PlF w0 w' D p' G'->G'.Nodup->(∀q∈G',q∈G)->
    ∃F',StB w0 w' sb (some ⟨b,0,none⟩) c (l.set k p') F'∧∀q∈F',q∈F:=by
 obtain⟨h1,h2,h3,h4,h5,h6⟩:=h
 obtain⟨hlt,rfl⟩:=List.getElem?_eq_some_iff.1 hk
 obtain⟨Cs,C,G,hR,hP,hGN,hGF,hbF,hbG,hcl⟩:=h2.one h3 k hlt
 have hbl:=(h4 b hbF).2.1
 have hbs:=(h4 b hbF).2.2
 refine⟨Cs,C,G,hR,hP,hGN,hbG,hbl,hbs,fun w' D p' G' hR' f hP' hN' hG'=> ?_⟩
 obtain⟨F',g1,g2,g3⟩:=hcl w' D p' G' hR' f hP' hN' (fun q hq=>.inl (hG' q hq))
 have g4:∀q∈F',q∈F:=fun q hq=>(g3 q hq).elim id (fun h7=>hGF q (hG' q h7))
 have hs9:=f.size
 refine⟨F',⟨?_,g1,g2,fun q hq=> ?_,h5,h6.trans (f.below h6.size (fun q hq=>by simp at hq;subst hq;exact (h4 q hbF).1))⟩,g4⟩
 ·rw [List.length_set]
  exact h1.frm f (by simp;omega)
 ·have:=h4 q (g4 q hq)
  exact⟨this.1,by omega,this.2.2⟩
theorem StB.text {w0 w:Xe} {sb b c:Nat} {l:List PlV} {F:Xb} (h:StB w0 w sb (some ⟨b,0,none⟩) c l F) {k:Nat} {p:PlV} (hk:l[k]? = some p) {v:Xf} {t:Xa} (hv:Byt w0 v t) :
  (∃F',StB w0 (w.setCell ⟨b,k*9+7,none⟩ v) sb (some ⟨b,0,none⟩) c (l.set k { p with text:=t }) F'∧∀q∈F',q∈F)∧Frm w (w.setCell ⟨b,k*9+7,none⟩ v) [b]:=by
 obtain⟨Cs,C,G,hR,hP,hGN,hbG,hbl,hbs,hcl⟩:=h.one hk
 have f:=zab w b (k*9+7) v
 obtain⟨kv,n,t9,a,F1,F2,F3,eC,q1,q2,q3,q4,eG⟩:=hP.frm f (fun q hq e=>by simp at e;subst e;exact hbG hq)
 refine⟨hcl _ _ { p with text:=t } G (hR.put 7 (by decide) v) f ?_ hGN (fun q hq=>hq),f⟩
 subst eC
 exact⟨kv,n,v,a,F1,F2,F3,rfl,q1,q2,hv,q4,eG⟩
theorem StB.key {w0 w:Xe} {sb b c:Nat} {l:List PlV} {F:Xb} (h:StB w0 w sb (some ⟨b,0,none⟩) c l F) {k:Nat} {p:PlV} (hk:l[k]? = some p) {v:Xf} {t:Xa} (hv:Ints w0 v t) :
  (∃F',StB w0 (w.setCell ⟨b,k*9+4,none⟩ v) sb (some ⟨b,0,none⟩) c (l.set k { p with key:=t }) F'∧∀q∈F',q∈F)∧Frm w (w.setCell ⟨b,k*9+4,none⟩ v) [b]:=by
 obtain⟨Cs,C,G,hR,hP,hGN,hbG,hbl,hbs,hcl⟩:=h.one hk
 have f:=zab w b (k*9+4) v
 obtain⟨kv,n,t9,a,F1,F2,F3,eC,q1,q2,q3,q4,eG⟩:=hP.frm f (fun q hq e=>by simp at e;subst e;exact hbG hq)
 subst eG
 refine⟨hcl _ _ { p with key:=t } ([]++F2++F3) (hR.put 4 (by decide) v) f ?_ ?_ (fun q hq=> ?_),f⟩
 ·subst eC
  exact⟨v,n,t9,a,[],F2,F3,rfl,.inl ⟨hv,rfl⟩,q2,q3,q4,rfl⟩
 ·rw [List.append_assoc]at hGN
  exact (List.nodup_append.1 hGN).2.1
 ·rw [List.append_assoc]
  exact List.mem_append_right _ hq
theorem StB.par {w0 w:Xe} {sb b c:Nat} {l:List PlV} {F:Xb} (h:StB w0 w sb (some ⟨b,0,none⟩) c l F) {k:Nat} {p:PlV} (hk:l[k]? = some p) (x y:Int) :
  (∃F',StB w0 ((w.setCell ⟨b,k*9+2,none⟩ (.int .i64 x)).setCell ⟨b,k*9+3,none⟩ (.int .i64 y)) sb (some ⟨b,0,none⟩) c (l.set k { p with parN:=x,parR:=y }) F'∧∀q∈F',q∈F)∧Frm w ((w.setCell ⟨b,k*9+2,none⟩ (.int .i64 x)).setCell ⟨b,k*9+3,none⟩ (.int .i64 y)) [b]:=by
 obtain⟨Cs,C,G,hR,hP,hGN,hbG,hbl,hbs,hcl⟩:=h.one hk
 have f:=(zab w b (k*9+2) (.int .i64 x)).trans (zab _ b (k*9+3) (.int .i64 y))
 obtain⟨kv,n,t9,a,F1,F2,F3,eC,q1,q2,q3,q4,eG⟩:=hP.frm f (fun q hq e=>by simp at e;subst e;exact hbG hq)
 refine⟨hcl _ _ { p with parN:=x,parR:=y } G ((hR.put 2 (by decide) (.int .i64 x)).put 3 (by decide) (.int .i64 y)) f ?_ hGN (fun q hq=>hq),f⟩
 subst eC
 exact⟨kv,n,t9,a,F1,F2,F3,rfl,q1,q2,q3,q4,eG⟩
theorem PlF.lt {w0 w:Xe} {C:Xd} {p:PlV} {G:Xb} (h:PlF w0 w C p G):∀q∈G,q<w.heap.size:=by
 obtain⟨k,n,t,a,F1,F2,F3,e,h1,h2,h3,h4,rfl⟩:=h
 intro q hq
 rcases List.mem_append.1 hq with hq | hq
 ·rcases List.mem_append.1 hq with hq | hq
  ·rcases h1 with ⟨_,rfl⟩ | ⟨h1,rfl⟩
   ·cases hq
   ·exact (h1.rng q hq).2
  ·rcases h2 with ⟨_,rfl⟩ | ⟨h2,rfl⟩
   ·cases hq
   ·exact (h2.rng q hq).2
 ·rcases h4 with ⟨_,rfl⟩ | h4
  ·cases hq
  ·exact OwElems.lt h4 (fun C x G ⟨_,_,_,_,_,e⟩ g hg=>by rw [e]at hg;cases hg) q hq
theorem PlsF.head {w0 w:Xe} {v:Xf} {l:List PlV} {F:Xb} (h:PlsF w0 w v l F):∀q∈FB v,q∈F:=by
 obtain⟨Cs,Fs,h1,h2,h3,h4,rfl⟩:=h
 exact fun q hq=>List.mem_append_left _ hq
def zaO {n:Nat} (m:Nat) (i:IdV) (x:Nd (Tr n)) (j:Nat):PlV:=⟨0,m,i.1,i.2,[(j:Int)+1],x.kind,x.name,x.text,x.attrs⟩
def zaZ (n:Nat) (i:IdV) (a:List PlV) (x:Nd (Tr n)×Nat):List PlV:=zaB n (0,(a.length:Int)) x.1.kids (a++[zaO a.length i x.1 x.2])
def zbm (n:Nat) (i:IdV) (ks:List (Nd (Tr n))) (acc:List PlV) (j:Nat):List PlV:=(ks.zipIdx.take j).foldl (zaZ n i) acc
theorem zhB (n:Nat) (i:IdV) (ks:List (Nd (Tr n))) (acc:List PlV):zaB (n+1) i ks acc=ks.zipIdx.foldl (zaZ n i) acc:=rfl
theorem ziZ (n:Nat) (i:IdV) (ks:List (Nd (Tr n))) (acc:List PlV) {j:Nat} (h:ks.length<=j):zbm n i ks acc j=zaB (n+1) i ks acc:=by
 rw [zhB,zbm,List.take_of_length_le (by simpa using h)]
theorem zhS (n:Nat) (i:IdV) (ks:List (Nd (Tr n))) (acc:List PlV) {j:Nat} (h:j<ks.length):zbm n i ks acc (j+1)=zaZ n i (zbm n i ks acc j) (ks[j],j):=by
 have h':j<ks.zipIdx.length:=by simpa using h
 rw [zbm,List.take_succ_eq_append_getElem h',List.foldl_append]
 simp [zbm]
theorem zio {α:Type} (f:List PlV->α->List PlV) (hf:∀a x,a.length<=(f a x).length):∀(l:List α) (a:List PlV),a.length<=(l.foldl f a).length
 | [],a=>Nat.le_refl _
 | x::r,a=>Nat.le_trans (hf a x) (zio f hf r (f a x))
theorem zhq:∀(n:Nat) (i:IdV) (ks:List (Tr n)) (acc:List PlV),acc.length<=(zaB n i ks acc).length
 | 0,_,_,_=>Nat.le_refl _
 | n+1,i,ks,acc=>zio (zaZ n i) (fun a x=>Nat.le_trans (by simp) (zhq n (0,(a.length:Int)) x.1.kids (a++[zaO a.length i x.1 x.2]))) (List.zipIdx (α:=Nd (Tr n)) ks) acc
theorem zfq (n:Nat) (i:IdV) (a:List PlV) (x:Nd (Tr n)×Nat):a.length+1<=(zaZ n i a x).length:=Nat.le_trans (by simp) (zhq n (0,(a.length:Int)) x.1.kids (a++[zaO a.length i x.1 x.2]))
theorem zkq (n:Nat) (i:IdV) (ks:List (Nd (Tr n))) (acc:List PlV) (j:Nat):(zbm n i ks acc j).length<=(zaB (n+1) i ks acc).length:=by
 rw [zhB,zbm]
 conv=>rhs;rw [<-List.take_append_drop j ks.zipIdx,List.foldl_append]
 exact zio _ (fun a x=>Nat.le_of_succ_le (zfq n i a x)) _ _
def SdR (w0 w:Xe) (sb:Nat) (F:Xb) (m:List PlV) (w':Xe):Prop:=∃a' c' F',StB w0 w' sb a' c' m F'∧Frm w w' (sb::F)∧∀q∈F',q∈F∨w.heap.size<=q
theorem Frm.moreS {a b c:Xe} {S S':Xb} (h:Frm a b S) (k:Frm b c S') (hs:∀q∈S',q∈S∨a.heap.size<=q):Frm a c S:=
 ⟨k.os.trans h.os,k.tape.trans h.tape,k.output.trans h.output,Nat.le_trans h.size k.size,fun i hi hn=>(k.block i (Nat.lt_of_lt_of_le hi h.size) (fun e=>(hs i e).elim hn (fun h'=>by omega))).trans (h.block i hi hn)⟩
theorem zcz {n:Nat} {deep:Int} {t:Tr (n+1)} {left:Int} (h:(okT (n+1) deep t left).1=true) :
  t.attrs.length<=4∧0<=left-1∧(okK (okT n (deep+1)) t.kids (left-1)).1=true∧(okT (n+1) deep t left).2=(okK (okT n (deep+1)) t.kids (left-1)).2:=by
 rw [zbo]at h ⊢
 by_cases h1:left-1<0∨20<deep
 ·rw [if_pos h1]at h;cases h
 ·rw [if_neg h1]at h ⊢
  by_cases h2:t.kind=1
  ·rw [if_pos h2]at h ⊢
   have h3:zbi t=true:=h
   unfold zbi at h3
   simp only [Bool.and_eq_true,decide_eq_true_eq]at h3
   have hk:t.kids=[]:=List.eq_nil_of_length_eq_zero h3.1.2
   rw [hk]
   exact⟨by omega,by omega,rfl,rfl⟩
  ·rw [if_neg h2]at h ⊢
   by_cases h3:zaT t=true
   ·rw [if_pos h3]at h ⊢
    refine⟨?_,by omega,h,rfl⟩
    unfold zaT at h3
    simp only [Bool.and_eq_true]at h3
    have h4:=h3.1.2
    unfold zhW at h4
    rw [Bool.and_eq_true,decide_eq_true_eq]at h4
    exact h4.1
   ·rw [if_neg h3]at h;cases h
theorem zia:∀(n:Nat) (deep:Int) (ks:List (Tr n)) (left:Int) (i:IdV) (acc:List PlV),0<=left->(okK (okT n deep) ks left).1=true->
  ((zaB n i ks acc).length:Int)+(okK (okT n deep) ks left).2=acc.length+left∧∀p∈zaB n i ks acc,p∈acc∨p.attrs.length<=4
 | 0,deep,ks,left,i,acc,h0,h=>by
  obtain rfl:ks=[]:=by
   cases ks with
   | nil=>rfl
   | cons x r=>exact x.elim
  exact⟨rfl,fun p hp=>.inl hp⟩
 | n+1,deep,ks,left,i,acc,h0,h=>by
  have key:∀(f:Nd (Tr n)->Int->Bool×Int),(∀x left,f x left=okT (n+1) deep x left)->∀(ks:List (Nd (Tr n))) (k:Nat) (acc:List PlV) (left:Int),0<=left->(okK f ks left).1=true->
    (((ks.zipIdx k).foldl (zaZ n i) acc).length:Int)+(okK f ks left).2=acc.length+left∧∀p∈(ks.zipIdx k).foldl (zaZ n i) acc,p∈acc∨p.attrs.length<=4:=by
   intro f hf ks
   induction ks with
   | nil=>intro k acc left _ _;exact⟨rfl,fun p hp=>.inl hp⟩
   | cons x r ih=>
    intro k acc left h0 h
    have h1':(f x left).1=true:=by
     cases hb:(f x left).1 with
     | true=>rfl
     | false=>simp [okK,hb]at h
    have e1:okK f (x::r) left=okK f r (f x left).2:=by simp [okK,h1']
    rw [e1]at h ⊢
    have h1:(okT (n+1) deep x left).1=true:=by rw [<-hf];exact h1'
    have e3:=hf x left
    rw [e3]at h ⊢
    have hb:=zdH (n+1) deep x left h0
    obtain⟨p1,p2,p3,p4⟩:=zcz h1
    have hk:=zia n (deep+1) x.kids (left-1) (0,(acc.length:Int)) (acc++[zaO acc.length i x k]) p2 p3
    have hr:=ih (k+1) (zaZ n i acc (x,k)) _ (hb.2.2 h1) h
    rw [List.zipIdx_cons,List.foldl_cons]
    have e2:zaZ n i acc (x,k)=zaB n (0,(acc.length:Int)) x.kids (acc++[zaO acc.length i x k]):=rfl
    rw [e2]at hr ⊢
    refine⟨?_,fun p hp=> ?_⟩
    ·have h5:=hk.1
     have h6:=hr.1
     rw [<-p4]at h5
     simp only [List.length_append,List.length_cons,List.length_nil]at h5
     omega
    ·rcases hr.2 p hp with h7 | h7
     ·rcases hk.2 p h7 with h8 | h8
      ·rcases List.mem_append.1 h8 with h9 | h9
       ·exact .inl h9
       ·simp at h9
        subst h9
        exact .inr p1
      ·exact .inr h8
     ·exact .inr h7
  exact key (okT (n+1) deep) (fun _ _=>rfl) ks 0 acc left h0 h
theorem zlQ {n:Nat} {t:Tr (n+1)} (h:okN n t=true) (acc:List PlV) (hacc:∀p∈acc,p.attrs.length<=4):(zaB n (0,0) t.kids acc).length<=acc.length+119∧∀p∈zaB n (0,0) t.kids acc,p.attrs.length<=4:=by
 unfold okN at h
 rw [Bool.and_eq_true]at h
 obtain⟨p1,p2,p3,p4⟩:=zcz h.2
 have hk:=zia n 2 t.kids (120-1) (0,0) acc p2 p3
 have hb:=zdH (n+1) 1 t 120 (by decide)
 have h0:=hb.2.2 h.2
 rw [p4]at h0
 have e:((1:Int)+1)=2:=rfl
 rw [e]at h0
 refine⟨by have:=hk.1;omega,fun p hp=>(hk.2 p hp).elim (hacc p) id⟩
def SeedIds (l:List PlV):Prop:=∀p∈l,p.idN=0∧0<=p.idR∧p.idR<(l.length:Int)
theorem SeedIds.new {l:List PlV} (h:SeedIds l):posP l (0,(l.length:Int))=none:=posP_none.2 (fun p hp e=>by
 have:=(h p hp).2.2
 have e2:p.idR=(l.length:Int):=(Prod.mk.inj e).2
 omega)
theorem SeedIds.snoc {l:List PlV} (h:SeedIds l) {p:PlV} (h0:p.idN=0) (h1:p.idR=(l.length:Int)):SeedIds (l++[p]):=fun q hq=>by
 rw [List.length_append,List.length_singleton]
 rcases List.mem_append.1 hq with hq | hq
 ·have:=h q hq
  exact⟨this.1,this.2.1,by omega⟩
 ·have e:q=p:=by simpa using hq
  rw [e]
  exact⟨h0,by omega,by omega⟩
theorem zhm {α β:Type} (I:β->Prop) (f:β->α->β) (hf:∀a x,I a->I (f a x)):∀(l:List α) (a:β),I a->I (l.foldl f a)
 | [],a,h=>h
 | x::r,a,h=>zhm I f hf r (f a x) (hf a x h)
theorem SeedIds.K:∀(n:Nat) (i:IdV) (ks:List (Tr n)) (acc:List PlV),SeedIds acc->SeedIds (zaB n i ks acc)
 | 0,_,_,_,h=>h
 | n+1,i,ks,acc,h=>zhm SeedIds (zaZ n i) (fun a x ha=>SeedIds.K n (0,(a.length:Int)) x.1.kids (a++[zaO a.length i x.1 x.2]) (ha.snoc rfl rfl)) (List.zipIdx (α:=Nd (Tr n)) ks) acc h
theorem SeedIds.J (n:Nat) (i:IdV) (ks:List (Nd (Tr n))) (acc:List PlV) (j:Nat) (h:SeedIds acc):SeedIds (zbm n i ks acc j):=zhm SeedIds (zaZ n i) (fun a x ha=>SeedIds.K n (0,(a.length:Int)) x.1.kids (a++[zaO a.length i x.1 x.2]) (ha.snoc rfl rfl)) _ acc h
theorem zlN {n:Nat} {t:Tr (n+1)} {k:Tr n} (h:k∈t.kids):szT n k<=szT (n+1) t:=by
 show szT n k<=t.name.length+t.text.length+szA t.attrs+(t.kids.length+(t.kids.map (szT n)).sum)
 have:szT n k<=(t.kids.map (szT n)).sum:=by
  have hs:∀(l:List (Tr n)),k∈l->szT n k<=(l.map (szT n)).sum:=fun l=>by
   induction l with
   | nil=>intro h;cases h
   | cons y r ih=>
    intro h
    rw [List.map_cons,List.sum_cons]
    rcases List.mem_cons.1 h with rfl | h
    ·omega
    ·have:=ih h;omega
  exact hs _ h
 omega
theorem zdp {m:Nat} (h:m<=100000):okI (0,(m:Int)):=⟨WalkArith.wf_i64 (by omega),WalkArith.wf_i64 (by omega)⟩
def zhy (w:Xe) (C:Xd) (o:OpV):Prop:=∃k n t,C=[.int .i64 o.kind,.int .i64 o.atN,.int .i64 o.atR,.int .i64 o.nodeN,.int .i64 o.nodeR,.int .i64 o.parN,.int .i64 o.parR,k,.int .i64 o.elem,n,t,.bool o.gone]∧Ints w k o.key∧Byt w n o.name∧Byt w t o.text
def RdOps (w:Xe) (v:Xf) (l:List OpV):Prop:=Elems w 12 v l (zhy w)
theorem RdOps.keep {w w':Xe} {v:Xf} {l:List OpV} (h:RdOps w v l) (hb:Below w.heap.size w w'):RdOps w' v l:=
 Elems.keep h hb (fun C x _ ⟨k,n,t,e,h1,h2,h3⟩=>⟨k,n,t,e,h1.keep hb,h2.keep hb,h3.keep hb⟩)
theorem zcy {w W:Xe} {b off i:Nat} {o:OpV} (hW:Below w.heap.size w W) (hb:b<w.heap.size) (h:∃C:Xd,C.length=12∧(∀j,j<12->w.cell? ⟨b,off+i*12+j,none⟩=C[j]?)∧zhy w C o) :
  ∃a1 c1 a2 c2 a3 c3,W.cell? ⟨b,off+i*12,none⟩=some (.int .i64 o.kind)∧W.cell? ⟨b,off+i*12+1,none⟩=some (.int .i64 o.atN)∧W.cell? ⟨b,off+i*12+2,none⟩=some (.int .i64 o.atR)∧W.cell? ⟨b,off+i*12+3,none⟩=some (.int .i64 o.nodeN)∧W.cell? ⟨b,off+i*12+4,none⟩=some (.int .i64 o.nodeR)∧W.cell? ⟨b,off+i*12+5,none⟩=some (.int .i64 o.parN)∧W.cell? ⟨b,off+i*12+6,none⟩=some (.int .i64 o.parR)∧W.cell? ⟨b,off+i*12+7,none⟩=some (.slice a1 o.key.length c1)∧W.cell? ⟨b,off+i*12+8,none⟩=some (.int .i64 o.elem)∧W.cell? ⟨b,off+i*12+9,none⟩=some (.slice a2 o.name.length c2)∧W.cell? ⟨b,off+i*12+10,none⟩=some (.slice a3 o.text.length c3)∧W.cell? ⟨b,off+i*12+11,none⟩=some (.bool o.gone)∧
   RdOp W (zaY o (.slice a1 o.key.length c1) (.slice a2 o.name.length c2) (.slice a3 o.text.length c3)) o:=by
 obtain⟨C,_,hc,k,n,t,rfl,hk,hn,ht⟩:=h
 obtain⟨a1,c1,rfl,_,_⟩:=hk.shape
 obtain⟨a2,c2,rfl,_,_⟩:=hn.shape
 obtain⟨a3,c3,rfl,_,_⟩:=ht.shape
 have cc:∀j,j<12->W.cell? ⟨b,off+i*12+j,none⟩=w.cell? ⟨b,off+i*12+j,none⟩:=fun j hj=>hW.cell (p:=⟨b,off+i*12+j,none⟩) hb
 exact⟨a1,c1,a2,c2,a3,c3,(cc 0 (by omega)).trans (hc 0 (by omega)),(cc 1 (by omega)).trans (hc 1 (by omega)),(cc 2 (by omega)).trans (hc 2 (by omega)),(cc 3 (by omega)).trans (hc 3 (by omega)),(cc 4 (by omega)).trans (hc 4 (by omega)),(cc 5 (by omega)).trans (hc 5 (by omega)),(cc 6 (by omega)).trans (hc 6 (by omega)),(cc 7 (by omega)).trans (hc 7 (by omega)),(cc 8 (by omega)).trans (hc 8 (by omega)),(cc 9 (by omega)).trans (hc 9 (by omega)),(cc 10 (by omega)).trans (hc 10 (by omega)),(cc 11 (by omega)).trans (hc 11 (by omega)),_,_,_,rfl,hk.keep hW,hn.keep hW,ht.keep hW⟩
def szO (o:OpV):Nat:=o.key.length+o.name.length+o.text.length
def szOs (l:List OpV):Nat:=l.length+(l.map szO).sum
def sumO (l:List OpV) (k:Nat):Nat:=((l.take k).map szO).sum
theorem zjd (l:List OpV) (k:Nat) (h:k<l.length):sumO l (k+1)=sumO l k+szO l[k]:=by
 unfold sumO
 rw [List.take_succ_eq_append_getElem h]
 simp only [List.map_append,List.sum_append,List.map_cons,List.map_nil,List.sum_cons,List.sum_nil,Nat.add_zero]
theorem zqA (l:List OpV):sumO l l.length=(l.map szO).sum:=by simp [sumO]
theorem zmh (l:List OpV) (k:Nat):sumO l k<=(l.map szO).sum:=by
 have h:(l.map szO).sum=sumO l k+((l.drop k).map szO).sum:=by
  unfold sumO
  rw [<-List.sum_append,<-List.map_append,List.take_append_drop]
 omega
theorem zsY (l:List OpV) (i:Nat) (h:i<l.length):szO l[i]<=(l.map szO).sum:=by
 have h1:=zjd l i h
 have h2:=zmh l (i+1)
 omega
def zan (n r n' r':Int):Bool:=decide (n<n') || (n == n' && decide (r<r'))
theorem zgO (n r n' r':Int) :
  (zan n r n' r'=true∧decide (n<n')=true∧(n == n')=false∧n≠n')∨
  (zan n r n' r'=false∧decide (n<n')=false∧(n == n')=false∧n≠n')∨
  (n=n'∧zan n r n' r'=true∧decide (n<n')=false∧decide (r<r')=true∧r≠r')∨
  (n=n'∧zan n r n' r'=false∧decide (n<n')=false∧decide (r<r')=false):=by
 unfold zan
 simp only [Bool.or_eq_true,Bool.or_eq_false_iff,Bool.and_eq_true,Bool.and_eq_false_iff,beq_iff_eq,beq_eq_false_iff_ne,decide_eq_true_eq,decide_eq_false_iff_not]
 omega
set_option maxHeartbeats 1600000 in
theorem zfE (w:Xe) (n r n' r':Int) :
  Calls Tryz.prog 38 #[.agg #[.int .i64 n,.int .i64 r],.agg #[.int .i64 n',.int .i64 r']] w fun e w'=>e=.returned (.bool (zan n r n' r'))∧Below w.heap.size w w':=by
 have HB:=hide (((Below.refl w.heap.size w).alloc (Nat.le_refl _) (.cells #[.int .i64 n,.int .i64 r] 81)).alloc (by simp) (.cells #[.int .i64 n',.int .i64 r'] 81))
 rcases zgO n r n' r' with ⟨h,q1,q2,q3⟩ | ⟨h,q1,q2,q3⟩ | ⟨rfl,h,q1,q2,q3⟩ | ⟨rfl,h,q1,q2⟩
 all_goals
  have HE:=hide h
  clear h
  go_enter Tryz.func38,Tryz.ntmps38
  go_wp2
  go_ret
  exact⟨by rw [zaa HE];rfl,zaa HB⟩
def ordI (n r n' r':Int):Int:=if n=n'∧r=r' then 0 else if zan n r n' r' then -1 else 1
theorem zlS (n r n' r':Int):decide (ordI n r n' r' < 0)=zan n r n' r':=by
 unfold ordI
 split
 ·rename_i h
  obtain⟨rfl,rfl⟩:=h
  unfold zan
  simp
 ·split<;>simp [*]
set_option maxHeartbeats 1600000 in
theorem znh (w:Xe) (n r n' r':Int) :
  Calls Tryz.prog 117 #[.agg #[.int .i64 n,.int .i64 r],.agg #[.int .i64 n',.int .i64 r']] w fun e w'=>e=.returned (.int .i64 (ordI n r n' r'))∧Below w.heap.size w w':=by
 have HB:=hide (((Below.refl w.heap.size w).alloc (Nat.le_refl _) (.cells #[.int .i64 n,.int .i64 r] 81)).alloc (by simp) (.cells #[.int .i64 n',.int .i64 r'] 81))
 rcases zgO n r n' r' with ⟨h,q1,q2,q3⟩ | ⟨h,q1,q2,q3⟩ | ⟨rfl,h,q1,q2,q3⟩ | ⟨rfl,h,q1,q2⟩
 ·have HE:=hide (show ordI n r n' r' = -1 by unfold ordI;rw [if_neg (fun k=>q3 k.1),h];rfl)
  clear h
  go_enter Tryz.func117,Tryz.ntmps117
  go_wp2
  go_ret
  exact⟨by rw [zaa HE];rfl,zaa HB⟩
 ·have HE:=hide (show ordI n r n' r'=1 by unfold ordI;rw [if_neg (fun k=>q3 k.1),h];rfl)
  clear h
  go_enter Tryz.func117,Tryz.ntmps117
  go_wp2
  go_ret
  exact⟨by rw [zaa HE];rfl,zaa HB⟩
 ·have HE:=hide (show ordI n r n r' = -1 by unfold ordI;rw [if_neg (fun k=>q3 k.2),h];rfl)
  have q4:(r == r')=false:=by simpa using q3
  clear h
  go_enter Tryz.func117,Tryz.ntmps117
  go_wp2
  go_ret
  exact⟨by rw [zaa HE];rfl,zaa HB⟩
 ·by_cases h2:r=r'
  ·subst h2
   have HE:=hide (show ordI n r n r=0 by unfold ordI;rw [if_pos ⟨rfl,rfl⟩])
   clear h
   go_enter Tryz.func117,Tryz.ntmps117
   go_wp2
   go_ret
   exact⟨by rw [zaa HE];rfl,zaa HB⟩
  ·have HE:=hide (show ordI n r n r'=1 by unfold ordI;rw [if_neg (fun k=>h2 k.2),h];rfl)
   have q4:(r == r')=false:=by simpa using h2
   clear h
   go_enter Tryz.func117,Tryz.ntmps117
   go_wp2
   go_ret
   exact⟨by rw [zaa HE];rfl,zaa HB⟩
set_option maxHeartbeats 1600000 in
theorem zjm (w:Xe) (n r n' r':Int) :
  Calls Tryz.prog 84 #[.agg #[.int .i64 n,.int .i64 r],.agg #[.int .i64 n',.int .i64 r']] w fun e w'=>e=.returned (.bool (zan n r n' r'))∧Below w.heap.size w w':=by
 have hB:=(((Below.refl w.heap.size w).alloc (Nat.le_refl _) (.cells #[.int .i64 n,.int .i64 r] 81)).alloc (by simp) (.cells #[.int .i64 n',.int .i64 r'] 81))
 go_enter Tryz.func84,Tryz.ntmps84
 go_wp2_with fail
 refine (znh _ n r n' r').mono ?_
 rintro e w1 ⟨rfl,hB1⟩
 have hB2:=zad hB hB1
 have hl:=zlS n r n' r'
 generalize ordI n r n' r'=z at *
 go_wp2
 go_ret
 exact⟨by rw [<-hl];rfl,hB2⟩
theorem RdOps.cases {w:Xe} {v:Xf} {l:List OpV} (h:RdOps w v l):(l=[]∧∃a cap,v=.slice a 0 cap)∨(∃b off cap,v=.slice (some ⟨b,off,none⟩) l.length cap∧l≠[]∧b<w.heap.size∧∀i (hi:i<l.length),∃C:Xd,C.length=12∧(∀j,j<12->w.cell? ⟨b,off+i*12+j,none⟩=C[j]?)∧zhy w C l[i]):=by
 obtain⟨_,⟨rfl,rfl⟩ | ⟨x,cap,rfl,hc,rfl⟩ | ⟨b,off,cap,rfl,g1,g2,g3,g4,g5⟩⟩:=h
 ·exact .inl ⟨rfl,_,_,rfl⟩
 ·exact .inl ⟨rfl,_,_,rfl⟩
 ·exact .inr ⟨b,off,cap,rfl,g3,g4,g5⟩
def okAt (l:List OpV) (i:Nat):Bool:=if h:i<l.length then opB l[i] && (decide (i=0) || zan (l[i-1]'(by omega)).atN (l[i-1]'(by omega)).atR l[i].atN l[i].atR) else true
def opsB (l:List OpV):Bool:=decide (l.length<=150) && (List.range l.length).all (okAt l)
theorem ziW {l:List OpV} (h:150<l.length):opsB l=false:=by unfold opsB;rw [decide_eq_false (by omega)];rfl
theorem zlc {l:List OpV} {k:Nat} (hk:k<l.length) (h:okAt l k=false):opsB l=false:=by
 unfold opsB
 rw [Bool.and_eq_false_iff]
 right
 rw [List.all_eq_false]
 exact⟨k,by simpa using hk,by simp [h]⟩
theorem ziE {l:List OpV} (hn:l.length<=150) (h:∀j,j<l.length->okAt l j=true):opsB l=true:=by
 unfold opsB
 rw [decide_eq_true hn,Bool.true_and,List.all_eq_true]
 intro j hj
 exact h j (by simpa using hj)
theorem zme {l:List OpV} {k:Nat} (hk:k<l.length) (h:opB l[k]=false):okAt l k=false:=by unfold okAt;rw [dif_pos hk,h];rfl
theorem zov {l:List OpV} (hk:0<l.length) (h:opB l[0]=true):okAt l 0=true:=by unfold okAt;rw [dif_pos hk,h];rfl
theorem zkt {l:List OpV} {j:Nat} (hk:j+1<l.length) (h:opB l[j+1]=true):okAt l (j+1)=zan (l[j]'(by omega)).atN (l[j]'(by omega)).atR l[j+1].atN l[j+1].atR:=by
 unfold okAt
 rw [dif_pos hk,h,Bool.true_and]
 rw [decide_eq_false (by omega),Bool.false_or]
 rfl
theorem znM {a b c d e f:Int} (h:zan a b c d=true) (k:zan c d e f=true):zan a b e f=true:=by
 unfold zan at *
 simp only [Bool.or_eq_true,decide_eq_true_eq,Bool.and_eq_true,beq_iff_eq]at *
 omega
theorem zqs (a b:Int):zan a b a b=false:=by unfold zan;simp
theorem zdb {l:List OpV} (h:opsB l=true):l.length<=150∧∀j,j<l.length->okAt l j=true:=by
 unfold opsB at h
 rw [Bool.and_eq_true,decide_eq_true_eq,List.all_eq_true]at h
 exact⟨h.1,fun j hj=>h.2 j (by simpa using hj)⟩
theorem zdI {l:List OpV} (h:opsB l=true) {j:Nat} (hj:j<l.length):opB l[j]=true:=by
 have:=(zdb h).2 j hj
 unfold okAt at this
 rw [dif_pos hj,Bool.and_eq_true]at this
 exact this.1
theorem ziz {l:List OpV} (h:opsB l=true) {j:Nat} (hj:j+1<l.length):zan l[j].atN l[j].atR l[j+1].atN l[j+1].atR=true:=by
 have h1:=(zdb h).2 (j+1) hj
 rw [zkt hj (zdI h hj)]at h1
 exact h1
theorem zll {l:List OpV} (h:opsB l=true) {i j:Nat} (hij:i<j) (hj:j<l.length):zan l[i].atN l[i].atR l[j].atN l[j].atR=true:=by
 obtain⟨d,rfl⟩:∃d,j=i+1+d:=⟨j-i-1,by omega⟩
 induction d with
 | zero=>exact ziz h hj
 | succ d ih=>exact znM (ih (by omega) (by omega)) (ziz h (j:=i+1+d) hj)
def zaW (l:List PlV) (i:IdV):Int:=match posP l i with
 | some k=>(k:Int)
 | none=> -1
theorem StB.cells {w0 w:Xe} {sb:Nat} {a:Xc} {c:Nat} {l:List PlV} {F:Xb} (h:StB w0 w sb a c l F) {j:Nat} {p:PlV} (hj:l[j]? = some p) :
  ∃b k ck n cn t ct q cq,a=some ⟨b,0,none⟩∧b∈F∧w.cell? ⟨b,j*9,none⟩=some (.int .i64 p.idN)∧w.cell? ⟨b,j*9+1,none⟩=some (.int .i64 p.idR)∧w.cell? ⟨b,j*9+2,none⟩=some (.int .i64 p.parN)∧w.cell? ⟨b,j*9+3,none⟩=some (.int .i64 p.parR)∧w.cell? ⟨b,j*9+4,none⟩=some (.slice k p.key.length ck)∧w.cell? ⟨b,j*9+5,none⟩=some (.int .i64 p.kind)∧w.cell? ⟨b,j*9+6,none⟩=some (.slice n p.name.length cn)∧w.cell? ⟨b,j*9+7,none⟩=some (.slice t p.text.length ct)∧w.cell? ⟨b,j*9+8,none⟩=some (.slice q p.attrs.length cq)∧
   Byt w (.slice n p.name.length cn) p.name∧RdAttrs w (.slice q p.attrs.length cq) p.attrs∧(∀x,w.frozen? ⟨b,x,none⟩=false):=by
 obtain⟨h1,h2,h3,h4,h5,h6⟩:=h
 obtain⟨hlt,rfl⟩:=List.getElem?_eq_some_iff.1 hj
 obtain⟨Cs,Fs,l1,l2,hR,hrow,hF⟩:=h2
 obtain⟨q1,q2⟩:=hR j hlt
 have hrow':=hrow
 rcases hrow.2 with ⟨_,e0⟩ | ⟨g,cap,cur,e0,hb,hg,hnc,hcm,hcs,htake⟩
 ·omega
 injection e0 with x1 _ x3
 subst x1 x3
 have hcell:=fun x (hx:x<9)=>zaU hrow' (fun i hi=>(hR i (by omega)).1) l1 j x hlt hx
 have hrd:=PlF.rd q2 h6
 obtain⟨k,n,t,q,e,r1,r2,r3,r4⟩:=hrd
 obtain⟨ka,kc,rfl,_,_⟩:=r1.shape
 obtain⟨na,nc,rfl,_,_⟩:=r2.shape
 obtain⟨ta,tc,rfl,_,_⟩:=r3.shape
 obtain⟨qa,qc,rfl,_,_⟩:=Elems.shape r4
 rw [e]at hcell
 exact⟨g,ka,kc,na,nc,ta,tc,qa,qc,rfl,by rw [hF];simp [FB,Value.ownBlock],hcell 0 (by decide),hcell 1 (by decide),hcell 2 (by decide),hcell 3 (by decide),hcell 4 (by decide),hcell 5 (by decide),hcell 6 (by decide),hcell 7 (by decide),hcell 8 (by decide),r2,r4,fun x=>hrow'.frozenAt x⟩
set_option maxHeartbeats 3200000 in
theorem zdP (w0 w:Xe) (sb:Nat) (a:Xc) (c:Nat) (l:List PlV) (F:Xb) (i:IdV) (h:StB w0 w sb a c l F) (hl:l.length<=100000) :
  Calls Tryz.prog 108 #[.pointer (some ⟨sb,0,none⟩),.agg #[.int .i64 i.1,.int .i64 i.2]] w fun e w'=>e=.returned (.int .i64 (zaW l i))∧Below w.heap.size w w':=by
 obtain⟨iN,iR⟩:=i
 have hA:=(Below.refl w.heap.size w).alloc (Nat.le_refl _) (.cells #[.int .i64 iN,.int .i64 iR] 81)
 have lb:=Loc.made w #[.int .i64 iN,.int .i64 iR] 81
 have h1:=h.keep hA
 have LL:=hide (And.intro hA (And.intro lb h1))
 have hR:∀r,zaW l (iN,iR)=r->Hid (zaW l (iN,iR)=r):=fun r e=>hide e
 clear hA lb h h1
 go_enter Tryz.func108,Tryz.ntmps108
 go_wp2_with fail
 obtain⟨hA,lb,h1⟩:=zaa LL
 clear LL
 generalize (w.alloc (.cells #[.int .i64 iN,.int .i64 iR] 81))=w1 at *
 go_loopw [5] (fun x wr=>∃j:Nat,j<=l.length∧x=.int .i64 (j:Int)∧(∀t p,t<j->l[t]? = some p->p.id≠(iN,iR))∧Below w1.heap.size w1 wr) (fun x _=>l.length-(intOf x).toNat)
 case atStart=>exact⟨0,Nat.zero_le _,rfl,fun t p ht=>by omega,Below.refl _ _⟩
 case round=>
  obtain⟨j,hj,rfl,hno,hb⟩:=hrel
  have hr:=h1.keep hb
  have y0:wr.cell? ⟨sb,0,none⟩=some (.slice a l.length c):=hr.1.cell 0
  have lbr:=lb.all hb
  have v0:wr.cell? ⟨w.heap.size,0,none⟩=some (.int .i64 iN):=lbr.cell 0
  have v1:wr.cell? ⟨w.heap.size,1,none⟩=some (.int .i64 iR):=lbr.cell 1
  have hj0:(0:Int)<=(j:Int):=by omega
  by_cases hlt:j<l.length
  ·have hlt':(j:Int)<(l.length:Int):=by omega
   obtain⟨p,hp⟩:∃p,l[j]? = some p:=⟨l[j],by simp [hlt]⟩
   obtain⟨b,k,ck,n,cn,t,ct,x,cx,rfl,_,z0,z1,_⟩:=hr.cells hp
   clear lbr hr
   by_cases e1:p.idN=iN
   ·by_cases e2:p.idR=iR
    ·have hfi:zaW l (iN,iR)=(j:Int):=by
      have:posP l (iN,iR)=some j:=by
       obtain⟨h',rfl⟩:=List.getElem?_eq_some_iff.1 hp
       exact posP_some.2 ⟨h',by simp [PlV.id,e1,e2],fun t ht=>hno t _ ht (by simp [show t<l.length by omega])⟩
      simp [zaW,this]
     have HE:=hide (And.intro hfi (zad hA hb))
     have d1:(p.idN == iN)=true:=by simpa using e1
     have d2:(p.idR == iR)=true:=by simpa using e2
     clear hfi hno e1 e2 hb hA h1 lb
     go_wp2_with fail
     go_quiet (fail)
     go_wp2_with fail
     go_ret
     exact⟨by rw [(zaa HE).1];rfl,below_drewN (zaa HE).2 _⟩
    ·have d1:(p.idN == iN)=true:=by simpa using e1
     have d2:(p.idR == iR)=false:=by simpa using e2
     have HE:=hide (show ∀t p,t<j+1->l[t]? = some p->p.id≠(iN,iR) from fun t p' ht hp'=>by
      by_cases et:t=j
      ·subst et;rw [hp]at hp';cases hp';intro e;exact e2 (Prod.mk.inj e).2
      ·exact hno t p' (by omega) hp')
     have HB:=hide hb
     clear hno e1 e2 hb
     go_wp2_with fail
     go_quiet (fail)
     go_wp2_with fail
     go_roundw
     case rel=>exact⟨j+1,by omega,by go_num,zaa HE,below_drewN (zaa HB) _⟩
     case measure=>simp [intOf];omega
   ·have d1:(p.idN == iN)=false:=by simpa using e1
    have HE:=hide (show ∀t p,t<j+1->l[t]? = some p->p.id≠(iN,iR) from fun t p' ht hp'=>by
     by_cases et:t=j
     ·subst et;rw [hp]at hp';cases hp';intro e;exact e1 (Prod.mk.inj e).1
     ·exact hno t p' (by omega) hp')
    have HB:=hide hb
    clear hno e1 hb
    go_wp2_with fail
    go_quiet (fail)
    go_wp2_with fail
    go_roundw
    case rel=>exact⟨j+1,by omega,by go_num,zaa HE,below_drewN (zaa HB) _⟩
    case measure=>simp [intOf];omega
  ·have hlt':¬ (j:Int)<(l.length:Int):=by omega
   have hfi:zaW l (iN,iR) = -1:=by
    have:posP l (iN,iR)=none:=posP_none.2 (fun p hp=>by
     obtain⟨t,ht,rfl⟩:=List.getElem_of_mem hp
     exact hno t _ (by omega) (by simp [ht]))
    simp [zaW,this]
   have HE:=hide (And.intro hfi (zad hA hb))
   clear hfi hno hb hA h1 lb hr lbr
   go_wp2_with fail
   go_ret
   exact⟨by rw [(zaa HE).1];rfl,(zaa HE).2⟩
theorem zdQ (w:Xe) (g j:Nat) (v:Xf):w.grownBy (w.setCell ⟨g,j,none⟩ v) (some g):=⟨rfl,rfl,rfl,by simp,fun k _ hk=>heap_setCell_other w ⟨g,j,none⟩ k v (fun e=>hk (by simp [e]))⟩
theorem zrZ (w:Xe) (v:Xf) (l:Xa) (h:Byt w v l):Calls Tryz.prog 36 #[v] w fun e w'=>e=.returned (.bool (zaj l))∧w'=w:=by
 cases hv:zaj l with
 | true=>exact zdJ w v l h ((zaS _).1 hv)
 | false=>exact zfu w v l h (fun e=>by rw [(zaS _).2 e]at hv;cases hv)
set_option maxHeartbeats 3200000 in
theorem zgJ (w0 w:Xe) (sb:Nat) (a:Xc) (c:Nat) (l:List PlV) (F:Xb) (i:IdV) (h:StB w0 w sb a c l F) (hl:l.length<=100000) (kI:Int) (hk:kI=zaW l i) :
  Calls Tryz.prog 109 #[.pointer (some ⟨sb,0,none⟩),.int .i64 kI] w fun e w'=>e=.returned (.bool (zae l i))∧w'=w:=by
 cases hp:posP l i with
 | none=>
  have e1:kI = -1:=by rw [hk];simp [zaW,hp]
  have e2:zae l i=false:=by simp [zae,hp]
  subst e1
  rw [e2]
  clear hk e2 h
  go_enter Tryz.func109,Tryz.ntmps109
  go_wp2_with fail
  go_ret
  exact⟨rfl,rfl⟩
 | some k=>
  obtain⟨p,hkp,hid⟩:=zbp hp
  obtain⟨hlt,_,_⟩:=posP_some.1 hp
  have e1:kI=(k:Int):=by rw [hk];simp [zaW,hp]
  have e2:zae l i=(zcM p && !zaj p.name):=by simp [zae,hp,hkp]
  subst e1
  rw [e2]
  obtain⟨b,kk,ck,n,cn,t,ct,x,cx,rfl,_,z0,z1,_,_,_,z5,z6,_,_,hby,_⟩:=h.cells hkp
  have y0:w.cell? ⟨sb,0,none⟩=some (.slice (some ⟨b,0,none⟩) l.length c):=h.1.cell 0
  have hlt':(k:Int)<(l.length:Int):=by omega
  have hk0:(0:Int)<=(k:Int):=by omega
  have HV:=hide (zrZ w _ p.name hby)
  clear hk e2 h hby hid hp
  by_cases hz:p.kind=0
  ·have dz:(p.kind == 0)=true:=by simpa using hz
   have ez:zcM p=true:=by simp [zcM,hz]
   rw [ez]
   clear hz ez
   generalize zaj p.name=bv at *
   go_enter Tryz.func109,Tryz.ntmps109
   go_wp2_with fail
   refine (zaa HV).mono ?_
   rintro e w' ⟨rfl,rfl⟩
   cases bv with
   | true=>
    go_wp2_with fail
    go_ret
    exact⟨rfl,rfl⟩
   | false=>
    go_wp2_with fail
    go_ret
    exact⟨rfl,rfl⟩
  ·have dz:(p.kind == 0)=false:=by simpa using hz
   have ez:zcM p=false:=by simp [zcM,hz]
   rw [ez]
   clear hz ez
   go_enter Tryz.func109,Tryz.ntmps109
   go_wp2_with fail
   go_ret
   exact⟨rfl,rfl⟩
set_option maxHeartbeats 6400000 in
theorem zli (w0 w:Xe) (sb:Nat) (a:Xc) (c:Nat) (l:List PlV) (F:Xb) (i by_:IdV) (h:StB w0 w sb a c l F) (hl:l.length<=100000) :
  Calls Tryz.prog 110 #[.pointer (some ⟨sb,0,none⟩),.agg #[.int .i64 i.1,.int .i64 i.2],.agg #[.int .i64 by_.1,.int .i64 by_.2]] w fun e w'=>e=.returned (.bool (zaz l (l.length+1) i by_))∧Below w.heap.size w w':=by
 obtain⟨iN,iR⟩:=i
 obtain⟨bN,bR⟩:=by_
 have hA:Below w.heap.size w ((w.alloc (.cells #[.int .i64 iN,.int .i64 iR] 81)).alloc (.cells #[.int .i64 bN,.int .i64 bR] 81)):=zad ((Below.refl _ _).alloc (Nat.le_refl _) _) ((Below.refl _ _).alloc (Nat.le_refl _) _)
 have l0:=(Loc.made w #[.int .i64 iN,.int .i64 iR] 81).all (((Below.refl _ _).alloc (Nat.le_refl _) (.cells #[.int .i64 bN,.int .i64 bR] 81)))
 have l1:=Loc.made (w.alloc (.cells #[.int .i64 iN,.int .i64 iR] 81)) #[.int .i64 bN,.int .i64 bR] 81
 simp only [World.size_alloc]at l1
 have LL:=hide (And.intro hA (And.intro l0 l1))
 obtain⟨R,hR⟩:∃R,R=zaz l (l.length+1) (iN,iR) (bN,bR):=⟨_,rfl⟩
 rw [<-hR]
 have HR:=hide hR
 clear hA l0 l1 hR
 go_enter Tryz.func110,Tryz.ntmps110
 go_wp2_with fail
 obtain⟨hA,l0,l1⟩:=zaa LL
 clear LL
 generalize ((w.alloc (.cells #[.int .i64 iN,.int .i64 iR] 81)).alloc (.cells #[.int .i64 bN,.int .i64 bR] 81))=w1 at *
 go_loopw [7] (fun x wr=>∃(j:Nat) (cN cR:Int),j<=l.length+1∧x=.int .i64 (j:Int)∧R=zaz l (l.length+1-j) (cN,cR) (bN,bR)∧Loc wr w.heap.size #[.int .i64 cN,.int .i64 cR] 81∧Loc wr (w.heap.size+1) #[.int .i64 bN,.int .i64 bR] 81∧Below w.heap.size w wr) (fun x _=>l.length+1-(intOf x).toNat)
 case atStart=>exact⟨0,iN,iR,Nat.zero_le _,rfl,zaa HR,l0,l1,hA⟩
 case round=>
  clear l0 l1 hA HR
  obtain⟨j,cN,cR,hj,rfl,hu,l0,l1,hb⟩:=hrel
  have hs:=h.keep hb
  have y0:wr.cell? ⟨sb,0,none⟩=some (.slice a l.length c):=hs.1.cell 0
  by_cases hlt:j<=l.length
  ·have hlt':(j:Int)<=(l.length:Int):=by omega
   have v0:wr.cell? ⟨w.heap.size,0,none⟩=some (.int .i64 cN):=l0.cell 0
   have v1:wr.cell? ⟨w.heap.size,1,none⟩=some (.int .i64 cR):=l0.cell 1
   have v2:wr.cell? ⟨w.heap.size+1,0,none⟩=some (.int .i64 bN):=l1.cell 0
   have v3:wr.cell? ⟨w.heap.size+1,1,none⟩=some (.int .i64 bR):=l1.cell 1
   obtain⟨f,hf⟩:∃f,l.length+1-j=f+1:=⟨l.length-j,by omega⟩
   rw [hf]at hu
   unfold zaz at hu
   by_cases he:(cN,cR)=(bN,bR)
   ·rw [if_pos he]at hu
    subst hu
    obtain⟨e1,e2⟩:=Prod.mk.inj he
    have d1:(cN == bN)=true:=by simpa using e1
    have d2:(cR == bR)=true:=by simpa using e2
    have HB:=hide hb
    clear he e1 e2 hb hs l0 l1 h
    go_wp2_with fail
    go_ret
    exact⟨rfl,zaa HB⟩
   ·rw [if_neg he]at hu
    have dd:((cN == bN) && (cR == bR))=false:=by
     cases h1:(cN == bN)with
     | false=>rfl
     | true=>
      cases h2:(cR == bR)with
      | false=>rfl
      | true=>exact absurd (by rw [beq_iff_eq.1 h1,beq_iff_eq.1 h2]) he
    have HF:=hide (zdP w0 wr sb a c l F (cN,cR) hs hl)
    have HU:=hide hu
    have HL:=hide (And.intro hb (And.intro l0 l1))
    have hd12:(cN == bN)=false∨((cN == bN)=true∧(cR == bR)=false):=by
     cases h1:(cN == bN)with
     | false=>exact .inl rfl
     | true=>rw [h1]at dd;exact .inr ⟨rfl,by simpa using dd⟩
    clear he hu hb hs l0 l1 dd
    rcases hd12 with d1 | ⟨d1,d2⟩
    all_goals
     go_wp2_with fail
     refine (zaa HF).mono ?_
     rintro e w5 ⟨rfl,hb5⟩
     obtain⟨hb,l0,l1⟩:=zaa HL
     have hbw:=zad hb hb5
     have hs5:=h.keep hbw
     have l05:=l0.all hb5
     have l15:=l1.all hb5
     have hu:=zaa HU
     clear HF HL HU hb l0 l1 hb5 y0 v0 v1 v2 v3
     cases hp:posP l (cN,cR)with
     | none=>
      have hfi:zaW l (cN,cR) = -1:=by simp [zaW,hp]
      rw [hp]at hu
      subst hu
      rw [hfi]
      have HB:=hide hbw
      clear hfi hbw hs5 l05 l15 hp h
      go_wp2_with fail
      go_ret
      exact⟨rfl,zaa HB⟩
     | some k=>
      obtain⟨p,hkp,hid⟩:=zbp hp
      obtain⟨hkl,_,_⟩:=posP_some.1 hp
      have hfi:zaW l (cN,cR)=(k:Int):=by simp [zaW,hp]
      rw [hp]at hu
      simp only [hkp]at hu
      rw [hfi]
      by_cases hk2:k<2
      ·rw [if_pos hk2]at hu
       subst hu
       have hk2':(k:Int)<2:=by omega
       have HB:=hide hbw
       clear hfi hbw hs5 l05 l15 hp h hk2
       go_wp2_with fail
       go_ret
       exact⟨rfl,zaa HB⟩
      ·rw [if_neg hk2]at hu
       have hk2':¬ (k:Int)<2:=by omega
       have hkl':(k:Int)<(l.length:Int):=by omega
       have hk0:(0:Int)<=(k:Int):=by omega
       have y0:w5.cell? ⟨sb,0,none⟩=some (.slice a l.length c):=hs5.1.cell 0
       obtain⟨b,kk,ck,n,cn,t,ct,x,cx,rfl,_,_,_,z2,z3,_⟩:=hs5.cells hkp
       have v0:w5.cell? ⟨w.heap.size,0,none⟩=some (.int .i64 cN):=l05.cell 0
       have v1:w5.cell? ⟨w.heap.size,1,none⟩=some (.int .i64 cR):=l05.cell 1
       have g0:=l05.frozen 0
       have g1:=l05.frozen 1
       have l06:=(l05.set 0 (.int .i64 p.parN)).set 1 (.int .i64 p.parR)
       have l16:=(l15.other w.heap.size 0 (.int .i64 p.parN) (by omega)).other w.heap.size 1 (.int .i64 p.parR) (by omega)
       have hb6:Below w.heap.size w ((w5.setCell ⟨w.heap.size,0,none⟩ (.int .i64 p.parN)).setCell ⟨w.heap.size,1,none⟩ (.int .i64 p.parR)):=zei (zei hbw (zdQ _ _ _ _) (fun q hq=>by cases hq;exact Nat.le_refl _)) (zdQ _ _ _ _) (fun q hq=>by cases hq;exact Nat.le_refl _)
       have hf':l.length+1-(j+1)=f:=by omega
       have HE:=hide (And.intro l06 (And.intro l16 hb6))
       have HU:=hide (show R=zaz l (l.length+1-(j+1)) (p.parN,p.parR) (bN,bR) by rw [hf'];exact hu)
       clear hfi hbw hs5 l05 l15 l06 l16 hb6 hp hk2 hu hf'
       go_wp2_with fail
       go_roundw
       case rel=>exact⟨j+1,p.parN,p.parR,by omega,by go_num,zaa HU,(zaa HE).1,(zaa HE).2.1,(zaa HE).2.2⟩
       case measure=>simp [intOf];omega
  ·have hlt':¬ (j:Int)<=(l.length:Int):=by omega
   have e0:l.length+1-j=0:=by omega
   rw [e0]at hu
   unfold zaz at hu
   subst hu
   have HB:=hide hb
   clear hb hs l0 l1 h hlt
   go_wp2_with fail
   go_ret
   exact⟨rfl,zaa HB⟩
end Go.Proofs.YtlpnibbdmkeklaaGreatDoor
