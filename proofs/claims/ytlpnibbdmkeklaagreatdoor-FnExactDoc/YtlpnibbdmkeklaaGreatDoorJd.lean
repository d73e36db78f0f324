/- Own texts joined: MarkA, MarkM, MarkN, MarkT, Rng, NameI, AttrI, PartI, OpenE, OpenT, Pre, WalkI, OutT, RwT, RowM, PlW, FoS, OwO, Via. -/
import Derived.Test.YtlpnibbdmkeklaaGreatDoorJa
import Derived.Test.YtlpnibbdmkeklaaGreatDoorJb
import Derived.Test.YtlpnibbdmkeklaaGreatDoorJc
import Derived.RangeFuncNested
import Derived.RangeFuncBound
import Derived.RangeFuncCalls
import Derived.RangeFuncLeaves
import Derived.Shelf.Abstract
import Derived.WalkKit
import Derived.OwnWalkIn
import Derived.TacticsInMore
import Derived.LoopNIn
import Derived.LoopIn
import Derived.Test.YtlpnibbdmkeklaaGreatDoorChecked
import Derived.Test.YtlpnibbdmkeklaaGreatDoorProg
import Derived.ChangeArms
import Derived.ChangeSlices
import Derived.WideShapes
import Derived.Deep.AppendLies
import Derived.Laws.IdiomStrings
import Derived.ArgAppend
import Derived.Deep.RegionHeld3
namespace Go.Proofs.YtlpnibbdmkeklaaGreatDoor
open Go.RowKit
set_option linter.unusedVariables false
set_option maxRecDepth 100000
def cntA:List (Xa×Xa)->Nat
 | []=>0
 | x::r=>x.1.length+x.2.length+cntA r
def mkA:List (Xa×Xa)->Int->List (Xa×Xa)
 | [],_=>[]
 | x::r,k=>(zaX k x.1.length,zaX (k+(x.1.length:Nat)) x.2.length)::mkA r (k+((x.1.length+x.2.length:Nat):Int))
theorem zcX:∀(l:List (Xa×Xa)) (k:Int),(mkA l k).length=l.length
 | [],_=>rfl
 | x::r,k=>by simp [mkA,zcX r]
theorem zmr:∀(a b:List (Xa×Xa)) (k:Int),mkA (a++b) k=mkA a k++mkA b (k+(cntA a:Nat))
 | [],b,k=>by simp [mkA,cntA]
 | x::r,b,k=>by
  simp only [List.cons_append,mkA,zmr r b,cntA,List.cons.injEq,true_and]
  congr 2
  omega
theorem zhw:∀(a b:List (Xa×Xa)),cntA (a++b)=cntA a+cntA b
 | [],b=>by simp [cntA]
 | x::r,b=>by simp only [List.cons_append,cntA,zhw r b];omega
theorem zpr (l:List (Xa×Xa)) (j:Nat) (h:j<l.length):cntA (l.take (j+1))=cntA (l.take j)+(l[j].1.length+l[j].2.length):=by
 rw [List.take_succ_eq_append_getElem h,zhw]
 simp [cntA]
theorem zrP (l:List (Xa×Xa)) (j:Nat):cntA (l.take j)<=cntA l:=by
 have:=zhw (l.take j) (l.drop j)
 rw [List.take_append_drop]at this
 omega
theorem zsU (l:List (Xa×Xa)) (k:Int) (j:Nat) (h:j<l.length) (h':j<(mkA l k).length):(mkA l k)[j]=(zaX (k+(cntA (l.take j):Nat)) l[j].1.length,zaX (k+(cntA (l.take j):Nat)+(l[j].1.length:Nat)) l[j].2.length):=by
 have e:mkA l k=mkA (l.take j) k++mkA (l.drop j) (k+(cntA (l.take j):Nat)):=by rw [<-zmr,List.take_append_drop]
 have e2:l.drop j=l[j]::l.drop (j+1):=List.drop_eq_getElem_cons h
 have hl:(mkA (l.take j) k).length=j:=by rw [zcX];simp;omega
 have:(mkA l k)[j]? = some (zaX (k+(cntA (l.take j):Nat)) l[j].1.length,zaX (k+(cntA (l.take j):Nat)+(l[j].1.length:Nat)) l[j].2.length):=by
  rw [e,List.getElem?_append_right (by omega),hl,Nat.sub_self,e2,mkA]
  rfl
 rw [List.getElem?_eq_getElem h']at this
 exact Option.some.inj this
theorem OwAttr.frm {w w':Xe} {C:Xd} {x:Xa×Xa} {G S:Xb} (h:OwAttr w C x G) (f:Frm w w' S) (hd:∀g∈G,g∉S):OwAttr w' C x G:=by
 obtain⟨a,b,e,h1,h2,rfl⟩:=h
 exact⟨a,b,e,h1.frm f (fun g hg=>hd g (by simp [hg])),h2.frm f (fun g hg=>hd g (by simp [hg])),rfl⟩
set_option maxHeartbeats 3200000 in
theorem ziS (w:Xe) (v:Xf) (l:List (Xa×Xa)) (F:Xb) (k:Int) (h:OwAttrs w v l F) (hF:F.Nodup) (hs:cntA l<=4194304) (h0:0<=k) (h1:k<=900000000) :
  Calls Tryz.prog 68 #[v,.int .i64 k] w fun e w'=>e=.returned (.int .i64 (k+(cntA l:Nat)))∧OwAttrs w' v (mkA l k) F∧Frm w w' F:=by
 have hml:=OwElems.len h
 unfold maxLen at hml
 obtain⟨Cs,Fs,hCl,hFl,hR,hrow,rfl⟩:=h
 have hFv:=zda hF
 have hFn:=(List.nodup_append.1 hF).2.1
 have hC:∀i,i<Cs.length->(Cs.getD i []).length=2:=fun i hi=>(hR i (by omega)).1
 by_cases hl0:l=[]
 ·subst hl0
  have hshape:∃a cap,v=.slice a 0 cap:=by
   rcases hrow.2 with ⟨rfl,_⟩ | ⟨g,cap,cur,rfl,_⟩
   ·exact⟨_,_,rfl⟩
   ·exact⟨_,_,rfl⟩
  obtain⟨a,cap,rfl⟩:=hshape
  have HW:=hide (show OwAttrs w (.slice a 0 cap) (mkA [] k) _ from ⟨Cs,Fs,hCl,hFl,hR,hrow,rfl⟩)
  clear hrow hR
  go_enter Tryz.func68,Tryz.ntmps68
  go_wp2_with fail
  refine wp_loop_rounds 1 ?_
  rw [rounds_succ]
  go_wp2_with fail
  go_ret
  exact⟨by simp [cntA],zaa HW,Frm.refl _ _⟩
 have hv:∃g cap,v=.slice (some ⟨g,0,none⟩) l.length cap:=by
  rcases hrow.2 with ⟨_,h⟩ | ⟨g,cap,cur,rfl,_⟩
  ·exact absurd (List.eq_nil_of_length_eq_zero h) hl0
  ·exact⟨g,cap,rfl⟩
 obtain⟨g,cap,rfl⟩:=hv
 have hgF:∀i,g∉Fs.getD i []:=fun i hi=>hFv g (by simp [FB,Value.ownBlock]) (zav hi)
 have HR:=hide hR
 have HROW:=hide hrow
 have hm':(l.length:Int)<=9223372036854775807:=by omega
 clear hR hrow
 go_enter Tryz.func68,Tryz.ntmps68
 go_wp2_with fail
 go_loopw [1,5] (fun c i wr=>∃j:Nat,j<=l.length∧i=.int .i64 j∧c=.int .i64 (k+(cntA (l.take j):Nat))∧wr.ownsRow 0 144 2 (.slice (some ⟨g,0,none⟩) l.length cap) l.length Cs.flatten∧
   (∀i (hi:i<(mkA l k).length),i<j->OwAttr wr (Cs.getD i []) (mkA l k)[i] (Fs.getD i []))∧(∀i (hi:i<l.length),j<=i->OwAttr wr (Cs.getD i []) l[i] (Fs.getD i []))∧Frm w wr (FB (.slice (some ⟨g,0,none⟩) l.length cap)++Fs.flatten)) (fun _ i _=>l.length-(intOf i).toNat)
 case atStart=>exact⟨0,Nat.zero_le _,rfl,by simp [cntA],zaa HROW,fun i hi hj=>by omega,fun i hi _=>(zaa HR i hi).2,Frm.refl _ _⟩
 case round=>
  obtain⟨j,hj,rfl,rfl,hr,hdone,htodo,hf⟩:=hrel
  by_cases hjl:j<l.length
  ·obtain⟨a,b,hab,ha,hb,hFj⟩:=htodo j hjl (Nat.le_refl _)
   have e0:=zaU hr hC hCl j 0 hjl (by omega)
   have e1:=zaU hr hC hCl j 1 hjl (by omega)
   rw [hab]at e0 e1
   simp only [List.getElem?_cons_zero,List.getElem?_cons_succ,Nat.add_zero]at e0 e1
   have hct:=zpr l j hjl
   have hcl:=zrP l (j+1)
   have hFjn:=zdh (i:=j) hFn
   rw [hFj]at hFjn
   obtain⟨pa,ca,rfl,_,_⟩:=ha.byt.shape
   obtain⟨pb,cb,rfl,_,_⟩:=hb.byt.shape
   have hat:=zsU l k j hjl (by rw [zcX];exact hjl)
   obtain⟨x,hx⟩:∃x,x=l[j]:=⟨_,rfl⟩
   rw [<-hx]at ha hb hct hat e0 e1 hab hFj hFjn
   obtain⟨q,hq⟩:∃q:Int,q=k+(cntA (l.take j):Nat):=⟨_,rfl⟩
   rw [<-hq]at hat ⊢
   have hq0:0<=q:=by omega
   have hq1:q<=904194304:=by omega
   have HQ:=hide hq
   have HX:=hide hx
   have HT:=hide hat
   have HCT:=hide hct
   have HAB:=hide hab
   have HFJ:=hide hFj
   have hx1:x.1.length<=4194304:=by omega
   have hx2:x.2.length<=4194304:=by omega
   have HDN:=hide hdone
   have HTD:=hide htodo
   clear hq hx hat hct hab hFj hdone htodo hcl
   have hjl':(j:Int)<(l.length:Int):=by omega
   have hj0:(0:Int)<=(j:Int):=by omega
   go_wp2_with fail
   refine (zbU wr 0 _ x.1 q ha (Nat.le_trans hx1 (by decide)) hq0 (by omega)).mono ?_
   rintro e w1 ⟨rfl,ha1,hg1⟩
   have F1:=zbN hg1
   have hgj:∀p∈FB (.slice (some ⟨g,0,none⟩) l.length cap),p∉Fs.getD j []:=fun p hp=>by
    have:p=g:=by simpa [FB,Value.ownBlock]using hp
    rw [this];exact hgF j
   have r1:=zap hr F1 (fun p hp hp'=>hgj p hp (by rw [zaa HFJ];exact List.mem_append_left _ hp'))
   have hb1:=hb.frm F1 (fun p hp hp'=>zda hFjn p hp' hp)
   have e1':=zaU r1 hC hCl j 1 hjl (by omega)
   rw [zaa HAB]at e1'
   simp only [List.getElem?_cons_zero,List.getElem?_cons_succ]at e1'
   clear e0 e1
   go_wp2_with fail
   refine (zbU w1 0 _ x.2 (q+(x.1.length:Nat)) hb1 (Nat.le_trans hx2 (by decide)) (by omega) (by omega)).mono ?_
   rintro e w2 ⟨rfl,hb2,hg2⟩
   have F2:=zbN hg2
   have r2:=zap r1 F2 (fun p hp hp'=>hgj p hp (by rw [zaa HFJ];exact List.mem_append_right _ hp'))
   have ha2:=ha1.frm F2 (fun p hp hp'=>zda hFjn p hp hp')
   have F12:Frm wr w2 (Fs.getD j []):=(F1.mono (fun p hp=>by rw [zaa HFJ];exact List.mem_append_left _ hp)).trans (F2.mono (fun p hp=>by rw [zaa HFJ];exact List.mem_append_right _ hp))
   clear e1'
   go_wp2_with fail
   go_roundw
   case rel=>
    refine⟨j+1,by omega,by go_num,?_,r2,fun i hi hij=> ?_,fun i hi hij=> ?_,hf.trans (F12.mono (fun p hp=>List.mem_append_right _ (zav hp)))⟩
    ·rw [zaa HCT,zaa HQ];go_num
    ·by_cases e:i=j
     ·subst e
      rw [zaa HT]
      exact⟨_,_,zaa HAB,ha2,hb2,zaa HFJ⟩
     ·exact (zaa HDN i hi (by omega)).frm F12 (zbP hFn e)
    ·exact (zaa HTD i hi (by omega)).frm F12 (zbP hFn (by omega))
   case measure=>simp [intOf];omega
  ·have e:j=l.length:=by omega
   subst e
   have HW:=hide (show OwAttrs wr (.slice (some ⟨g,0,none⟩) l.length cap) (mkA l k) (FB (.slice (some ⟨g,0,none⟩) l.length cap)++Fs.flatten) from
    ⟨Cs,Fs,by rw [zcX];exact hCl,by rw [zcX];exact hFl,fun i hi=>⟨hC i (by rw [zcX]at hi;omega),hdone i hi (by rw [zcX]at hi;exact hi)⟩,by rw [zcX];exact hr,rfl⟩)
   clear hdone htodo hr
   go_wp2_with fail
   go_ret
   exact⟨by rw [List.take_length];rfl,zaa HW,hf⟩
def cntL {α:Type} (f:α->Nat):List α->Nat
 | []=>0
 | x::r=>1+f x+cntL f r
theorem zhs {α:Type} (f:α->Nat):∀a b:List α,cntL f (a++b)=cntL f a+cntL f b
 | [],b=>by simp [cntL]
 | x::r,b=>by simp only [List.cons_append,cntL,zhs f r b];omega
theorem zoE {α:Type} (f:α->Nat) (l:List α) (j:Nat) (h:j<l.length):cntL f (l.take (j+1))=cntL f (l.take j)+(1+f l[j]):=by
 rw [List.take_succ_eq_append_getElem h,zhs]
 simp [cntL]
theorem zrv {α:Type} (f:α->Nat) (l:List α) (j:Nat):cntL f (l.take j)<=cntL f l:=by
 have:=zhs f (l.take j) (l.drop j)
 rw [List.take_append_drop]at this
 omega
def mkL {α:Type} (c:α->Nat) (f:α->Int->α):List α->Int->List α
 | [],_=>[]
 | x::r,k=>f x k::mkL c f r (k+((1+c x:Nat):Int))
theorem zin {α:Type} (c:α->Nat) (f:α->Int->α):∀(l:List α) (k:Int),(mkL c f l k).length=l.length
 | [],_=>rfl
 | x::r,k=>by simp [mkL,zin c f r]
theorem zmq {α:Type} (c:α->Nat) (f:α->Int->α):∀(a b:List α) (k:Int),mkL c f (a++b) k=mkL c f a k++mkL c f b (k+(cntL c a:Nat))
 | [],b,k=>by simp [mkL,cntL]
 | x::r,b,k=>by
  simp only [List.cons_append,mkL,zmq c f r b,cntL,List.cons.injEq,true_and]
  congr 2
  omega
theorem zsH {α:Type} (c:α->Nat) (f:α->Int->α) (l:List α) (k:Int) (j:Nat) (h:j<l.length) (h':j<(mkL c f l k).length):(mkL c f l k)[j]=f l[j] (k+(cntL c (l.take j):Nat)):=by
 have e:mkL c f l k=mkL c f (l.take j) k++mkL c f (l.drop j) (k+(cntL c (l.take j):Nat)):=by rw [<-zmq,List.take_append_drop]
 have e2:l.drop j=l[j]::l.drop (j+1):=List.drop_eq_getElem_cons h
 have hl:(mkL c f (l.take j) k).length=j:=by rw [zin];simp;omega
 have:(mkL c f l k)[j]? = some (f l[j] (k+(cntL c (l.take j):Nat))):=by
  rw [e,List.getElem?_append_right (by omega),hl,Nat.sub_self,e2,mkL]
  rfl
 rw [List.getElem?_eq_getElem h']at this
 exact Option.some.inj this
def cntT:(n:Nat)->Tr n->Nat
 | 0=>fun _=>0
 | n+1=>fun t=>t.name.length+t.text.length+cntA t.attrs+cntL (cntT n) t.kids
theorem zgf (n:Nat) (t:Tr (n+1)):cntT (n+1) t=t.name.length+t.text.length+cntA t.attrs+cntL (cntT n) t.kids:=rfl
def skT:(n:Nat)->Tr n->Int->Tr n
 | 0=>fun t _=>t
 | n+1=>fun t z=>(⟨z,t.name,t.text,t.attrs,t.kids⟩:Nd (Tr n))
def mkT':(n:Nat)->Tr n->Int->Tr n
 | 0=>fun t _=>t
 | n+1=>fun t k=>(⟨t.kind,zaX k t.name.length,zaX (k+(t.name.length:Nat)) t.text.length,mkA t.attrs (k+(t.name.length:Nat)+(t.text.length:Nat)),mkL (cntT n) (fun x k=>skT n (mkT' n x (k+1)) k) t.kids (k+(t.name.length:Nat)+(t.text.length:Nat)+(cntA t.attrs:Nat))⟩:Nd (Tr n))
def mkN (n:Nat) (x:Tr n) (k:Int):Tr n:=skT n (mkT' n x (k+1)) k
def mkK (n:Nat) (l:List (Tr n)) (k:Int):List (Tr n):=mkL (cntT n) (mkN n) l k
theorem zcV (n:Nat) (l:List (Tr n)) (k:Int):(mkK n l k).length=l.length:=zin _ _ l k
theorem zsO (n:Nat) (l:List (Tr n)) (k:Int) (j:Nat) (h:j<l.length) (h':j<(mkK n l k).length):(mkK n l k)[j]=mkN n l[j] (k+(cntL (cntT n) (l.take j):Nat)):=zsH _ _ l k j h h'
theorem zqH (Cs:List (Xd)) (size:Nat) (hs:0<size) (h:∀i,i<Cs.length->(Cs.getD i []).length=size) (j:Nat) (hj:j<Cs.length) (v:Xf):(Cs.set j ((Cs.getD j []).set 0 v)).flatten=Cs.flatten.set (j*size) v:=by
 induction Cs generalizing j with
 | nil=>simp at hj
 | cons C Cs ih=>
  have h0:C.length=size:=by simpa using h 0 (by simp)
  cases j with
  | zero=>
   simp only [List.set_cons_zero,List.getD_cons_zero,List.flatten_cons,Nat.zero_mul]
   rw [List.set_append_left _ _ (by omega)]
  | succ j=>
   have e:(j+1)*size=C.length+j*size:=by rw [h0,Nat.succ_mul];omega
   rw [List.set_cons_succ,List.flatten_cons,List.flatten_cons,List.getD_cons_succ,e,List.set_append_right _ _ (by omega),Nat.add_sub_cancel_left]
   rw [ih (fun k hk=>by simpa using h (k+1) (by simpa using hk)) j (by simpa using hj)]
def zfQ (n:Nat):Prop:=∀(w:Xe) (v:Xf) (l:List (Tr n)) (F:Xb) (k:Int),OwKids n w v l F->F.Nodup->cntL (cntT n) l<=4194304->0<=k->k+(cntL (cntT n) l:Nat)<=800000000->
  Calls Tryz.prog 69 #[v,.int .i64 k] w fun e w'=>e=.returned (.int .i64 (k+(cntL (cntT n) l:Nat)))∧OwKids n w' v (mkK n l k) F∧Frm w w' F
theorem zoy (w:Xe) (a:Xc) (cap:Nat) (k:Int) :
  Calls Tryz.prog 69 #[.slice a 0 cap,.int .i64 k] w fun e w'=>e=.returned (.int .i64 k)∧w'=w:=by
 go_enter Tryz.func69,Tryz.ntmps69
 go_wp2_with fail
 refine wp_loop_rounds 1 ?_
 rw [rounds_succ]
 go_wp2_with fail
 go_ret
 exact⟨rfl,rfl⟩
theorem zgH (n:Nat) (w:Xe) (v:Xf) (F:Xb) (k:Int) (h:OwKids n w v [] F) :
  Calls Tryz.prog 69 #[v,.int .i64 k] w fun e w'=>e=.returned (.int .i64 (k+(cntL (cntT n) []:Nat)))∧OwKids n w' v (mkK n [] k) F∧Frm w w' F:=by
 obtain⟨Cs,Fs,hCl,hFl,hR,hrow,hF⟩:=h
 obtain⟨a,cap,rfl⟩:=zbA hrow
 refine (zoy w a cap k).mono ?_
 rintro e w' ⟨rfl,rfl⟩
 exact⟨by simp [cntL],⟨Cs,Fs,hCl,hFl,hR,hrow,hF⟩,Frm.refl _ _⟩
theorem OwKids.cellsLen {n:Nat} {w:Xe} {C:Xd} {t:Tr n} {F:Xb} (h:OwNode n w C t F):C.length=5:=by
 cases n with
 | zero=>exact t.elim
 | succ n=>obtain⟨a,b,c,d,Fc,Fd,rfl,_⟩:=h;rfl
theorem zpF {a b c d:Xb} (h:(a++b++c++d).Nodup):(∀g∈a,g∉b∧g∉c∧g∉d)∧(∀g∈b,g∉c∧g∉d)∧(∀g∈c,g∉d)∧c.Nodup∧d.Nodup:=by
 have h1:=List.nodup_append.1 h
 have h2:=List.nodup_append.1 h1.1
 have h3:=List.nodup_append.1 h2.1
 refine⟨fun g ha=>⟨fun hb=>h3.2.2 g ha g hb rfl,fun hc=>h2.2.2 g (List.mem_append_left _ ha) g hc rfl,fun hd=>h1.2.2 g (List.mem_append_left _ (List.mem_append_left _ ha)) g hd rfl⟩,
  fun g hb=>⟨fun hc=>h2.2.2 g (List.mem_append_right _ hb) g hc rfl,fun hd=>h1.2.2 g (List.mem_append_left _ (List.mem_append_right _ hb)) g hd rfl⟩,
  fun g hc hd=>h1.2.2 g (List.mem_append_right _ hc) g hd rfl,h2.2.1,h1.2.1⟩
set_option maxHeartbeats 6400000 in
theorem zmW (n:Nat) (H:zfQ n):zfQ (n+1):=by
 intro w v l F k h hF hs h0 h1
 have hml:=OwElems.len h
 unfold maxLen at hml
 by_cases hl0:l=[]
 ·subst hl0;exact zgH (n+1) w v F k h
 obtain⟨Cs,Fs,hCl,hFl,hR,hrow,rfl⟩:=h
 have hFv:=zda hF
 have hFn:=(List.nodup_append.1 hF).2.1
 have hv:∃g cap,v=.slice (some ⟨g,0,none⟩) l.length cap:=by
  rcases hrow.2 with ⟨_,h⟩ | ⟨g,cap,cur,rfl,_⟩
  ·exact absurd (List.eq_nil_of_length_eq_zero h) hl0
  ·exact⟨g,cap,rfl⟩
 obtain⟨g,cap,rfl⟩:=hv
 have hgF:∀i,g∉Fs.getD i []:=fun i hi=>hFv g (by simp [FB,Value.ownBlock]) (zav hi)
 have hFB:FB (.slice (some ⟨g,0,none⟩) l.length cap)=[g]:=rfl
 rw [hFB]at hF hFv ⊢
 have HR:=hide hR
 have HROW:=hide hrow
 have hm':(l.length:Int)<=9223372036854775807:=by omega
 clear hR hrow hFB
 go_enter Tryz.func69,Tryz.ntmps69
 go_wp2_with fail
 go_loopw [1,5] (fun c i wr=>∃j:Nat,j<=l.length∧i=.int .i64 j∧c=.int .i64 (k+(cntL (cntT (n+1)) (l.take j):Nat))∧∃Ds:List (Xd),Ds.length=l.length∧wr.ownsRow 0 37 5 (.slice (some ⟨g,0,none⟩) l.length cap) l.length Ds.flatten∧
   (∀i (hi:i<(mkK (n+1) l k).length),i<j->OwNode (n+1) wr (Ds.getD i []) (mkK (n+1) l k)[i] (Fs.getD i []))∧(∀i (hi:i<l.length),j<=i->OwNode (n+1) wr (Ds.getD i []) l[i] (Fs.getD i []))∧Frm w wr ([g]++Fs.flatten)) (fun _ i _=>l.length-(intOf i).toNat)
 case atStart=>exact⟨0,Nat.zero_le _,rfl,by simp [cntL],Cs,hCl,zaa HROW,fun i hi hj=>by omega,fun i hi _=>(zaa HR i hi).2,Frm.refl _ _⟩
 case round=>
  obtain⟨j,hj,rfl,rfl,Ds,hDl,hr,hdone,htodo,hf⟩:=hrel
  have hD:∀i,i<Ds.length->(Ds.getD i []).length=5:=fun i hi=>by
   by_cases hij:i<j
   ·exact OwKids.cellsLen (hdone i (by rw [zcV];omega) hij)
   ·exact OwKids.cellsLen (htodo i (by omega) (by omega))
  by_cases hjl:j<l.length
  ·obtain⟨a,b,c,d,Fc,Fd,hab,hk1,hk2,ha,hb,hc,hd,hFj⟩:=htodo j hjl (Nat.le_refl _)
   have hct:=zoE (cntT (n+1)) l j hjl
   have hcl:=zrv (cntT (n+1)) l (j+1)
   have hcs:=zgf n l[j]
   have hat:=zsO (n+1) l k j hjl (by rw [zcV];exact hjl)
   obtain⟨x,hx⟩:∃x,x=l[j]:=⟨_,rfl⟩
   rw [<-hx]at ha hb hc hd hct hcs hat hab hk1 hk2
   obtain⟨q,hq⟩:∃q:Int,q=k+(cntL (cntT (n+1)) (l.take j):Nat):=⟨_,rfl⟩
   rw [<-hq]at hat ⊢
   have hq0:0<=q:=by omega
   have hq1:q+(1+cntT (n+1) x:Nat)<=800000000:=by omega
   rw [hcs]at hq1
   obtain⟨pa,ca,rfl,_,_⟩:=ha.byt.shape
   obtain⟨pb,cb,rfl,_,_⟩:=hb.byt.shape
   obtain⟨pc,cc,rfl,_,_⟩:=Elems.shape (OwAttrs.rd hc)
   obtain⟨pd,cd,rfl,_,_⟩:=Elems.shape (OwKids.rd hd)
   have hFjn:=zdh (i:=j) hFn
   rw [hFj]at hFjn
   obtain⟨na,nb',nc',hFcn,hFdn⟩:=zpF hFjn
   have e0:=zaU hr hD hDl j 0 hjl (by omega)
   rw [hab]at e0
   simp only [List.getElem?_cons_zero,Nat.add_zero]at e0
   have f0:=hr.frozenAt (j*5)
   have hst:=hr.stored (j*5) (.int .i64 q)
   rw [<-zqH Ds 5 (by omega) hD j (by omega)]at hst
   rw [hab,List.set_cons_zero]at hst
   obtain⟨Es,hEs⟩:∃Es,Es=Ds.set j [.int .i64 q,.slice pa x.name.length ca,.slice pb x.text.length cb,.slice pc x.attrs.length cc,.slice pd x.kids.length cd]:=⟨_,rfl⟩
   rw [<-hEs]at hst
   have hEl:Es.length=l.length:=by rw [hEs];simpa using hDl
   have hEj:Es.getD j []=[.int .i64 q,.slice pa x.name.length ca,.slice pb x.text.length cb,.slice pc x.attrs.length cc,.slice pd x.kids.length cd]:=by rw [hEs];simp [List.getD_eq_getElem?_getD,show j<Ds.length by omega]
   have hEo:∀i,i≠j->Es.getD i []=Ds.getD i []:=fun i hi=>by rw [hEs];simp [List.getD_eq_getElem?_getD,Ne.symm hi]
   have hE:∀i,i<Es.length->(Es.getD i []).length=5:=fun i hi=>by
    by_cases e:i=j
    ·rw [e,hEj];rfl
    ·rw [hEo i e];exact hD i (by omega)
   obtain⟨r1,hg1⟩:=hst
   have F1:Frm wr (wr.setCell ⟨g,j*5,none⟩ (.int .i64 q)) [g]:=Frm.ofGrown hg1
   have c1:=zaU r1 hE hEl j 1 hjl (by omega)
   rw [hEj]at c1
   simp only [List.getElem?_cons_zero,List.getElem?_cons_succ]at c1
   have HX:=hide hx
   have HQ:=hide hq
   have HT:=hide hat
   have HCT:=hide hct
   have HCS:=hide hcs
   have HFJ:=hide hFj
   have HDN:=hide hdone
   have HTD:=hide htodo
   have HEJ:=hide hEj
   have hx1:x.name.length<=4194304:=by omega
   have hx2:x.text.length<=4194304:=by omega
   have hx3:cntA x.attrs<=4194304:=by omega
   have hx4:cntL (cntT n) x.kids<=4194304:=by omega
   have hxs:x.name.length+x.text.length+cntA x.attrs+cntL (cntT n) x.kids<=4194304:=by omega
   have hjl':(j:Int)<(l.length:Int):=by omega
   have hgj:∀p∈FB (.slice (some ⟨g,0,none⟩) l.length cap),p∉Fs.getD j []:=fun p hp=>by
    have:p=g:=by simpa [FB,Value.ownBlock]using hp
    rw [this];exact hgF j
   have hgn:g∉Fs.getD j []:=hgF j
   rw [zaa HFJ]at hgn hgj
   simp only [List.mem_append,not_or]at hgn hgj
   obtain⟨⟨⟨hga,hgb⟩,hgc⟩,hgd⟩:=hgn
   have ha1:=ha.frm F1 (fun p hp hp'=>by simp at hp';subst hp';exact hga hp)
   have hb1:=hb.frm F1 (fun p hp hp'=>by simp at hp';subst hp';exact hgb hp)
   have hc1:=OwAttrs.frm hc F1 (fun p hp hp'=>by simp at hp';subst hp';exact hgc hp)
   have hd1:=OwKids.frm hd F1 (fun p hp hp'=>by simp at hp';subst hp';exact hgd hp)
   clear hx hq hat hct hcs hFj hdone htodo hcl hr hEj hEs hab ha hb hc hd hFjn
   go_wp2_with fail
   generalize wr.setCell ⟨g,j*5,none⟩ (.int .i64 q)=w1 at *
   clear e0 f0 c1 hg1
   refine (zbU w1 0 _ x.name (q+1) ha1 (Nat.le_trans hx1 (by decide)) (by omega) (by omega)).mono ?_
   rintro e w2 ⟨rfl,ha2,hg2⟩
   have F2:=zbN hg2
   have r2:=zap r1 F2 (fun p hp hp'=>(hgj p hp).1.1.1 hp')
   have hb2:=hb1.frm F2 (fun p hp hp'=>(na p hp').1 hp)
   have hc2:=OwAttrs.frm hc1 F2 (fun p hp hp'=>(na p hp').2.1 hp)
   have hd2:=OwKids.frm hd1 F2 (fun p hp hp'=>(na p hp').2.2 hp)
   have c2:=zaU r2 hE hEl j 2 hjl (by omega)
   rw [zaa HEJ]at c2
   simp only [List.getElem?_cons_zero,List.getElem?_cons_succ]at c2
   clear ha1 hb1 hc1 hd1 hg2
   go_wp2_with fail
   clear c2
   refine (zbU w2 0 _ x.text (q+1+(x.name.length:Nat)) hb2 (Nat.le_trans hx2 (by decide)) (by omega) (by omega)).mono ?_
   rintro e w3 ⟨rfl,hb3,hg3⟩
   have F3:=zbN hg3
   have r3:=zap r2 F3 (fun p hp hp'=>(hgj p hp).1.1.2 hp')
   have ha3:=ha2.frm F3 (fun p hp hp'=>(na p hp).1 hp')
   have hc3:=OwAttrs.frm hc2 F3 (fun p hp hp'=>(nb' p hp').1 hp)
   have hd3:=OwKids.frm hd2 F3 (fun p hp hp'=>(nb' p hp').2 hp)
   have c3:=zaU r3 hE hEl j 3 hjl (by omega)
   rw [zaa HEJ]at c3
   simp only [List.getElem?_cons_zero,List.getElem?_cons_succ]at c3
   clear ha2 hb2 hc2 hd2 hg3
   go_wp2_with fail
   clear c3
   refine (ziS w3 _ x.attrs Fc (q+1+(x.name.length:Nat)+(x.text.length:Nat)) hc3 hFcn hx3 (by omega) (by omega)).mono ?_
   rintro e w4 ⟨rfl,hc4,F4⟩
   have r4:=zap r3 F4 (fun p hp hp'=>(hgj p hp).1.2 hp')
   have ha4:=ha3.frm F4 (fun p hp hp'=>(na p hp).2.1 hp')
   have hb4:=hb3.frm F4 (fun p hp hp'=>(nb' p hp).1 hp')
   have hd4:=OwKids.frm hd3 F4 (fun p hp hp'=>nc' p hp' hp)
   have c4:=zaU r4 hE hEl j 4 hjl (by omega)
   rw [zaa HEJ]at c4
   simp only [List.getElem?_cons_zero,List.getElem?_cons_succ]at c4
   clear ha3 hb3 hc3 hd3
   go_wp2_with fail
   clear c4
   refine (H w4 _ x.kids Fd (q+1+(x.name.length:Nat)+(x.text.length:Nat)+(cntA x.attrs:Nat)) hd4 hFdn hx4 (by omega) (by omega)).mono ?_
   rintro e w5 ⟨rfl,hd5,F5⟩
   have r5:=zap r4 F5 (fun p hp hp'=>(hgj p hp).2 hp')
   have ha5:=ha4.frm F5 (fun p hp hp'=>(na p hp).2.2 hp')
   have hb5:=hb4.frm F5 (fun p hp hp'=>(nb' p hp).2 hp')
   have hc5:=OwAttrs.frm hc4 F5 (fun p hp hp'=>nc' p hp hp')
   have FJ:Frm wr w5 ([g]++Fs.getD j []):=by
    have m1:∀p,p∈FB (Value.slice pa x.name.length ca)->p∈[g]++Fs.getD j []:=fun p hp=>by rw [zaa HFJ];simp [hp]
    have m2:∀p,p∈FB (Value.slice pb x.text.length cb)->p∈[g]++Fs.getD j []:=fun p hp=>by rw [zaa HFJ];simp [hp]
    have m3:∀p,p∈Fc->p∈[g]++Fs.getD j []:=fun p hp=>by rw [zaa HFJ];simp [hp]
    have m4:∀p,p∈Fd->p∈[g]++Fs.getD j []:=fun p hp=>by rw [zaa HFJ];simp [hp]
    exact ((((F1.mono (fun p hp=>List.mem_append_left _ hp)).trans (F2.mono m1)).trans (F3.mono m2)).trans (F4.mono m3)).trans (F5.mono m4)
   clear ha4 hb4 hc4 hd4 F1 F2 F3 F4 F5 r1 r2 r3 r4
   go_wp2_with fail
   go_roundw
   case rel=>
    refine⟨j+1,by omega,by go_num,?_,Es,hEl,r5,fun i hi hij=> ?_,fun i hi hij=> ?_,hf.trans (FJ.mono (fun p hp=> ?_))⟩
    ·rw [zaa HCT,zaa HCS,zaa HQ];go_num
    ·by_cases e:i=j
     ·subst e
      rw [zaa HT,zaa HEJ]
      have hl2:(mkK n x.kids (q+1+(x.name.length:Nat)+(x.text.length:Nat)+(cntA x.attrs:Nat))).length=x.kids.length:=zcV _ _ _
      exact⟨_,_,_,_,Fc,Fd,rfl,by show (-9223372036854775808:Int)<=q;omega,by show q<=(9223372036854775807:Int);omega,ha5,hb5,hc5,hd5,zaa HFJ⟩
     ·rw [hEo i e]
      exact (zaa HDN i hi (by omega)).frm FJ (fun p hp hp'=>by
       rcases List.mem_append.1 hp' with h | h
       ·simp at h;subst h;exact hgF i hp
       ·exact zbP hFn e p hp h)
    ·rw [hEo i (by omega)]
     exact (zaa HTD i hi (by omega)).frm FJ (fun p hp hp'=>by
      rcases List.mem_append.1 hp' with h | h
      ·simp at h;subst h;exact hgF i hp
      ·exact zbP hFn (by omega) p hp h)
    ·rcases List.mem_append.1 hp with h | h
     ·exact List.mem_append_left _ h
     ·exact List.mem_append_right _ (zav h)
   case measure=>simp [intOf];omega
  ·have e:j=l.length:=by omega
   subst e
   have HW:=hide (show OwKids (n+1) wr (.slice (some ⟨g,0,none⟩) l.length cap) (mkK (n+1) l k) ([g]++Fs.flatten) from
    ⟨Ds,Fs,by rw [zcV];exact hDl,by rw [zcV];exact hFl,fun i hi=>⟨hD i (by rw [zcV]at hi;omega),hdone i hi (by rw [zcV]at hi;exact hi)⟩,by rw [zcV];exact hr,rfl⟩)
   clear hdone htodo hr hD
   go_wp2_with fail
   go_ret
   exact⟨by first | rfl | (rw [List.take_length];rfl),zaa HW,hf⟩
theorem zob (n:Nat):zfQ n:=by
 induction n with
 | zero=>
  intro w v l F k h hF _ _ _
  cases l with
  | nil=>exact zgH 0 w v F k h
  | cons x r=>exact x.elim
 | succ n ih=>exact zmW n ih
theorem OwElems.lt {α:Type} {w:Xe} {e:Xg} {size:Nat} {v:Xf} {l:List α} {R:Xd->α->Xb->Prop} {F:Xb} (h:OwElems w e size v l R F) (hR:∀C x G,R C x G->∀g∈G,g<w.heap.size):∀g∈F,g<w.heap.size:=by
 obtain⟨Cs,Fs,h1,h2,h3,h4,rfl⟩:=h
 intro g hg
 rcases List.mem_append.1 hg with h | h
 ·exact (h4.lt g (by simpa [FB]using h)).2
 ·obtain⟨G,hG,hgG⟩:=List.mem_flatten.1 h
  obtain⟨i,hi,rfl⟩:=List.getElem_of_mem hG
  have:=(h3 i (by omega)).2
  rw [show Fs.getD i []=Fs[i] by simp [hi]]at this
  exact hR _ _ _ this g hgG
theorem OwAttr.lt {w:Xe} {C:Xd} {x:Xa×Xa} {G:Xb} (h:OwAttr w C x G):∀g∈G,g<w.heap.size:=by
 obtain⟨a,b,_,h1,h2,rfl⟩:=h
 intro g hg
 rcases List.mem_append.1 hg with h | h
 ·exact (h1.lt g (by simpa [FB]using h)).2
 ·exact (h2.lt g (by simpa [FB]using h)).2
theorem OwAttrs.lt {w:Xe} {v:Xf} {l:List (Xa×Xa)} {F:Xb} (h:OwAttrs w v l F):∀g∈F,g<w.heap.size:=OwElems.lt h (fun _ _ _ hr=>hr.lt)
theorem OwNode.lt:∀{n:Nat} {w:Xe} {C:Xd} {t:Tr n} {F:Xb},OwNode n w C t F->∀g∈F,g<w.heap.size
 | 0,_,_,t,_,_=>t.elim
 | n+1,w,C,t,F,⟨a,b,c,d,Fc,Fd,_,_,_,ha,hb,hc,hd,hF⟩=>by
  subst hF
  intro g hg
  rcases List.mem_append.1 hg with h | h
  ·rcases List.mem_append.1 h with h | h
   ·rcases List.mem_append.1 h with h | h
    ·exact (ha.lt g (by simpa [FB]using h)).2
    ·exact (hb.lt g (by simpa [FB]using h)).2
   ·exact hc.lt g h
  ·exact OwElems.lt hd (fun _ _ _ hr=>OwNode.lt hr) g h
set_option maxHeartbeats 3200000 in
theorem zpx (n:Nat) (w:Xe) (a0 a b c d:Xf) (t:Tr (n+1)) (F:Xb) (k:Int) (h:OwNode (n+1) w [a0,a,b,c,d] t F) (hF:F.Nodup) (hs:cntT (n+1) t<=4194304) (h0:0<=k) (h1:k+(cntT (n+1) t:Nat)<=800000000) :
  Calls Tryz.prog 28 #[.agg #[a0,a,b,c,d],.int .i64 k] w fun e w'=>e=.returned (.int .i64 (k+(cntT (n+1) t:Nat)))∧OwNode (n+1) w' [a0,a,b,c,d] (mkT' (n+1) t k) F∧Frm w w' F:=by
 obtain⟨_,_,_,_,Fc,Fd,e0,hk1,hk2,ha,hb,hc,hd,rfl⟩:=h
 simp only [List.cons.injEq,and_true]at e0
 obtain⟨rfl,rfl,rfl,rfl,rfl⟩:=e0
 have hcs:=zgf n t
 rw [hcs]at hs h1 ⊢
 obtain⟨na,nb',nc',hFcn,hFdn⟩:=zpF hF
 obtain⟨pa,ca,rfl,_,_⟩:=ha.byt.shape
 obtain⟨pb,cb,rfl,_,_⟩:=hb.byt.shape
 obtain⟨pc,cc,rfl,_,_⟩:=Elems.shape (OwAttrs.rd hc)
 obtain⟨pd,cd,rfl,_,_⟩:=Elems.shape (OwKids.rd hd)
 have hB1:Below w.heap.size w (w.alloc (.cells #[.int .i64 t.kind,.slice pa t.name.length ca,.slice pb t.text.length cb,.slice pc t.attrs.length cc,.slice pd t.kids.length cd] 37)):=(Below.refl _ _).alloc (Nat.le_refl _) _
 have l1:=Loc.made w #[.int .i64 t.kind,.slice pa t.name.length ca,.slice pb t.text.length cb,.slice pc t.attrs.length cc,.slice pd t.kids.length cd] 37
 have F1:=fun S=>Frm.ofBelow hB1 S
 have ha1:=ha.keep hB1
 have hb1:=hb.keep hB1
 have hc1:=OwAttrs.frm hc (F1 []) (fun _ _=>by simp)
 have hd1:=OwKids.frm hd (F1 []) (fun _ _=>by simp)
 have hqa:∀p∈FB (.slice pa t.name.length ca),p<w.heap.size:=fun p hp=>(ha.lt p (by simpa [FB]using hp)).2
 have hqb:∀p∈FB (.slice pb t.text.length cb),p<w.heap.size:=fun p hp=>(hb.lt p (by simpa [FB]using hp)).2
 have hx1:t.name.length<=4194304:=by omega
 have hx2:t.text.length<=4194304:=by omega
 have hx3:cntA t.attrs<=4194304:=by omega
 have hx4:cntL (cntT n) t.kids<=4194304:=by omega
 have hqc:=hc.lt
 clear ha hb hc hd hF hcs
 go_enter Tryz.func28,Tryz.ntmps28
 go_wp2_with fail
 generalize (w.alloc (.cells #[.int .i64 t.kind,.slice pa t.name.length ca,.slice pb t.text.length cb,.slice pc t.attrs.length cc,.slice pd t.kids.length cd] 37))=w1 at *
 refine (zbU w1 0 _ t.name k ha1 (Nat.le_trans hx1 (by decide)) h0 (by omega)).mono ?_
 rintro e w2 ⟨rfl,ha2,hg2⟩
 have F2:=zbN hg2
 have l2:=l1.frm F2 (fun hp=>by have:=hqa _ hp;omega)
 have hb2:=hb1.frm F2 (fun p hp hp'=>(na p hp').1 hp)
 have hc2:=OwAttrs.frm hc1 F2 (fun p hp hp'=>(na p hp').2.1 hp)
 have hd2:=OwKids.frm hd1 F2 (fun p hp hp'=>(na p hp').2.2 hp)
 obtain⟨x0,x1,x2,x3,x4⟩:=l2.five
 go_wp2_with fail
 refine (zbU w2 0 _ t.text (k+(t.name.length:Nat)) hb2 (Nat.le_trans hx2 (by decide)) (by omega) (by omega)).mono ?_
 rintro e w3 ⟨rfl,hb3,hg3⟩
 have F3:=zbN hg3
 have l3:=l2.frm F3 (fun hp=>by have:=hqb _ hp;omega)
 have ha3:=ha2.frm F3 (fun p hp hp'=>(na p hp).1 hp')
 have hc3:=OwAttrs.frm hc2 F3 (fun p hp hp'=>(nb' p hp').1 hp)
 have hd3:=OwKids.frm hd2 F3 (fun p hp hp'=>(nb' p hp').2 hp)
 clear x0 x1 x2 x3 x4
 obtain⟨x0,x1,x2,x3,x4⟩:=l3.five
 go_wp2_with fail
 refine (ziS w3 _ t.attrs Fc (k+(t.name.length:Nat)+(t.text.length:Nat)) hc3 hFcn hx3 (by omega) (by omega)).mono ?_
 rintro e w4 ⟨rfl,hc4,F4⟩
 have l4:=l3.frm F4 (fun hp=>by have:=hqc _ hp;omega)
 have ha4:=ha3.frm F4 (fun p hp hp'=>(na p hp).2.1 hp')
 have hb4:=hb3.frm F4 (fun p hp hp'=>(nb' p hp).1 hp')
 have hd4:=OwKids.frm hd3 F4 (fun p hp hp'=>nc' p hp' hp)
 clear x0 x1 x2 x3 x4
 obtain⟨x0,x1,x2,x3,x4⟩:=l4.five
 go_wp2_with fail
 refine (zob n w4 _ t.kids Fd (k+(t.name.length:Nat)+(t.text.length:Nat)+(cntA t.attrs:Nat)) hd4 hFdn hx4 (by omega) (by omega)).mono ?_
 rintro e w5 ⟨rfl,hd5,F5⟩
 have ha5:=ha4.frm F5 (fun p hp hp'=>(na p hp).2.2 hp')
 have hb5:=hb4.frm F5 (fun p hp hp'=>(nb' p hp).2 hp')
 have hc5:=OwAttrs.frm hc4 F5 (fun p hp hp'=>nc' p hp hp')
 go_wp2_with fail
 go_ret
 refine⟨?_,⟨_,_,_,_,Fc,Fd,rfl,hk1,hk2,ha5,hb5,hc5,hd5,rfl⟩,?_⟩
 ·refine zeP ?_;omega
 ·exact ((((F1 _).trans (F2.mono (fun p hp=>by simp [hp]))).trans (F3.mono (fun p hp=>by simp [hp]))).trans (F4.mono (fun p hp=>by simp [hp]))).trans (F5.mono (fun p hp=>by simp [hp]))
end Go.Proofs.YtlpnibbdmkeklaaGreatDoor
namespace Go.Proofs.YtlpnibbdmkeklaaGreatDoor
open Go.RowKit Go.Shelf
set_option linter.unusedVariables false
def zgv {β:Type} (D:Nat) (I:β->Xe->Prop):Prop:=
 ∀s W W' row,I s W->W.grownBy W' row->(∀r,row=some r->r=D∨r=D+1)->I s W'
def BooksSame (D:Nat) (W W':Xe):Prop:=W'.heap[D]? = W.heap[D]?∧W'.heap[D+1]? = W.heap[D+1]?
def zmA {α:Type} (D:Nat) (Mt:Nat->Obj->Prop) (I Ix:List α->Xe->Prop) (ys:List α) (W:Xe):Exit->Act->Xe->Prop
 | .normal,_,W'=>BooksSame D W W'∧Frp Mt W W'∧I ys W'
 | .ret,_,W'=>BooksSame D W W'∧Ix ys W'
 | _,_,_=>False
def zrf {α:Type} (P:Program) (gf:Nat) (lb:Array Xf) (encs:α->Array Xf) (Bx:Obj->Prop) (Mt:Nat->Obj->Prop) (xs:List α) (l:Nat) (w:Xe):Prop:=
 ∀(J Jx:List α->Xe->Prop),(∀s W W',J s W->W.grownBy W' none->J s W')->
  (∀m pre x W1,J pre W1->pre++[x] <+: xs->YieldAt Fence.wide m P l (encs x) W1 fun e W'=>
   (e=.returned (.bool true)∧J (pre++[x]) W'∧Frp Mt W1 W')∨(e=.returned (.bool false)∧Jx (pre++[x]) W'))->
  ∀(n:Nat) (W:Xe),Below w.heap.size w W->(∀q o,W.heap.size<=q->Bx o->¬ Mt q o)->J [] W->
   CallsIn Fence.wide n P gf (#[.func (.yield l) #[] #[]]++lb) W fun e W'=>(∃v,e=.returned v)∧(J xs W'∨∃pre,pre <+: xs∧Jx pre W')
theorem znr {m m':Nat} {P:Program} {l:Nat} {f:FuncId} {tmps:Array Xf} {assign body:Code} {w:Xe} {R:Ending->Xe->Prop}
  (h:RoundIn Fence.wide m P l f tmps assign body w R):RoundIn Fence.wide m' P l f tmps assign body w R:=⟨h.1,fun c cs _=>h.2 c cs (room_wide _)⟩
variable {P:Program}
theorem znO {α:Type} {n m D:Nat} {Mt:Nat->Obj->Prop} {fn:FuncId} {rec:LoopState->Option Code->Loop} {tmps:Array Xf} {assign body:Code}
  (I Ix:List α->Xe->Prop) (hI:zgv D I) (hIx:zgv D Ix) (hG:∀r,Mt (D+1) (.loop r)) (hrec:∀st pe st' pe',{ rec st pe with state:=st',pending:=pe' }=rec st' pe') (hst:∀st pe,(rec st pe).state=st)
  {pre:List α} {x:α} {W:Xe} (Ax:Act->Xe->Prop) (hAx:∀a',zgv D (fun (_:Unit) W=>Ax a' W))
  (hi:I pre W) (hD:W.heap[D]? = some (.deferred (some []))) (hL:W.heap[D+1]? = some (.loop (rec .ready none)))
  (hassign:∀K:Act->Xe->Prop,(∀a' W',Below W.heap.size W W'->Ax a' W'->K a' W')->assign.wpIn (Fence.wide.inRound (D+1)) n P (Exit.then K (fun _ _ _=>False)) { tmps:=tmps,defers:=[] } W)
  (hbody:∀a' W',I pre W'->Ax a' W'->D+2<=W'.heap.size->body.wpIn (Fence.wide.inRound (D+1)) n P (zmA D Mt I Ix (pre++[x]) W') a' W') :
  RoundIn Fence.wide m P (D+1) fn tmps assign body W fun e W'=>
   (e=.returned (.bool true)∧(I (pre++[x]) W'∧W'.heap[D]? = some (.deferred (some []))∧W'.heap[D+1]? = some (.loop (rec .ready none)))∧Frp Mt W W')∨
   (e=.returned (.bool false)∧Ix (pre++[x]) W'∧W'.heap[D]? = some (.deferred (some []))∧W'.heap[D+1]? = some (.loop (rec .done (some .ret)))):=by
 refine znr (m:=n) (roundIn_of_wpIn trivial (hassign _ ?_))
 intro a' W1 hB1 hax
 have hlt:D+1<W.heap.size:=(Array.getElem?_eq_some_iff.1 hL).1
 have hi1:I pre W1:=hI pre W W1 none hi ⟨hB1.os,hB1.tape,hB1.output,hB1.size,fun k hk _=>hB1.block k hk⟩ (fun r e=>by cases e)
 have hD1:=(hB1.block D (by omega)).trans hD
 have hL1:=(hB1.block (D+1) hlt).trans hL
 have hlt1:D+1<W1.heap.size:=(Array.getElem?_eq_some_iff.1 hL1).1
 refine⟨_,run_beginRound hL1 (hst _ _),?_⟩
 obtain⟨W2,hW2⟩:∃W2,W1.putObj (D+1) (.loop { rec .ready none with state:=.busy })=W2:=⟨_,rfl⟩
 have hg2:W1.grownBy W2 (some (D+1)):=by rw [<-hW2];exact grownBy_putObj' W1 (D+1) _
 have hL2:W2.heap[D+1]? = some (.loop { rec .ready none with state:=.busy }):=by rw [<-hW2];exact World.putObj_heap_same hlt1
 have hD2:W2.heap[D]? = some (.deferred (some [])):=by rw [<-hW2];exact (World.putObj_heap_other (by omega)).trans hD1
 have hF2:Frp Mt W W2:=(Frp.ofBelow hB1 Mt).trans (Frp.ofFrm (Frm.ofGrown hg2) (fun g h o ho=>by simp at h;subst h;rw [hL1]at ho;cases ho;exact hG _))
 rw [hW2]
 have hi2:I pre W2:=hI pre W1 W2 _ hi1 hg2 (fun r e=>by cases e;exact .inr rfl)
 have hax2:Ax a' W2:=hAx a' () W1 W2 _ hax hg2 (fun r e=>by cases e;exact .inr rfl)
 have hlt2:D+2<=W2.heap.size:=by have:=(Array.getElem?_eq_some_iff.1 hL2).1;omega
 refine wpIn_mono (hbody a' W2 hi2 hax2 hlt2) ?_
 have fin:∀(jump:Option Code) (W3:Xe),BooksSame D W2 W3->∃W4,(Instr.endRound (D+1) jump).run P W3=.ok (.bool jump.isNone) W4∧W3.grownBy W4 (some (D+1))∧W4.heap[D]? = some (.deferred (some []))∧W4.heap[D+1]? = some (.loop (rec (if jump.isNone then .ready else .done) jump)):=by
  intro jump W3 hb
  have hL3:=hb.2.trans hL2
  have hlt3:D+1<W3.heap.size:=(Array.getElem?_eq_some_iff.1 hL3).1
  refine⟨_,run_endRound jump hL3,grownBy_putObj' W3 (D+1) _,(World.putObj_heap_other (by omega)).trans (hb.1.trans hD2),?_⟩
  rw [World.putObj_heap_same hlt3]
  have:=hrec .ready none (if jump.isNone then .ready else .done) jump
  rw [<-this]
 rintro e a3 W3 hp
 cases e with
 | normal=>
  obtain⟨hb,hF3,hi3⟩:=hp
  obtain⟨W4,hr,hg4,hD4,hL4⟩:=fin none W3 hb
  exact⟨_,W4,hr,.inl ⟨rfl,⟨hI _ W3 W4 _ hi3 hg4 (fun r e=>by cases e;exact .inr rfl),hD4,hL4⟩,(hF2.trans hF3).trans (Frp.ofFrm (Frm.ofGrown hg4) (fun g h o ho=>by simp at h;subst h;rw [hb.2.trans hL2]at ho;cases ho;exact hG _))⟩⟩
 | ret=>
  obtain⟨hb,hi3⟩:=hp
  obtain⟨W4,hr,hg4,hD4,hL4⟩:=fin (some .ret) W3 hb
  exact⟨_,W4,hr,.inr ⟨rfl,hIx _ W3 W4 _ hi3 hg4 (fun r e=>by cases e;exact .inr rfl),hD4,hL4⟩⟩
 | exit id=>exact hp.elim
 | goto t=>exact hp.elim
 | panic ch=>exact hp.elim
 | outgrown=>exact hp.elim
theorem zot {α:Type} {n:Nat} {g:Operand} {ps:Array Tmp} {assign body:Code} {Q:Exit->Act->Xe->Prop} {a:Act} {w:Xe} {gf:Nat} {lb:Array Xf}
  (hg:a.eval g=.func (.func gf) #[] lb) (eg:∀args w,(callFunc gf args).run P w=.ok (.enter gf args) w)
  {encs:α->Array Xf} {Bx:Obj->Prop} {Mt:Nat->Obj->Prop} {xs:List α} (hG:∀r,Mt (w.heap.size+1) (.loop r)) (hGl:∀q o,w.heap.size+2<=q->Bx o->¬ Mt q o) (hseq:zrf P gf lb encs Bx Mt xs (w.heap.size+1) w) (hps:∀x,(encs x).size=ps.size)
  (I Ix:List α->Xe->Prop) (hI:zgv w.heap.size I) (hIx:zgv w.heap.size Ix) (h0:I [] w)
  (Ax:α->Act->Xe->Prop) (hAx:∀x a',zgv w.heap.size (fun (_:Unit) W=>Ax x a' W))
  (hassign:∀(pre:List α) (x:α) (W:Xe) (K:Act->Xe->Prop),I pre W->w.heap.size+2<=W.heap.size->(∀a' W',Below W.heap.size W W'->Ax x a' W'->K a' W')->
   assign.wpIn (Fence.wide.inRound (w.heap.size+1)) n P (Exit.then K (fun _ _ _=>False)) { tmps:=(ps.zip (encs x)).foldl (fun t (p,v)=>t.setIfInBounds p v) a.tmps,defers:=[] } W)
  (hbody:∀(pre:List α) (x:α) (a':Act) (W:Xe),I pre W->Ax x a' W->pre++[x] <+: xs->w.heap.size+2<=W.heap.size->
   body.wpIn (Fence.wide.inRound (w.heap.size+1)) n P (zmA w.heap.size Mt I Ix (pre++[x]) W) a' W)
  (hdone:∀W:Xe,I xs W->W.heap[w.heap.size]? = some (.deferred (some []))->Q .normal { a with defers:={ target:=.collected w.heap.size,args:= #[] }::a.defers } W)
  (hstop:∀(pre:List α) (W:Xe),pre <+: xs->Ix pre W->W.heap[w.heap.size]? = some (.deferred (some []))->Code.ret.wpIn Fence.wide n P Q { a with defers:={ target:=.collected w.heap.size,args:= #[] }::a.defers } W) :
  (Code.rangeFunc g ps assign body).wpIn Fence.wide n P Q a w:=by
 refine wpIn_rangeFunc ?_
 intro fn hfn
 obtain⟨rec,hrec⟩:∃rec:LoopState->Option Code->Loop,rec=fun st pe=>{ state:=st,pending:=pe,fn,tmps:=a.tmps,params:=ps,assign,body,defers:=w.heap.size }:=⟨_,rfl⟩
 obtain⟨W1,hW1⟩:∃W1,(w.alloc (.deferred (some []))).alloc (.loop (rec .ready none))=W1:=⟨_,rfl⟩
 have hL1:W1.heap[w.heap.size+1]? = some (.loop (rec .ready none)):=by
  rw [<-hW1];have:=World.alloc_heap_new (w.alloc (.deferred (some []))) (.loop (rec .ready none));rwa [World.size_alloc]at this
 have hD1:W1.heap[w.heap.size]? = some (.deferred (some [])):=by
  rw [<-hW1];exact (Below.heap_alloc _ _ _ (by simp)).trans (World.alloc_heap_new w _)
 have hB1:Below w.heap.size w W1:=by rw [<-hW1];exact ((Below.refl _ w).alloc (Nat.le_refl _) _).alloc (by simp) _
 have hI1:I [] W1:=hI [] w W1 none h0 ⟨hB1.os,hB1.tape,hB1.output,hB1.size,fun k hk _=>hB1.block k hk⟩ (fun r e=>by cases e)
 refine⟨w.heap.size+1,[{ target:=.collected w.heap.size,args:= #[] }],W1,{ target:=.fn (.func gf) lb,args:= #[.func (.yield (w.heap.size+1)) #[] #[]] },W1,gf,
  #[.func (.yield (w.heap.size+1)) #[] #[]]++lb,W1,?_,?_,fun _ _=>trivial,?_,(fun h=>(by cases h)),?_⟩
 ·rw [<-hW1,hrec];exact run_enterLoop_outer _ _ _ _ _
 ·simp only [resolve,hg]
  simp [go_sem]
 ·simp [invoke,go_sem,eg]
 ·refine (hseq
   (fun pre W=>I pre W∧W.heap[w.heap.size]? = some (.deferred (some []))∧W.heap[w.heap.size+1]? = some (.loop (rec .ready none)))
   (fun pre W=>Ix pre W∧W.heap[w.heap.size]? = some (.deferred (some []))∧W.heap[w.heap.size+1]? = some (.loop (rec .done (some .ret)))) ?_ ?_ (n-1) W1 hB1 (fun q o h hb=>hGl q o (by have:=(Array.getElem?_eq_some_iff.1 hL1).1;omega) hb) ⟨hI1,hD1,hL1⟩).mono ?_
  ·rintro s W W' ⟨hi,hD,hL⟩ hg'
   exact⟨hI s W W' none hi hg' (fun r e=>by cases e),(hg'.block _ (Array.getElem?_eq_some_iff.1 hD).1 (by simp)).trans hD,(hg'.block _ (Array.getElem?_eq_some_iff.1 hL).1 (by simp)).trans hL⟩
  ·rintro m pre x W ⟨hi,hD,hL⟩ hpx
   have hy:=run_yield (P:=P) (args:=encs x) hL (by rw [hrec];exact hps x)
   rw [hrec]at hy
   refine⟨fn,_,assign,body,hy,?_⟩
   refine (znO (n:=n) (m:=m) (fn:=fn) (x:=x) I Ix hI hIx hG (by rw [hrec];exact fun _ _ _ _=>rfl) (by rw [hrec];exact fun _ _=>rfl) (Ax x) (hAx x) hi hD hL (fun K hK=>hassign pre x W K hi (by have:=(Array.getElem?_eq_some_iff.1 hL).1;omega) hK) (fun a' W' hi' hax hl=>hbody pre x a' W' hi' hax hpx hl)).mono ?_
   rintro e W' (⟨rfl,h1,h2⟩ | ⟨rfl,h1⟩)
   ·exact .inl ⟨rfl,h1,h2⟩
   ·exact .inr ⟨rfl,h1⟩
  ·rintro e W2 ⟨⟨v,rfl⟩,(⟨hi,hD,hL⟩ | ⟨pre,hpre,hi,hD,hL⟩)⟩
   ·have he:=run_endLoop (P:=P) hL (by rw [hrec];simp)
    rw [hrec]at he
    exact⟨none,_,he,hdone _ (hI xs W2 _ _ hi (grownBy_putObj' W2 _ _) (fun r e=>by cases e;exact .inr rfl)) ((World.putObj_heap_other (by omega)).trans hD)⟩
   ·have he:=run_endLoop (P:=P) hL (by rw [hrec];simp)
    rw [hrec]at he
    exact⟨some .ret,_,he,hstop pre _ hpre (hIx pre W2 _ _ hi (grownBy_putObj' W2 _ _) (fun r e=>by cases e;exact .inr rfl)) ((World.putObj_heap_other (by omega)).trans hD)⟩
end Go.Proofs.YtlpnibbdmkeklaaGreatDoor
namespace Go.Proofs.YtlpnibbdmkeklaaGreatDoor
open Go.RowKit
set_option linter.unusedVariables false
def zfK (x:Int):Bool:=decide (97<=x∧x<=122)
def digB (x:Int):Bool:=decide (48<=x∧x<=57)
theorem zeY {x:Int} (h:97<=x∧x<=122):zfK x=true:=by unfold zfK;simpa using h
theorem zey {x:Int} (h:¬ (97<=x∧x<=122)):zfK x=false:=by unfold zfK;simpa using h
theorem zjY {x:Int} (h:48<=x∧x<=57):digB x=true:=by unfold digB;simpa using h
theorem zii {x:Int} (h:¬ (48<=x∧x<=57)):digB x=false:=by unfold digB;simpa using h
theorem zdE (x:Int) (w:Xe):Calls Tryz.prog 135 #[.int .u8 x] w fun e w'=>e=.returned (.bool (zfK x))∧w'=w:=by
 by_cases h1:97<=x
 ·by_cases h2:x<=122
  ·have HD:=hide (zeY ⟨h1,h2⟩)
   go_enter Tryz.func135,Tryz.ntmps135
   go_wp2
   go_ret
   exact⟨by rw [zaa HD];rfl,rfl⟩
  ·have HD:=hide (zey (x:=x) (by omega))
   go_enter Tryz.func135,Tryz.ntmps135
   go_wp2
   go_ret
   exact⟨by rw [zaa HD];rfl,rfl⟩
 ·have HD:=hide (zey (x:=x) (by omega))
  have d1:decide (97<=x)=false:=by simpa using h1
  go_enter Tryz.func135,Tryz.ntmps135
  go_wp2
  go_ret
  exact⟨by rw [zaa HD];rfl,rfl⟩
theorem zml (x:Int) (w:Xe):Calls Tryz.prog 136 #[.int .u8 x] w fun e w'=>e=.returned (.bool (digB x))∧w'=w:=by
 by_cases h1:48<=x
 ·by_cases h2:x<=57
  ·have HD:=hide (zjY ⟨h1,h2⟩)
   go_enter Tryz.func136,Tryz.ntmps136
   go_wp2
   go_ret
   exact⟨by rw [zaa HD];rfl,rfl⟩
  ·have HD:=hide (zii (x:=x) (by omega))
   go_enter Tryz.func136,Tryz.ntmps136
   go_wp2
   go_ret
   exact⟨by rw [zaa HD];rfl,rfl⟩
 ·have HD:=hide (zii (x:=x) (by omega))
  have d1:decide (48<=x)=false:=by simpa using h1
  go_enter Tryz.func136,Tryz.ntmps136
  go_wp2
  go_ret
  exact⟨by rw [zaa HD];rfl,rfl⟩
def zfV (x:Int):Bool:=decide (32<=x∧x<=126)
theorem zhT {x:Int} (h:32<=x∧x<=126):zfV x=true:=by unfold zfV;simpa using h
theorem zgb {x:Int} (h:¬ (32<=x∧x<=126)):zfV x=false:=by unfold zfV;simpa using h
theorem zix (x:Int) (w:Xe):Calls Tryz.prog 134 #[.int .u8 x] w fun e w'=>e=.returned (.bool (zfV x))∧w'=w:=by
 by_cases h1:32<=x
 ·by_cases h2:x<=126
  ·have HD:=hide (zhT ⟨h1,h2⟩)
   go_enter Tryz.func134,Tryz.ntmps134
   go_wp2
   go_ret
   exact⟨by rw [zaa HD];rfl,rfl⟩
  ·have HD:=hide (zgb (x:=x) (by omega))
   go_enter Tryz.func134,Tryz.ntmps134
   go_wp2
   go_ret
   exact⟨by rw [zaa HD];rfl,rfl⟩
 ·have HD:=hide (zgb (x:=x) (by omega))
  have d1:decide (32<=x)=false:=by simpa using h1
  go_enter Tryz.func134,Tryz.ntmps134
  go_wp2
  go_ret
  exact⟨by rw [zaa HD];rfl,rfl⟩
theorem zlq (w:Xe) (a:Xc) (n cap:Nat) (h:n<1∨8<n) :
  Calls Tryz.prog 114 #[.slice a n cap] w fun e w'=>e=.returned (.bool false)∧w'=w:=by
 by_cases h1:n<1
 ·have h1':(n:Int)<1:=by omega
  go_enter Tryz.func114,Tryz.ntmps114
  go_wp2_with fail
  go_ret
  exact⟨rfl,rfl⟩
 ·have h1':decide ((n:Int)<1)=false:=by simp;omega
  have h2:(8:Int)<(n:Int):=by omega
  go_enter Tryz.func114,Tryz.ntmps114
  go_wp2_with fail
  go_ret
  exact⟨rfl,rfl⟩
open Classical in
set_option maxHeartbeats 1600000 in
theorem zoO (w:Xe) (b off cap:Nat) (l:Xa) (hok:okB l) (h1:1<=l.length) (h8:l.length<=8)
  (hc:∀i,i<l.length->w.cell? ⟨b,off+i,none⟩=some (.int .u8 (l.getD i 0))) :
  Calls Tryz.prog 114 #[.slice (some ⟨b,off,none⟩) l.length cap] w fun e w'=>e=.returned (.bool (decide (zah l)))∧w'=w:=by
 have d1:decide ((l.length:Int)<1)=false:=by simp;omega
 have d2:decide ((8:Int)<(l.length:Int))=false:=by simp;omega
 have hl0:(0:Int)<(l.length:Int):=by omega
 obtain⟨y,hy⟩:∃y,y=l.getD 0 0:=⟨_,rfl⟩
 have hcy:w.cell? ⟨b,off,none⟩=some (.int .u8 y):=by rw [hy];exact hc 0 (by omega)
 have HY:=hide hy
 clear hy
 by_cases hs:97<=y∧y<=122
 ·have sy:=zeY hs
  go_enter Tryz.func114,Tryz.ntmps114
  go_wp2_with (go_at_call 135;refine (zdE y w).mono ?_;rintro e w' ⟨rfl,rfl⟩)
  go_loop [22] (fun i=>∃k:Nat,k<=l.length∧i=.int .i64 k∧zcD zcK l k) (fun i=>l.length-(intOf i).toNat)
  case atStart=>exact⟨0,Nat.zero_le _,rfl,fun i hi=>by omega⟩
  case round=>
   obtain⟨k,hk,rfl,ha⟩:=hrel
   have HA:=hide ha
   clear ha
   by_cases hlt:k<l.length
   ·obtain⟨x,hx⟩:∃x,x=l.getD k 0:=⟨_,rfl⟩
    have hcx:w'.cell? ⟨b,off+k,none⟩=some (.int .u8 x):=by rw [hx];exact hc _ hlt
    have HX:=hide hx
    have hlt':(k:Int)<(l.length:Int):=by omega
    clear hc hcy sy hx
    by_cases hn:97<=x∧x<=122
    ·have HN:=hide (show zcK k x from .inl hn)
     have sx:=zeY hn
     clear hn
     go_wp2_with (go_at_call 135;refine (zdE x _).mono ?_;rintro e w' ⟨rfl,rfl⟩)
     go_round
     case rel=>exact⟨k+1,by omega,by go_num,zcj (zaa HA) (by rw [<-zaa HX];exact zaa HN)⟩
     case measure=>simp [intOf];omega
    ·have sx:=zey hn
     by_cases hd:48<=x∧x<=57
     ·have hk0:0<k:=by
       by_cases e:k=0
       ·subst e;exact absurd hs (by rw [zaa HY,<-zaa HX];exact hn)
       ·omega
      have HN:=hide (show zcK k x from .inr ⟨hk0,hd⟩)
      have sd:=zjY hd
      clear hn hd
      go_wp2_with (first | (go_at_call 135;refine (zdE x _).mono ?_;rintro e w' ⟨rfl,rfl⟩) | (go_at_call 136;refine (zml x _).mono ?_;rintro e w' ⟨rfl,rfl⟩))
      go_round
      case rel=>exact⟨k+1,by omega,by go_num,zcj (zaa HA) (by rw [<-zaa HX];exact zaa HN)⟩
      case measure=>simp [intOf];omega
     ·have sd:=zii hd
      have HF:=hide (show decide (zah l)=false by
       simp only [decide_eq_false_iff_not]
       rintro⟨_,_,h⟩
       have:=h k hlt
       rw [<-zaa HX]at this
       rcases this with h | ⟨_,h⟩
       ·exact hn h
       ·exact hd h)
      clear hn hd
      go_wp2_with (first | (go_at_call 135;refine (zdE x _).mono ?_;rintro e w' ⟨rfl,rfl⟩) | (go_at_call 136;refine (zml x _).mono ?_;rintro e w' ⟨rfl,rfl⟩))
      go_ret
      exact⟨by rw [zaa HF];rfl,rfl⟩
   ·have e:k=l.length:=by omega
    subst e
    have HF:=hide (show decide (zah l)=true by simp only [decide_eq_true_eq];exact⟨h1,h8,zaa HA⟩)
    clear hc
    go_wp2_with fail
    go_ret
    exact⟨by rw [zaa HF];rfl,rfl⟩
 ·have sy:=zey hs
  have HF:=hide (show decide (zah l)=false by
   simp only [decide_eq_false_iff_not]
   rintro⟨_,_,h⟩
   have:=h 0 (by omega)
   rw [<-zaa HY]at this
   rcases this with h | ⟨h,_⟩
   ·exact hs h
   ·omega)
  clear hc hs
  go_enter Tryz.func114,Tryz.ntmps114
  go_wp2_with (go_at_call 135;refine (zdE y w).mono ?_;rintro e w' ⟨rfl,rfl⟩)
  go_ret
  exact⟨by rw [zaa HF];rfl,rfl⟩
open Classical in
theorem zeF (w:Xe) (v:Xf) (l:Xa) (h:Byt w v l) :
  Calls Tryz.prog 114 #[v] w fun e w'=>e=.returned (.bool (decide (zah l)))∧w'=w:=by
 by_cases hl:l.length<1∨8<l.length
 ·obtain⟨a,cap,rfl,_⟩:=h.shape
  have hd:decide (zah l)=false:=by simp only [decide_eq_false_iff_not];rintro⟨_,_,_⟩;omega
  rw [hd]
  exact zlq w a _ cap hl
 ·obtain⟨hok,hm,⟨rfl,rfl⟩ | ⟨x,cap,rfl,hc,rfl⟩ | ⟨b,off,cap,rfl,_,_,_,_,h5⟩⟩:=h
  ·simp at hl
  ·simp at hl
  ·exact zoO w b off cap l hok (by omega) (by omega) h5
theorem zjo (w:Xe) (v:Xf) (l:Xa) (h:Byt w v l) (hn:zah l):Calls Tryz.prog 114 #[v] w fun e w'=>e=.returned (.bool true)∧w'=w:=by
 refine (zeF w v l h).mono ?_
 rintro e w' ⟨rfl,h⟩
 exact⟨by simp [hn],h⟩
theorem zqS (w:Xe) (v:Xf) (l:Xa) (h:Byt w v l) (hn:¬ zah l):Calls Tryz.prog 114 #[v] w fun e w'=>e=.returned (.bool false)∧w'=w:=by
 refine (zeF w v l h).mono ?_
 rintro e w' ⟨rfl,h⟩
 exact⟨by simp [hn],h⟩
open Classical in
set_option maxHeartbeats 1600000 in
theorem zeE (w:Xe) (v:Xf) (l:Xa) (h:Byt w v l) :
  Calls Tryz.prog 113 #[v] w fun e w'=>e=.returned (.bool (decide (zat l)))∧w'=w:=by
 by_cases hl:30<l.length
 ·obtain⟨a,cap,rfl,_⟩:=h.shape
  have HD:=hide (show decide (zat l)=false by simp only [decide_eq_false_iff_not];rintro⟨_,_⟩;omega)
  have d2:(30:Int)<(l.length:Int):=by omega
  go_enter Tryz.func113,Tryz.ntmps113
  go_wp2
  go_ret
  exact⟨by rw [zaa HD];rfl,rfl⟩
 have d2:¬ (30:Int)<(l.length:Int):=by omega
 by_cases h0:l=[]
 ·obtain⟨a,cap,rfl,_⟩:=h.shape
  subst h0
  have HD:=hide (show decide (zat [])=true by simp only [decide_eq_true_eq];exact⟨by simp,fun i hi=>by simp at hi⟩)
  go_enter Tryz.func113,Tryz.ntmps113
  go_wp2
  refine wp_loop_rounds 1 ?_
  rw [rounds_succ]
  go_wp2
  go_ret
  exact⟨by rw [zaa HD];rfl,rfl⟩
 obtain⟨hok,hm,⟨_,e⟩ | ⟨_,_,_,_,e⟩ | ⟨b,off,cap,rfl,_,_,_,_,hc⟩⟩:=h
 ·exact absurd e h0
 ·exact absurd e h0
 go_enter Tryz.func113,Tryz.ntmps113
 go_wp2
 go_loop [10] (fun i=>∃k:Nat,k<=l.length∧i=.int .i64 k∧zcD zcp l k) (fun i=>l.length-(intOf i).toNat)
 case atStart=>exact⟨0,Nat.zero_le _,rfl,fun i hi=>by omega⟩
 case round=>
  obtain⟨k,hk,rfl,ha⟩:=hrel
  have HA:=hide ha
  clear ha
  by_cases hlt:k<l.length
  ·obtain⟨x,hx⟩:∃x,x=l.getD k 0:=⟨_,rfl⟩
   have hcx:w.cell? ⟨b,off+k,none⟩=some (.int .u8 x):=by rw [hx];exact hc _ hlt
   have HX:=hide hx
   have hlt':(k:Int)<(l.length:Int):=by omega
   clear hc hx
   by_cases hn:zcp k x
   ·have HN:=hide hn
    have sx:=zhT (x:=x) (by unfold zcp at hn;omega)
    clear hn
    go_wp2_with (go_at_call 134;refine (zix x _).mono ?_;rintro e w' ⟨rfl,rfl⟩)
    go_round
    case rel=>exact⟨k+1,by omega,by go_num,zcj (zaa HA) (by rw [<-zaa HX];exact zaa HN)⟩
    case measure=>simp [intOf];omega
   ·have HF:=hide (show decide (zat l)=false by
     simp only [decide_eq_false_iff_not]
     rintro⟨_,h⟩
     exact hn (by rw [zaa HX];exact h k hlt))
    have sx:=zgb (x:=x) (by unfold zcp at hn;omega)
    clear hn
    go_wp2_with (go_at_call 134;refine (zix x _).mono ?_;rintro e w' ⟨rfl,rfl⟩)
    go_ret
    exact⟨by rw [zaa HF];rfl,rfl⟩
  ·have e:k=l.length:=by omega
   subst e
   have HF:=hide (show decide (zat l)=true by simp only [decide_eq_true_eq];exact⟨by omega,zaa HA⟩)
   clear hc
   go_wp2
   go_ret
   exact⟨by rw [zaa HF];rfl,rfl⟩
theorem zpi (w:Xe) (v:Xf) (l:Xa) (h:Byt w v l) (hn:zat l):Calls Tryz.prog 113 #[v] w fun e w'=>e=.returned (.bool true)∧w'=w:=by
 refine (zeE w v l h).mono ?_
 rintro e w' ⟨rfl,h⟩
 exact⟨by simp [hn],h⟩
theorem zpI (w:Xe) (v:Xf) (l:Xa) (h:Byt w v l) (hn:¬ zat l):Calls Tryz.prog 113 #[v] w fun e w'=>e=.returned (.bool false)∧w'=w:=by
 refine (zeE w v l h).mono ?_
 rintro e w' ⟨rfl,h⟩
 exact⟨by simp [hn],h⟩
set_option maxRecDepth 100000
open Classical in
set_option maxHeartbeats 3200000 in
theorem zmH (w:Xe) (v:Xf) (l:List (Xa×Xa)) (h:RdAttrs w v l) :
  Calls Tryz.prog 125 #[v] w fun e w'=>e=.returned (.bool (decide (zal l)))∧Below w.heap.size w w':=by
 by_cases hl:4<l.length
 ·obtain⟨a,cap,rfl,_⟩:=Elems.shape h
  have HD:=hide (show decide (zal l)=false by simp only [decide_eq_false_iff_not];rintro⟨_,_⟩;omega)
  have d2:(4:Int)<(l.length:Int):=by omega
  go_enter Tryz.func125,Tryz.ntmps125
  go_wp2_with fail
  go_ret
  exact⟨by rw [zaa HD];rfl,Below.refl _ _⟩
 have d2:¬ (4:Int)<(l.length:Int):=by omega
 by_cases h0:l=[]
 ·obtain⟨a,cap,rfl,_⟩:=Elems.shape h
  subst h0
  have HD:=hide (show decide (zal [])=true by simp only [decide_eq_true_eq];exact⟨by simp,fun i hi=>by simp at hi⟩)
  go_enter Tryz.func125,Tryz.ntmps125
  go_wp2_with fail
  refine wp_loop_rounds 1 ?_
  rw [rounds_succ]
  go_wp2_with fail
  go_ret
  exact⟨by rw [zaa HD];rfl,Below.refl _ _⟩
 obtain⟨_,⟨_,e⟩ | ⟨_,_,_,_,e⟩ | ⟨b,off,cap,rfl,g1,g2,g3,g4,g5⟩⟩:=h
 ·exact absurd e h0
 ·exact absurd e h0
 go_enter Tryz.func125,Tryz.ntmps125
 go_wp2_with fail
 go_loopw [10] (fun i wr=>∃k:Nat,k<=l.length∧i=.int .i64 k∧(∀i,i<k->zcc l i)∧Below w.heap.size w wr) (fun i _=>l.length-(intOf i).toNat)
 case atStart=>exact⟨0,Nat.zero_le _,rfl,fun i hi=>by omega,Below.refl _ _⟩
 case round=>
  obtain⟨k,hk,rfl,ha,hB⟩:=hrel
  have HA:=hide ha
  clear ha
  by_cases hlt:k<l.length
  ·obtain⟨c0,c1,e0,e1,hc⟩:=zeQ (g5 k hlt)
   obtain⟨_,_,ee,hc0,hc1⟩:=hc
   simp only [List.cons.injEq,and_true]at ee
   obtain⟨rfl,rfl⟩:=ee
   replace e0:=(hB.cell (p:=⟨b,off+k*2,none⟩) g4).trans e0
   replace e1:=(hB.cell (p:=⟨b,off+k*2+1,none⟩) g4).trans e1
   replace hc0:=hc0.keep hB
   replace hc1:=hc1.keep hB
   have hlt':(k:Int)<(l.length:Int):=by omega
   have hk0:(0:Int)<=(k:Int):=by omega
   obtain⟨x,hx⟩:∃x,x=l[k]:=⟨_,rfl⟩
   rw [<-hx]at hc0 hc1
   have hgd:l.getD k ([],[])=x:=by rw [hx];simp [hlt]
   obtain⟨a0,n0,hv0,_,_⟩:=hc0.shape
   obtain⟨a1,n1,hv1,_,_⟩:=hc1.shape
   subst hv0 hv1
   have HGD:=hide hgd
   have HX:=hide hx
   clear hgd hx
   have hB1:Below wr.heap.size wr (wr.alloc (.cells #[.slice a0 x.1.length n0,.slice a1 x.2.length n1] 144)):=(Below.refl _ _).alloc (Nat.le_refl _) _
   have l1:=Loc.made wr #[.slice a0 x.1.length n0,.slice a1 x.2.length n1] 144
   have hcell:∀j,j<l.length->∃y:Xf,y∈[y]∧wr.cell? ⟨b,off+j*2,none⟩=some y∧Byt wr y (l.getD j ([],[])).1:=by
    intro j hj
    obtain⟨p0,p1,u0,u1,hp⟩:=zeQ (g5 j hj)
    obtain⟨_,_,ee,hp0,hp1⟩:=hp
    simp only [List.cons.injEq,and_true]at ee
    obtain⟨rfl,rfl⟩:=ee
    exact⟨_,by simp,(hB.cell (p:=⟨b,off+j*2,none⟩) g4).trans u0,by rw [show l.getD j ([],[])=l[j] by simp [hj]];exact hp0.keep hB⟩
   have HC:=hide hcell
   clear hcell g5
   have hbs:b<wr.heap.size:=Nat.lt_of_lt_of_le g4 hB.size
   generalize hn0:x.1.length=m0 at *
   generalize hn1:x.2.length=m1 at *
   clear hn0 hn1
   go_wp2_with fail
   generalize wr.alloc (.cells #[.slice a0 m0 n0,.slice a1 m1 n1] 144)=w1 at *
   have c0:w1.cell? ⟨wr.heap.size,0,none⟩=some (.slice a0 m0 n0):=l1.cell 0
   have c1:w1.cell? ⟨wr.heap.size,1,none⟩=some (.slice a1 m1 n1):=l1.cell 1
   have hA1:=zad hB hB1
   have HB1:=hide hB1
   clear hB1 e0 e1
   refine (zeF w1 _ x.1 (hc0.keep (zaa HB1))).mono ?_
   rintro e w1 ⟨rfl,rfl⟩
   by_cases hn:zah x.1
   ·rw [show decide (zah x.1)=true by simpa using hn]
    go_wp2_with fail
    refine (zeE w1 _ x.2 (hc1.keep (zaa HB1))).mono ?_
    rintro e w1 ⟨rfl,rfl⟩
    by_cases ht:zat x.2
    ·rw [show decide (zat x.2)=true by simpa using ht]
     by_cases hkz:k=0
     ·have HT:=hide (show zcc l k from ⟨by rw [zaa HGD];exact hn,by rw [zaa HGD];exact ht,fun h=>by omega⟩)
      subst hkz
      clear hn ht HC HX HGD hc0 hc1 HB1
      go_wp2_with fail
      go_quiet (fail)
      go_wp2_with fail
      go_roundw
      case rel=>exact⟨1,by omega,by go_num,fun i hi=>by obtain rfl:i=0:=(by omega);exact zaa HT,below_drewN hA1 _⟩
      case measure=>simp [intOf];omega
     ·obtain⟨y,_,u0,hp0⟩:=zaa HC (k-1) (by omega)
      have hB1:=zaa HB1
      replace u0:=(hB1.cell (p:=⟨b,off+(k-1)*2,none⟩) hbs).trans u0
      replace hp0:=hp0.keep hB1
      have hx0:=hc0.keep hB1
      generalize hy:(l.getD (k-1) ([],[])).1=yl at *
      obtain⟨a2,n2,hv2,_,_⟩:=hp0.shape
      subst hv2
      generalize yl.length=m2 at *
      have hkp:0<k:=by omega
      have hkd:decide (0<k)=true:=by simp;omega
      have hk1:(0:Int)<=(k:Int)-1:=by omega
      have hk2:(k:Int)-1<(l.length:Int):=by omega
      have hk3:((k:Int)-1).toNat=k-1:=by omega
      have hcq:∀q,Calls Tryz.prog 143 #[.slice a2 m2 n2,.slice a0 m0 n0] (w1.drewN q) fun e w'=>e=.returned (.int .i64 (cmpB yl x.1))∧w'=w1.drewN q:=fun q=>zkK _ _ _ _ _ (hp0.keep (below_drewN (Below.refl _ _) q)) (hx0.keep (below_drewN (Below.refl _ _) q))
      have HQ:=hide hcq
      have hlc:=ziL yl x.1
      by_cases hl2:zeb yl x.1=true
      ·have HT:=hide (show zcc l k from ⟨by rw [zaa HGD];exact hn,by rw [zaa HGD];exact ht,fun _=>by rw [zaa HGD,hy];exact hl2⟩)
       have hcz:decide (0<=cmpB yl x.1)=false:=by rw [hlc]at hl2;simp at hl2 ⊢;omega
       have hcz':¬ 0<=cmpB yl x.1:=by simpa using hcz
       clear hn ht HX HGD hc0 hc1 HB1 HC hcq hlc hl2 hy hp0 hx0 hB1
       generalize cmpB yl x.1=cm at *
       go_wp2_with fail
       go_quiet ((go_at_call 143;exact Calls.quiet_of_same (zaa HQ _)))
       go_wp2_with fail
       go_roundw
       case rel=>exact⟨k+1,by omega,by go_num,fun i hi=>zkh (zaa HA) (zaa HT) i hi,below_drewN hA1 _⟩
       case measure=>simp [intOf];omega
      ·have HF:=hide (show decide (zal l)=false by
        simp only [decide_eq_false_iff_not]
        rintro⟨_,h⟩
        exact hl2 (by have:=(h k hlt).2.2 (by omega);rwa [zaa HGD,hy]at this))
       have hcz:decide (0<=cmpB yl x.1)=true:=by rw [hlc]at hl2;simp at hl2 ⊢;omega
       have hcz':0<=cmpB yl x.1:=by simpa using hcz
       clear hn ht HX HGD hc0 hc1 HB1 HC hcq hlc hl2 hy hp0 hx0 hB1
       generalize cmpB yl x.1=cm at *
       go_wp2_with fail
       go_quiet ((go_at_call 143;exact Calls.quiet_of_same (zaa HQ _)))
       go_wp2_with fail
       go_ret
       exact⟨by rw [zaa HF];rfl,below_drewN hA1 _⟩
    ·rw [show decide (zat x.2)=false by simpa using ht]
     have HF:=hide (show decide (zal l)=false by
      simp only [decide_eq_false_iff_not]
      rintro⟨_,h⟩
      exact ht (by have:=(h k hlt).2.1;rwa [zaa HGD]at this))
     clear hn ht
     go_wp2_with fail
     go_ret
     exact⟨by rw [zaa HF];rfl,hA1⟩
   ·have hd:decide (zah x.1)=false:=by simpa using hn
    rw [hd]
    have HF:=hide (show decide (zal l)=false by
     simp only [decide_eq_false_iff_not]
     rintro⟨_,h⟩
     exact hn (by have:=(h k hlt).1;rwa [zaa HGD]at this))
    clear hn hd
    go_wp2_with fail
    go_ret
    exact⟨by rw [zaa HF];rfl,hA1⟩
  ·have e:k=l.length:=by omega
   subst e
   have HF:=hide (show decide (zal l)=true by simp only [decide_eq_true_eq];exact⟨by omega,zaa HA⟩)
   clear g5
   go_wp2_with fail
   go_ret
   exact⟨by rw [zaa HF];rfl,hB⟩
def zbz {α:Type} (t:Nd α):Bool:=if t.kind=1 then zbi t else zaT t
theorem zfi {α:Type} {t:Nd α} (h:t.kind=1):zbz t=zbi t:=by rw [zbz,if_pos h]
theorem zdS {α:Type} {t:Nd α} (h:t.kind≠1):zbz t=zaT t:=by rw [zbz,if_neg h]
theorem zer {α:Type} {t:Nd α} (h:¬ zgl t):zaT t=false:=by rw [<-Bool.not_eq_true,zbh];exact h
theorem zfn {α:Type} {t:Nd α} (h:¬ zkM t):zbi t=false:=by rw [<-Bool.not_eq_true,zbb];exact h
theorem VMade.keep {B:Nat} {w w':Xe} {g:Nat} (h:VMade B w g) (hb:Below w.heap.size w w'):VMade B w' g:=by
 obtain⟨m,hbm,hl,hm⟩:=h
 have hlt:m<w.heap.size:=by
  by_cases h:m<w.heap.size
  ·exact h
  ·rw [Array.getElem?_eq_none (by omega)]at hm;cases hm
 exact⟨m,hbm,hl.all hb,(hb.block m hlt).trans hm⟩
theorem VSet.keep {B:Nat} {w w':Xe} {g:Nat} (h:VSet B w g) (hb:Below w.heap.size w w'):VSet B w' g:=by
 rcases h with h | h
 ·exact .inl (h.all hb)
 ·exact .inr (h.keep hb)
open Classical in
set_option maxHeartbeats 3200000 in
theorem zni (B n:Nat) (w0 w:Xe) (a b c d e:Xf) (t:Tr (n+1)) (g:Nat) (h:RdNode (n+1) w0 [a,b,c,d,e] t) (hB:Below w0.heap.size w0 w) (hg:w0.heap.size<=g) (hV:VSet B w g) (hBB:B<=w.heap.size) (hz:t.kind=0) :
  Calls Tryz.prog 90 #[.agg #[a,b,c,d,e],.pointer (some ⟨g,0,none⟩)] w fun e w'=>e=.returned (.bool (zbz t))∧VSet B w' g∧Frm w w' [g]:=by
 obtain⟨_,_,_,_,e0,k1,k2,hb,hc,hd,he⟩:=h
 simp only [List.cons.injEq,and_true]at e0
 obtain⟨rfl,rfl,rfl,rfl,rfl⟩:=e0
 have HP:=hide (show zbz t=zaT t from zdS (by rw [hz];decide))
 obtain⟨ab,cb,rfl,_,_⟩:=hb.shape
 obtain⟨ac,cc,rfl,_,_⟩:=hc.shape
 obtain⟨ad,cd,rfl,_,_⟩:=Elems.shape hd
 obtain⟨ae,ce,rfl,_,_⟩:=Elems.shape he
 have hB1:Below w.heap.size w (w.alloc (.cells #[.int .i64 t.kind,.slice ab t.name.length cb,.slice ac t.text.length cc,.slice ad t.attrs.length cd,.slice ae t.kids.length ce] 37)):=(Below.refl _ _).alloc (Nat.le_refl _) _
 have l1:=Loc.made w #[.int .i64 t.kind,.slice ab t.name.length cb,.slice ac t.text.length cc,.slice ad t.attrs.length cd,.slice ae t.kids.length ce] 37
 have HX:Hid ((t.text.length≠0->zaT t=false)∧(¬ zah t.name->zaT t=false)∧(¬ zal t.attrs->zaT t=false)∧(zah t.name->t.text.length=0->zal t.attrs->t.kids.length=0->zaT t=true)∧(zah t.name->t.text.length=0->zal t.attrs->t.kids.length≠0->zaT t = !decide (Void t.name))):=by
  refine⟨fun h=>zer (fun k=>h k.2.2.1),fun h=>zer (fun k=>h k.2.1),fun h=>zer (fun k=>h k.2.2.2.1),fun h1 h2 h3 h4=>(zbh t).2 ⟨hz,h1,h2,h3,fun k=>by omega⟩,fun h1 h2 h3 h4=> ?_⟩
  by_cases hv:Void t.name
  ·rw [zer (fun k=>k.2.2.2.2 ⟨hv,by omega⟩)];simp [hv]
  ·rw [(zbh t).2 ⟨hz,h1,h2,h3,fun k=>hv k.1⟩];simp [hv]
 rw [hz]at *
 have ha:Below w0.heap.size w0 (w.alloc (.cells #[.int .i64 0,.slice ab t.name.length cb,.slice ac t.text.length cc,.slice ad t.attrs.length cd,.slice ae t.kids.length ce] 37)):=hB.trans (hB1.mono hB.size)
 have hV1:=hV.keep hB1
 have F1:=Frm.ofBelow hB1 [g]
 clear hB1 k1 k2 hB
 go_enter Tryz.func90,Tryz.ntmps90
 go_wp2_with fail
 generalize (w.alloc (.cells #[.int .i64 0,.slice ab t.name.length cb,.slice ac t.text.length cc,.slice ad t.attrs.length cd,.slice ae t.kids.length ce] 37))=w1 at *
 have hBB1:=Nat.le_trans hBB F1.size
 generalize hS:w.heap.size=S at *
 clear hS
 generalize t.name.length=nb at *
 generalize t.text.length=nc at *
 generalize t.attrs.length=nd at *
 generalize t.kids.length=ne at *
 have hbb:=hb.keep ha
 have hdd:=hd.keep ha
 refine (zeF w1 _ t.name hbb).mono ?_
 rintro e w1 ⟨rfl,rfl⟩
 obtain⟨x0,x1,x2,x3,x4⟩:=l1.five
 by_cases hn:zah t.name
 ·rw [show decide (zah t.name)=true by simpa using hn]
  by_cases htx:nc=0
  ·have dtx:((nc:Int) == 0)=true:=by simpa using htx
   go_wp2_with fail
   refine (zmH w1 _ t.attrs hdd).mono ?_
   rintro e w2 ⟨rfl,hB2⟩
   have hV2:=hV1.keep hB2
   have F2:=F1.trans (Frm.ofBelow hB2 [g])
   have ha2:=ha.trans (hB2.mono ha.size)
   have l2:=l1.all hB2
   clear x0 x1 x2 x3 x4
   obtain⟨x0,x1,x2,x3,x4⟩:=l2.five
   by_cases hat:zal t.attrs
   ·rw [show decide (zal t.attrs)=true by simpa using hat]
    by_cases hk:ne=0
    ·have dk:((ne:Int) == 0)=true:=by simpa using hk
     have HE:=hide ((zaa HX).2.2.2.1 hn htx hat hk)
     clear hn htx hat hk HX
     go_wp2_with fail
     go_ret
     exact⟨by rw [zaa HP,zaa HE];rfl,hV2,F2⟩
    ·have dk:((ne:Int) == 0)=false:=by simpa using hk
     have HE:=hide ((zaa HX).2.2.2.2 hn htx hat hk)
     clear hn htx hat hk HX
     go_wp2_with fail
     refine (zij B g w2 _ t.name hV2 (Nat.le_trans hBB1 hB2.size) (fun w' f=>hb.keep (ha2.trans (f.below ha2.size (fun q hq=>by simp at hq;omega))))).mono ?_
     rintro e w3 ⟨rfl,hV3,F3⟩
     generalize decide (Void t.name)=vb at *
     go_wp2_with fail
     go_ret
     exact⟨by rw [zaa HP,zaa HE];rfl,.inr hV3,F2.trans F3⟩
   ·rw [show decide (zal t.attrs)=false by simpa using hat]
    have HE:=hide ((zaa HX).2.2.1 hat)
    clear hn htx hat HX
    go_wp2_with fail
    go_ret
    exact⟨by rw [zaa HP,zaa HE];rfl,hV2,F2⟩
  ·have dtx:((nc:Int) == 0)=false:=by simpa using htx
   have HE:=hide ((zaa HX).1 htx)
   clear hn htx HX
   go_wp2_with fail
   go_ret
   exact⟨by rw [zaa HP,zaa HE];rfl,hV1,F1⟩
 ·rw [show decide (zah t.name)=false by simpa using hn]
  have HE:=hide ((zaa HX).2.1 hn)
  clear hn HX
  go_wp2_with fail
  go_ret
  exact⟨by rw [zaa HP,zaa HE];rfl,hV1,F1⟩
open Classical in
set_option maxHeartbeats 3200000 in
theorem znb (B n:Nat) (w0 w:Xe) (a b c d e:Xf) (t:Tr (n+1)) (g:Nat) (h:RdNode (n+1) w0 [a,b,c,d,e] t) (hB:Below w0.heap.size w0 w) (hg:w0.heap.size<=g) (hV:VSet B w g) (hBB:B<=w.heap.size) (hz:t.kind=1) :
  Calls Tryz.prog 90 #[.agg #[a,b,c,d,e],.pointer (some ⟨g,0,none⟩)] w fun e w'=>e=.returned (.bool (zbz t))∧VSet B w' g∧Frm w w' [g]:=by
 obtain⟨_,_,_,_,e0,k1,k2,hb,hc,hd,he⟩:=h
 simp only [List.cons.injEq,and_true]at e0
 obtain⟨rfl,rfl,rfl,rfl,rfl⟩:=e0
 have HP:=hide (show zbz t=zbi t from zfi hz)
 obtain⟨ab,cb,rfl,_,_⟩:=hb.shape
 obtain⟨ac,cc,rfl,_,_⟩:=hc.shape
 obtain⟨ad,cd,rfl,_,_⟩:=Elems.shape hd
 obtain⟨ae,ce,rfl,_,_⟩:=Elems.shape he
 have hB1:Below w.heap.size w (w.alloc (.cells #[.int .i64 t.kind,.slice ab t.name.length cb,.slice ac t.text.length cc,.slice ad t.attrs.length cd,.slice ae t.kids.length ce] 37)):=(Below.refl _ _).alloc (Nat.le_refl _) _
 have l1:=Loc.made w #[.int .i64 t.kind,.slice ab t.name.length cb,.slice ac t.text.length cc,.slice ad t.attrs.length cd,.slice ae t.kids.length ce] 37
 have HX:Hid ((t.name.length≠0->zbi t=false)∧(¬ zat t.text->zbi t=false)∧(t.attrs.length≠0->zbi t=false)∧(t.kids.length≠0->zbi t=false)∧(t.name.length=0->zat t.text->t.attrs.length=0->t.kids.length=0->zbi t=true)):=by
  exact⟨fun h=>zfn (fun k=>h k.1),fun h=>zfn (fun k=>h k.2.2.2),fun h=>zfn (fun k=>h k.2.1),fun h=>zfn (fun k=>h k.2.2.1),fun h1 h2 h3 h4=>(zbb t).2 ⟨h1,h3,h4,h2⟩⟩
 rw [hz]at *
 have ha:Below w0.heap.size w0 (w.alloc (.cells #[.int .i64 1,.slice ab t.name.length cb,.slice ac t.text.length cc,.slice ad t.attrs.length cd,.slice ae t.kids.length ce] 37)):=hB.trans (hB1.mono hB.size)
 have hV1:=hV.keep hB1
 have F1:=Frm.ofBelow hB1 [g]
 clear hB1 k1 k2 hB
 go_enter Tryz.func90,Tryz.ntmps90
 by_cases hnn:t.name.length=0
 ·have dn:((t.name.length:Int) == 0)=true:=by simpa using hnn
  have HN:=hide hnn
  clear hnn
  go_wp2_with fail
  generalize (w.alloc (.cells #[.int .i64 1,.slice ab t.name.length cb,.slice ac t.text.length cc,.slice ad t.attrs.length cd,.slice ae t.kids.length ce] 37))=w1 at *
  generalize hS:w.heap.size=S at *
  clear hS
  generalize t.name.length=nb at *
  generalize t.text.length=nc at *
  generalize t.attrs.length=nd at *
  generalize t.kids.length=ne at *
  refine (zeE w1 _ t.text (hc.keep ha)).mono ?_
  rintro e w1 ⟨rfl,rfl⟩
  obtain⟨x0,x1,x2,x3,x4⟩:=l1.five
  by_cases ht:zat t.text
  ·rw [show decide (zat t.text)=true by simpa using ht]
   by_cases hat:nd=0
   ·have dat:((nd:Int) == 0)=true:=by simpa using hat
    by_cases hk:ne=0
    ·have dk:((ne:Int) == 0)=true:=by simpa using hk
     have HE:=hide ((zaa HX).2.2.2.2 (zaa HN) ht hat hk)
     clear ht hat hk HX HN
     go_wp2_with fail
     go_ret
     exact⟨by rw [zaa HP,zaa HE];rfl,hV1,F1⟩
    ·have dk:((ne:Int) == 0)=false:=by simpa using hk
     have HE:=hide ((zaa HX).2.2.2.1 hk)
     clear ht hat hk HX HN
     go_wp2_with fail
     go_ret
     exact⟨by rw [zaa HP,zaa HE];rfl,hV1,F1⟩
   ·have dat:((nd:Int) == 0)=false:=by simpa using hat
    have HE:=hide ((zaa HX).2.2.1 hat)
    clear ht hat HX HN
    go_wp2_with fail
    go_ret
    exact⟨by rw [zaa HP,zaa HE];rfl,hV1,F1⟩
  ·rw [show decide (zat t.text)=false by simpa using ht]
   have HE:=hide ((zaa HX).2.1 ht)
   clear ht HX HN
   go_wp2_with fail
   go_ret
   exact⟨by rw [zaa HP,zaa HE];rfl,hV1,F1⟩
 ·have dn:((t.name.length:Int) == 0)=false:=by simpa using hnn
  have HE:=hide ((zaa HX).1 hnn)
  clear hnn HX
  go_wp2_with fail
  go_ret
  exact⟨by rw [zaa HP,zaa HE];rfl,hV1,F1⟩
set_option maxHeartbeats 3200000 in
theorem zmR (B n:Nat) (w0 w:Xe) (a b c d e:Xf) (t:Tr (n+1)) (g:Nat) (h:RdNode (n+1) w0 [a,b,c,d,e] t) (hV:VSet B w g) (hBB:B<=w.heap.size) (hz:t.kind≠0) (hz1:t.kind≠1) :
  Calls Tryz.prog 90 #[.agg #[a,b,c,d,e],.pointer (some ⟨g,0,none⟩)] w fun e w'=>e=.returned (.bool (zbz t))∧VSet B w' g∧Frm w w' [g]:=by
 obtain⟨_,_,_,_,e0,k1,k2,hb,hc,hd,he⟩:=h
 simp only [List.cons.injEq,and_true]at e0
 obtain⟨rfl,rfl,rfl,rfl,rfl⟩:=e0
 have HP:=hide (show zbz t=false by rw [zdS hz1];exact zer (fun k=>hz k.1))
 obtain⟨ab,cb,rfl,_,_⟩:=hb.shape
 obtain⟨ac,cc,rfl,_,_⟩:=hc.shape
 obtain⟨ad,cd,rfl,_,_⟩:=Elems.shape hd
 obtain⟨ae,ce,rfl,_,_⟩:=Elems.shape he
 have hB1:Below w.heap.size w (w.alloc (.cells #[.int .i64 t.kind,.slice ab t.name.length cb,.slice ac t.text.length cc,.slice ad t.attrs.length cd,.slice ae t.kids.length ce] 37)):=(Below.refl _ _).alloc (Nat.le_refl _) _
 have hV1:=hV.keep hB1
 have F1:=Frm.ofBelow hB1 [g]
 have d0:(t.kind == 0)=false:=by simpa using hz
 have d1:(t.kind == 1)=false:=by simpa using hz1
 clear hB1 k1 k2 hz hz1 hb hc hd he
 generalize t.kind=z at *
 go_enter Tryz.func90,Tryz.ntmps90
 go_wp2_with fail
 go_ret
 exact⟨by rw [zaa HP];rfl,hV1,F1⟩
theorem ziw (B n:Nat) (w0 w:Xe) (a b c d e:Xf) (t:Tr (n+1)) (g:Nat) (h:RdNode (n+1) w0 [a,b,c,d,e] t) (hB:Below w0.heap.size w0 w) (hg:w0.heap.size<=g) (hV:VSet B w g) (hBB:B<=w.heap.size) :
  Calls Tryz.prog 90 #[.agg #[a,b,c,d,e],.pointer (some ⟨g,0,none⟩)] w fun e w'=>e=.returned (.bool (zbz t))∧VSet B w' g∧Frm w w' [g]:=by
 by_cases hz:t.kind=0
 ·exact zni B n w0 w a b c d e t g h hB hg hV hBB hz
 ·by_cases hz1:t.kind=1
  ·exact znb B n w0 w a b c d e t g h hB hg hV hBB hz1
  ·exact zmR B n w0 w a b c d e t g h hV hBB hz hz1
end Go.Proofs.YtlpnibbdmkeklaaGreatDoor
namespace Go.Proofs.YtlpnibbdmkeklaaGreatDoor
open Go.RowKit Go.ChangeShapes
set_option linter.unusedVariables false
set_option maxRecDepth 100000
variable {H:Type} {enc:Xg×Xf->H} {W:Xe} {held:Bool}
theorem zir {α:Type} {Q:Nat->α->Prop}:∀n:Nat,(∀i,i<n->∃a,Q i a)->∃l:List α,l.length=n∧∀i (hi:i<l.length),Q i l[i]
 | 0,_=>⟨[],rfl,fun i hi=>by cases hi⟩
 | n+1,h=>by
  obtain⟨l,hl,hq⟩:=zir n (fun i hi=>h i (by omega))
  obtain⟨a,ha⟩:=h n (by omega)
  refine⟨l++[a],by simp [hl],fun i hi=> ?_⟩
  by_cases hi':i<l.length
  ·rw [List.getElem_append_left hi'];exact hq i hi'
  ·have:i=l.length:=by simp at hi;omega
   subst this
   simp only [List.getElem_append_right (Nat.le_refl _),Nat.sub_self,List.getElem_cons_zero]
   rw [hl];exact ha
theorem zdR {α:Type} {t e:Xg} {sz fuel:Nat} {cs:Xd} {x:DataW H×List MemPlace} {R:Xd->α->Prop} (ht:Tryz.prog.underlying t=some (.slice e)) (hc:Tryz.prog.cellsOf e=sz) (hs:0<sz)
  (hR:∀n C y,fuel=n+1->DataW.trod enc Tryz.prog W 0 (fun _=>true) held n e C=some y->∃a:α,R C a)
  (h:DataW.trod enc Tryz.prog W 0 (fun _=>true) held fuel t cs=some x):∃v l,cs=[v]∧Elems W sz v l R:=by
 rcases DataW.trod_slice ht h with ⟨rfl,_⟩ | ⟨a,len,cap,elems,rest,n,hf,rfl,_,_,hl,hm,hlen,hel,_,_⟩
 ·exact⟨_,[],rfl,by simp [maxLen],.inl ⟨rfl,rfl⟩⟩
 rw [hc]at hel
 have hall:∀i,i<len->∃b:α,∃C:Xd,C.length=sz∧(∀j,j<sz->W.cell? ((a.add (i*sz)).add j)=C[j]?)∧R C b:=by
  intro i hi
  have h1:=hel i hi
  rw [List.getElem?_eq_getElem (by omega)]at h1
  obtain⟨C,hC,hy⟩:=Option.bind_eq_some_iff.1 h1
  obtain⟨_,hCl,hcell⟩:=World.cells?_some hC
  obtain⟨b,hb⟩:=hR n C _ hf hy
  exact⟨b,C,hCl,hcell,hb⟩
 obtain⟨l,hll,hq⟩:=zir (Q:=fun i b=>∃C:Xd,C.length=sz∧(∀j,j<sz->W.cell? ((a.add (i*sz)).add j)=C[j]?)∧R C b) len hall
 refine⟨_,l,rfl,by omega,?_⟩
 by_cases h0:len=0
 ·have hl0:l=[]:=List.eq_nil_of_length_eq_zero (by omega)
  subst h0
  exact .inr (.inl ⟨a,cap,rfl,hm,hl0⟩)
 ·obtain⟨b,off,spot⟩:=a
  obtain⟨C,hCl,hcell,_⟩:=hq 0 (by omega)
  have hc0:=hcell 0 hs
  rw [List.getElem?_eq_getElem (by omega)]at hc0
  have hspot:spot=none:=by simpa [Addr.add]using World.cell?_spot hc0
  subst hspot
  refine .inr (.inr ⟨b,off,cap,by rw [hll],by omega,hm,fun h=>by subst h;simp at hll;omega,?_,fun i hi=> ?_⟩)
  ·have:=zaJ hc0;simpa [Addr.add]using this
  ·obtain⟨C,hCl,hcell,hr⟩:=hq i hi
   refine⟨C,hCl,fun j hj=> ?_,hr⟩
   have:=hcell j hj
   rw [zbc,zbc]at this
   exact this
end Go.Proofs.YtlpnibbdmkeklaaGreatDoor
namespace Go.Proofs.YtlpnibbdmkeklaaGreatDoor
open Go.RowKit Go.ChangeShapes
set_option linter.unusedVariables false
set_option maxRecDepth 100000
variable {H:Type} {enc:Xg×Xf->H} {W:Xe} {held:Bool}
theorem zdW {fuel:Nat} {cs:Xd} {x:DataW H×List MemPlace} (h:DataW.trod enc Tryz.prog W 0 (fun _=>true) held fuel 22 cs=some x) :
  ∃v l,cs=[v]∧Byt W v l:=by
 rcases open_ints Tryz.underlying22 Tryz.underlying5 (by kernel_rfl) h with ⟨hcs,_⟩ | ⟨a,len,cap,zs,hcs,_,hl,hm,hz,_,hcell,hwz⟩
 ·exact⟨_,_,hcs,zdL (zs:=[]) (.inl ⟨rfl,rfl,rfl,rfl⟩)⟩
 ·exact⟨_,_,hcs,zdL (.inr ⟨_,rfl,hl,hm,by simpa using hz,hcell,hwz⟩)⟩
theorem zdi {α:Type} {l:List α} {n i:Nat} (h:l.length=n) (hi:i<n):∃y,l[i]? = some y:=⟨l[i]'(by omega),List.getElem?_eq_getElem (by omega)⟩
theorem zpj {fuel:Nat} {cs:Xd} {x:DataW H×List MemPlace} (h:DataW.trod enc Tryz.prog W 0 (fun _=>true) held fuel 137 cs=some x):∃a,zoq W cs a:=by
 obtain⟨xs,n,_,_,hlen,hxs,hf⟩:=DataW.trod_struct Tryz.underlying137 h
 have hlen2:cs.length=2:=hlen.trans (by kernel_rfl)
 match cs,hlen2 with
 | [c0,c1],_=>
  obtain⟨y0,e0⟩:=zdi (i:=0) hxs (by simp)
  obtain⟨y1,e1⟩:=zdi (i:=1) hxs (by simp)
  have h0:DataW.trod enc Tryz.prog W 0 (fun _=>true) held n 22 (([c0,c1].drop 0).take (Tryz.prog.cellsOf 22))=some y0:=(hf 0 _ rfl).trans e0
  have h1:DataW.trod enc Tryz.prog W 0 (fun _=>true) held n 22 (([c0,c1].drop 1).take (Tryz.prog.cellsOf 22))=some y1:=(hf 1 _ rfl).trans e1
  have k1:Tryz.prog.cellsOf 22=1:=by kernel_rfl
  simp only [k1,List.drop,List.take]at h0 h1
  obtain⟨v0,l0,g0,b0⟩:=zdW h0
  obtain⟨v1,l1,g1,b1⟩:=zdW h1
  simp at g0 g1
  subst g0;subst g1
  exact⟨(l0,l1),_,_,rfl,b0,b1⟩
theorem ziR:∀(m:Nat) {fuel:Nat} {cs:Xd} {x:DataW H×List MemPlace},fuel<=2*m->DataW.trod enc Tryz.prog W 0 (fun _=>true) held fuel 26 cs=some x->∃t,RdNode m W cs t
 | 0,fuel,cs,x,hm,h=>by
  obtain rfl:fuel=0:=by omega
  simp [DataW.trod]at h
 | m+1,fuel,cs,x,hm,h=>by
  obtain⟨xs,n,hn,_,hlen,hxs,hf⟩:=DataW.trod_struct Tryz.underlying26 h
  have hlen5:cs.length=5:=hlen.trans (by kernel_rfl)
  match cs,hlen5 with
  | [c0,c1,c2,c3,c4],_=>
   obtain⟨y0,e0⟩:=zdi (i:=0) hxs (by simp)
   obtain⟨y1,e1⟩:=zdi (i:=1) hxs (by simp)
   obtain⟨y2,e2⟩:=zdi (i:=2) hxs (by simp)
   obtain⟨y3,e3⟩:=zdi (i:=3) hxs (by simp)
   obtain⟨y4,e4⟩:=zdi (i:=4) hxs (by simp)
   have h0:DataW.trod enc Tryz.prog W 0 (fun _=>true) held n 3 (([c0,c1,c2,c3,c4].drop 0).take (Tryz.prog.cellsOf 3))=some y0:=(hf 0 _ rfl).trans e0
   have h1:DataW.trod enc Tryz.prog W 0 (fun _=>true) held n 22 (([c0,c1,c2,c3,c4].drop 1).take (Tryz.prog.cellsOf 22))=some y1:=(hf 1 _ rfl).trans e1
   have h2:DataW.trod enc Tryz.prog W 0 (fun _=>true) held n 22 (([c0,c1,c2,c3,c4].drop 2).take (Tryz.prog.cellsOf 22))=some y2:=(hf 2 _ rfl).trans e2
   have h3:DataW.trod enc Tryz.prog W 0 (fun _=>true) held n 23 (([c0,c1,c2,c3,c4].drop 3).take (Tryz.prog.cellsOf 23))=some y3:=(hf 3 _ rfl).trans e3
   have h4:DataW.trod enc Tryz.prog W 0 (fun _=>true) held n 24 (([c0,c1,c2,c3,c4].drop 4).take (Tryz.prog.cellsOf 24))=some y4:=(hf 4 _ rfl).trans e4
   have ki:Tryz.prog.cellsOf 3=1:=by kernel_rfl
   have k1:Tryz.prog.cellsOf 22=1:=by kernel_rfl
   have k2:Tryz.prog.cellsOf 23=1:=by kernel_rfl
   have k3:Tryz.prog.cellsOf 24=1:=by kernel_rfl
   simp only [ki,k1,k2,k3,List.drop,List.take]at h0 h1 h2 h3 h4
   obtain⟨k,g0,_,hk⟩:=DataW.trod_int Tryz.underlying3 h0
   obtain⟨v1,l1,g1,b1⟩:=zdW h1
   obtain⟨v2,l2,g2,b2⟩:=zdW h2
   obtain⟨v3,l3,g3,b3⟩:=zdR (sz:=2) Tryz.underlying23 (by kernel_rfl) (by omega) (fun n C y _ hy=>zpj hy) h3
   obtain⟨v4,l4,g4,b4⟩:=zdR (sz:=5) Tryz.underlying24 (by kernel_rfl) (by omega) (fun n' C y hn' hy=>ziR m (by omega) hy) h4
   simp at g0 g1 g2 g3 g4
   subst g0;subst g1;subst g2;subst g3;subst g4
   obtain⟨q1,q2⟩:=bounds_i64 hk
   exact⟨(⟨k,l1,l2,l3,l4⟩:Nd (Tr m)),_,_,_,_,rfl,q1,q2,b1,b2,b3,b4⟩
end Go.Proofs.YtlpnibbdmkeklaaGreatDoor
namespace Go.Proofs.YtlpnibbdmkeklaaGreatDoor
open Go.RowKit
set_option linter.unusedVariables false
set_option maxRecDepth 100000
structure It (w0:Xe) where
 deep:Int
 a:Xf
 b:Xf
 c:Xf
 d:Xf
 e:Xf
 m:Nat
 t:Tr (m+1)
 rd:RdNode (m+1) w0 [a,b,c,d,e] t
def zgs {w0:Xe} (x:It w0):Array Xf:= #[.int .i64 x.deep,.agg #[x.a,x.b,x.c,x.d,x.e]]
def Pre (w0:Xe):(n:Nat)->Int->Xd->Tr n->List (It w0)->Prop
 | 0=>fun _ _ _ _=>False
 | n+1=>fun deep C t xs=>∃(a b c d e:Xf) (rd:RdNode (n+1) w0 [a,b,c,d,e] t) (ks:List (Tr n×List (It w0))),C=[a,b,c,d,e]∧xs=⟨deep,a,b,c,d,e,n,t,rd⟩::(ks.map (·.2)).flatten∧ks.map (·.1)=t.kids∧
   Elems w0 5 e ks (fun D k=>Pre w0 n (deep+1) D k.1 k.2)
theorem zns {α β:Type} {w:Xe} {size:Nat} {v:Xf} {l:List α} {R:Xd->α->Prop} {R':Xd->α×β->Prop} (h:Elems w size v l R) (hR:∀C x,R C x->∃y,R' C (x,y)) :
  ∃ks:List (α×β),ks.map (·.1)=l∧Elems w size v ks R':=by
 obtain⟨hm,⟨rfl,rfl⟩ | ⟨x,cap,rfl,hc,rfl⟩ | ⟨b,off,cap,rfl,h1,h2,h3,h4,h5⟩⟩:=h
 ·exact⟨[],rfl,hm,.inl ⟨rfl,rfl⟩⟩
 ·exact⟨[],rfl,hm,.inr (.inl ⟨x,cap,rfl,hc,rfl⟩)⟩
 ·obtain⟨ks,hl,hk⟩:=zir (Q:=fun i (k:α×β)=>∃hi:i<l.length,k.1=l[i]∧∃C:Xd,C.length=size∧(∀j,j<size->w.cell? ⟨b,off+i*size+j,none⟩=C[j]?)∧R' C k) l.length (fun i hi=>by
   obtain⟨C,hC,hc,hr⟩:=h5 i hi
   obtain⟨y,hy⟩:=hR C _ hr
   exact⟨(l[i],y),hi,rfl,C,hC,hc,hy⟩)
  refine⟨ks,?_,by omega,.inr (.inr ⟨b,off,cap,by rw [hl],by omega,h2,?_,h4,fun i hi=> ?_⟩)⟩
  ·apply List.ext_getElem
   ·simp [hl]
   ·intro i h1' h2'
    simp only [List.getElem_map]
    exact (hk i (by simpa using h1')).2.1
  ·intro e;rw [e]at hl;exact h3 (List.eq_nil_of_length_eq_zero hl.symm)
  ·exact (hk i hi).2.2
theorem zoQ (w0:Xe):∀(n:Nat) (deep:Int) (C:Xd) (t:Tr n),RdNode n w0 C t->∃xs,Pre w0 n deep C t xs
 | 0,_,_,t,_=>t.elim
 | n+1,deep,C,t,h=>by
  have h':=h
  obtain⟨a,b,c,d,rfl,k1,k2,hb,hc,hd,he⟩:=h
  obtain⟨ks,hks,hel⟩:=zns (R':=fun D k=>Pre w0 n (deep+1) D k.1 k.2) he (fun D x hx=>zoQ w0 n (deep+1) D x hx)
  exact⟨_,_,_,_,_,_,h',ks,rfl,rfl,hks,hel⟩
def tst {w0:Xe} (x:It w0):Int×Bool:=(x.deep,zbz x.t)
def pn:(n:Nat)->Int->Tr n->List (Int×Bool)
 | 0=>fun _ _=>[]
 | n+1=>fun deep t=>(deep,zbz t)::(t.kids.map (pn n (deep+1))).flatten
theorem zlU (n:Nat) (deep:Int) (t:Tr (n+1)):pn (n+1) deep t=(deep,zbz t)::(t.kids.map (pn n (deep+1))).flatten:=rfl
theorem Elems.mem {α:Type} {w:Xe} {size:Nat} {v:Xf} {l:List α} {R:Xd->α->Prop} (h:Elems w size v l R):∀x∈l,∃C,R C x:=by
 intro x hx
 obtain⟨i,hi,rfl⟩:=List.getElem_of_mem hx
 obtain⟨hm,⟨rfl,rfl⟩ | ⟨_,cap,rfl,hc,rfl⟩ | ⟨b,off,cap,rfl,h1,h2,h3,h4,h5⟩⟩:=h
 ·simp at hi
 ·simp at hi
 ·obtain⟨C,_,_,hr⟩:=h5 i hi
  exact⟨C,hr⟩
theorem znQ (w0:Xe):∀(n:Nat) (deep:Int) (C:Xd) (t:Tr n) (xs:List (It w0)),Pre w0 n deep C t xs->xs.map tst=pn n deep t
 | 0,_,_,t,_,_=>t.elim
 | n+1,deep,C,t,xs,⟨a,b,c,d,e,rd,ks,_,hxs,hks,hel⟩=>by
  subst hxs
  rw [List.map_cons,zlU,<-hks,List.map_flatten,List.map_map,List.map_map]
  congr 2
  apply List.map_congr_left
  intro k hk
  obtain⟨D,hD⟩:=hel.mem k hk
  exact znQ w0 n (deep+1) D k.1 k.2 hD
def scan:List (Int×Bool)->Int->Bool×Int
 | [],left=>(true,left)
 | x::r,left=>if left-1<0∨20<x.1∨x.2=false then (false,left-1) else scan r (left-1)
theorem zhg (a b:List (Int×Bool)) (left:Int):scan (a++b) left=if (scan a left).1=true then scan b (scan a left).2 else (false,(scan a left).2):=by
 induction a generalizing left with
 | nil=>simp [scan]
 | cons x r ih=>
  rw [List.cons_append,scan,scan]
  by_cases h:left-1<0∨20<x.1∨x.2=false
  ·rw [if_pos h,if_pos h];simp
  ·rw [if_neg h,if_neg h,ih]
theorem zrR {a b:List (Int×Bool)} {left:Int} (h:(scan a left).1=false) (hp:a <+: b):(scan b left).1=false:=by
 obtain⟨r,rfl⟩:=hp
 rw [zhg,h]
 simp
theorem zkP {α:Type} {f:α->Int->Bool×Int} {p:α->List (Int×Bool)} (h:∀x left,f x left=scan (p x) left):∀(l:List α) (left:Int),okK f l left=scan (l.map p).flatten left
 | [],left=>rfl
 | x::r,left=>by
  rw [okK,List.map_cons,List.flatten_cons,zhg,h,zkP h r]
theorem zjX:∀(n:Nat) (deep:Int) (t:Tr n) (left:Int),okT n deep t left=scan (pn n deep t) left
 | 0,_,t,_=>t.elim
 | n+1,deep,t,left=>by
  rw [zbo,zlU,scan]
  by_cases h1:left-1<0∨20<deep
  ·rw [if_pos h1,if_pos (by rcases h1 with h | h<;>simp [h])]
  ·rw [if_neg h1]
   by_cases h2:t.kind=1
   ·rw [if_pos h2]
    have hp:zbz t=zbi t:=zfi h2
    by_cases h3:zbi t=true
    ·have hk:t.kids=[]:=List.eq_nil_of_length_eq_zero ((zbb t).1 h3).2.2.1
     rw [if_neg (by simp only [hp,h3];simp;omega),hk,h3];rfl
    ·have h3':zbi t=false:=by simpa using h3
     rw [if_pos (by simp only [hp,h3'];simp),h3']
   ·rw [if_neg h2]
    have hp:zbz t=zaT t:=zdS h2
    by_cases h3:zaT t=true
    ·rw [if_pos h3,if_neg (by simp only [hp,h3];simp;omega)]
     exact zkP (zjX n (deep+1)) t.kids (left-1)
    ·have h3':zaT t=false:=by simpa using h3
     rw [if_neg h3,if_pos (by simp only [hp,h3'];simp)]
end Go.Proofs.YtlpnibbdmkeklaaGreatDoor
namespace Go.Proofs.YtlpnibbdmkeklaaGreatDoor
open Go.RowKit Go.Shelf
set_option linter.unusedVariables false
set_option maxRecDepth 100000
attribute [local go_sem] Oper.semAt_some
def BxN (o:Obj):Prop:=∃cs,o=.cells cs 37 (0,0)
theorem zgS {W W':Xe} (h:Below W.heap.size W W'):W.grownBy W' none:=⟨h.os,h.tape,h.output,h.size,fun k hk _=>h.block k hk⟩
theorem zfk {n:Nat} {w:Xe} {C:Xd} {t:Tr n} (h:RdNode n w C t):∃z ab nb cb ac nc cc ad nd cd ae ne ce,C=[.int .i64 z,.slice ab nb cb,.slice ac nc cc,.slice ad nd cd,.slice ae ne ce]:=by
 cases n with
 | zero=>exact t.elim
 | succ n=>
  obtain⟨a,b,c,d,rfl,_,_,hb,hc,hd,he⟩:=h
  obtain⟨ab,cb,rfl,_,_⟩:=hb.shape
  obtain⟨ac,cc,rfl,_,_⟩:=hc.shape
  obtain⟨ad,cd,rfl,_,_⟩:=Elems.shape hd
  obtain⟨ae,ce,rfl,_,_⟩:=Elems.shape he
  exact⟨_,_,_,_,_,_,_,_,_,_,_,_,_,rfl⟩
theorem zpB {w0:Xe} {n:Nat} {deep:Int} {C:Xd} {t:Tr n} {xs:List (It w0)} (h:Pre w0 n deep C t xs):RdNode n w0 C t:=by
 cases n with
 | zero=>exact t.elim
 | succ n=>
  obtain⟨a,b,c,d,e,rd,ks,rfl,_⟩:=h
  exact rd
theorem zlM {l:Xb} {x:Nat} (h:x∈l):x<=l.sum:=by
 induction l with
 | nil=>cases h
 | cons y l ih=>
  rw [List.sum_cons]
  rcases List.mem_cons.1 h with rfl | h'
  ·omega
  ·have:=ih h';omega
theorem zsN {n:Nat} {t:Tr (n+1)} {u:Tr n} (h:u∈t.kids):szT n u+1<=szT (n+1) t:=by
 have h1:szT n u<=(t.kids.map (szT n)).sum:=zlM (List.mem_map.2 ⟨u,h,rfl⟩)
 have h2:0<t.kids.length:=List.length_pos_of_mem h
 have h3:szT (n+1) t=t.name.length+t.text.length+szA t.attrs+(t.kids.length+(t.kids.map (szT n)).sum):=rfl
 omega
theorem zfT {α β:Type} (ks:List (α×List β)) (j:Nat) (h:j<ks.length):((ks.take (j+1)).map (·.2)).flatten=((ks.take j).map (·.2)).flatten++ks[j].2:=by
 rw [List.take_succ_eq_append_getElem h,List.map_append,List.flatten_append]
 simp only [List.map_cons,List.map_nil,List.flatten_cons,List.flatten_nil,List.append_nil]
theorem zkk {α β:Type} (ks:List (α×List β)) (j:Nat):((ks.take j).map (·.2)).flatten <+: (ks.map (·.2)).flatten:=by
 refine⟨((ks.drop j).map (·.2)).flatten,?_⟩
 rw [<-List.flatten_append,<-List.map_append,List.take_append_drop]
def zhh (w0:Xe) (l:Nat) (Mt:Nat->Obj->Prop) (J Jx:List (It w0)->Xe->Prop) (XS:List (It w0)) (k:Nat):Prop:=
 ∀(deep:Int) (a b c d e:Xf) (t:Tr k) (xs:List (It w0)),Pre w0 k deep [a,b,c,d,e] t xs->∀(n:Nat) (pre:List (It w0)) (W:Xe),Below w0.heap.size w0 W->(∀q o,W.heap.size<=q->BxN o->¬ Mt q o)->J pre W->pre++xs <+: XS->0<=deep->deep+szT k t<=1000000000->
  CallsIn Fence.wide n Tryz.prog 132 #[.agg #[a,b,c,d,e],.int .i64 deep,.func (.yield l) #[] #[]] W fun e W'=>
   (e=.returned (.bool true)∧J (pre++xs) W'∧Frp Mt W W')∨(e=.returned (.bool false)∧∃q,q <+: xs∧Jx (pre++q) W')
set_option maxHeartbeats 3200000 in
theorem zpC (w0:Xe) (l:Nat) (Mt:Nat->Obj->Prop) (hG0:∀i o,i<w0.heap.size->¬ Mt i o) (J Jx:List (It w0)->Xe->Prop) (XS:List (It w0)) (hJ:∀s W W',J s W->W.grownBy W' none->J s W')
  (hY:∀m pre x W,J pre W->pre++[x] <+: XS->YieldAt Fence.wide m Tryz.prog l (zgs x) W fun e W'=>
   (e=.returned (.bool true)∧J (pre++[x]) W'∧Frp Mt W W')∨(e=.returned (.bool false)∧Jx (pre++[x]) W')) (k:Nat) (H:zhh w0 l Mt J Jx XS k):zhh w0 l Mt J Jx XS (k+1):=by
 intro deep a b c d e t xs hP n pre W hW hGW hj hpx hd0 hd1
 obtain⟨_,_,_,_,_,rd,ks,hC,hxs,hks,hel⟩:=hP
 simp only [List.cons.injEq,and_true]at hC
 obtain⟨rfl,rfl,rfl,rfl,rfl⟩:=hC
 have rd':=rd
 obtain⟨_,_,_,_,e0,k1,k2,hb,hc,hd,he⟩:=rd'
 simp only [List.cons.injEq,and_true]at e0
 obtain⟨rfl,rfl,rfl,rfl,rfl⟩:=e0
 obtain⟨ab,cb,rfl,_,_⟩:=hb.shape
 obtain⟨ac,cc,rfl,_,_⟩:=hc.shape
 obtain⟨ad,cd,rfl,_,_⟩:=Elems.shape hd
 obtain⟨ae,ce,rfl,hce,hcm⟩:=Elems.shape he
 obtain⟨x,hx⟩:∃x:It w0,x=⟨deep,.int .i64 t.kind,.slice ab t.name.length cb,.slice ac t.text.length cc,.slice ad t.attrs.length cd,.slice ae t.kids.length ce,k,t,rd⟩:=⟨_,rfl⟩
 have hB1:Below W.heap.size W (W.alloc (.cells #[.int .i64 t.kind,.slice ab t.name.length cb,.slice ac t.text.length cc,.slice ad t.attrs.length cd,.slice ae t.kids.length ce] 37)):=(Below.refl _ _).alloc (Nat.le_refl _) _
 have l1:=Loc.made W #[.int .i64 t.kind,.slice ab t.name.length cb,.slice ac t.text.length cc,.slice ad t.attrs.length cd,.slice ae t.kids.length ce] 37
 have hy:=hY (n-1) pre x _ (hJ pre W _ hj (zgS hB1)) (by
  refine List.IsPrefix.trans ?_ hpx
  rw [hxs,<-hx]
  exact⟨(ks.map (·.2)).flatten,by simp⟩)
 rw [hx]at hy
 simp only [zgs]at hy
 rw [<-hx]at hy hxs
 obtain⟨fn,tmps,assign,body,hy1,hR⟩:=hy
 refine callsIn_of_wp Tryz.func132 rfl trivial ?_ rfl
 simp only [Tryz.ntmps132,List.size_toArray,List.length_cons,List.length_nil,Nat.reduceAdd,Nat.reduceSub,Array.replicate_succ,Array.replicate_zero,List.push_toArray,List.append_toArray,List.nil_append,List.cons_append]
 gi_wp2_with fail
 refine⟨(fun h=>(by cases h)),?_⟩
 generalize (W.alloc (.cells #[.int .i64 t.kind,.slice ab t.name.length cb,.slice ac t.text.length cc,.slice ad t.attrs.length cd,.slice ae t.kids.length ce] 37))=W1 at *
 refine hR.mono ?_
 clear hR
 rintro e W2 (⟨rfl,hJ2,hF2⟩ | ⟨rfl,hx2⟩)
 ·have l2:=l1.frp hF2 (hGW _ _ (Nat.le_refl _) ⟨_,rfl⟩)
  have hGW2:∀q o,W2.heap.size<=q->BxN o->¬ Mt q o:=fun q o h hb=>hGW q o (by have:=hB1.size;have:=hF2.size;omega) hb
  have hW2:Below w0.heap.size w0 W2:=hW.trans ((hB1.mono hW.size).trans (hF2.below (Nat.le_trans hW.size hB1.size) hG0))
  have F2:Frp Mt W W2:=(Frp.ofBelow hB1 Mt).trans hF2
  have hlen:ks.length=t.kids.length:=by rw [<-hks];simp
  have HX:=hide hxs
  have HK:=hide hks
  have HE:=hide hx
  unfold maxLen at hcm
  have hm':(t.kids.length:Int)<=9223372036854775807:=by omega
  have HZ:Hid (∀u∈t.kids,deep+1+szT k u<=1000000000):=fun u hu=>by have:=zsN hu;omega
  have hdp:deep<=1000000000:=by omega
  clear hxs hks hx hB1 hF2 hy1 hY hd1
  obtain⟨x0,x1,x2,x3,x4⟩:=l2.five
  generalize hnk:t.kids.length=nk at *
  gi_wp2_with fail
  gi_loopw [17] (fun i wr=>∃j:Nat,j<=nk∧i=.int .i64 j∧J (pre++x::((ks.take j).map (·.2)).flatten) wr∧Frp Mt W2 wr) (fun i _=>nk-(intOf i).toNat)
  case atStart=>exact⟨0,Nat.zero_le _,rfl,by simpa using hJ2,Frp.refl _ _⟩
  case round=>
   obtain⟨j,hj1,rfl,hJr,hFr⟩:=hrel
   have hWr:Below w0.heap.size w0 wr:=hW2.trans (hFr.below hW2.size hG0)
   have hGr:∀q o,wr.heap.size<=q->BxN o->¬ Mt q o:=fun q o h hb=>hGW2 q o (Nat.le_trans hFr.size h) hb
   by_cases hlt:j<nk
   ·have hjk:j<ks.length:=by omega
    obtain⟨kb,koff,rfl,hkb,hun,_,C,hC5,hcell,hPk⟩:=hel.at hjk
    clear hun
    obtain⟨z,ab',nb',cb',ac',nc',cc',ad',nd',cd',ae',ne',ce',rfl⟩:=zfk (zpB hPk)
    have y0:=(hWr.cell (p:=⟨kb,koff+j*5,none⟩) hkb).trans (hcell 0 (by omega))
    have y1:=(hWr.cell (p:=⟨kb,koff+j*5+1,none⟩) hkb).trans (hcell 1 (by omega))
    have y2:=(hWr.cell (p:=⟨kb,koff+j*5+2,none⟩) hkb).trans (hcell 2 (by omega))
    have y3:=(hWr.cell (p:=⟨kb,koff+j*5+3,none⟩) hkb).trans (hcell 3 (by omega))
    have y4:=(hWr.cell (p:=⟨kb,koff+j*5+4,none⟩) hkb).trans (hcell 4 (by omega))
    simp only [List.getElem?_cons_zero,List.getElem?_cons_succ]at y0 y1 y2 y3 y4
    have hB3:Below wr.heap.size wr (wr.alloc (.cells #[.int .i64 z,.slice ab' nb' cb',.slice ac' nc' cc',.slice ad' nd' cd',.slice ae' ne' ce'] 37)):=(Below.refl _ _).alloc (Nat.le_refl _) _
    have hmem:ks[j].1∈t.kids:=by rw [<-zaa HK];exact List.mem_map.2 ⟨ks[j],List.getElem_mem hjk,rfl⟩
    have hpre:(pre++x::((ks.take j).map (·.2)).flatten)++ks[j].2 <+: XS:=by
     refine List.IsPrefix.trans ?_ hpx
     rw [zaa HX]
     obtain⟨r,hr⟩:=zkk ks (j+1)
     rw [zfT ks j hjk]at hr
     exact⟨r,by simp only [List.append_assoc,List.cons_append]at hr ⊢;rw [hr]⟩
    have hcall:=H (deep+1) _ _ _ _ _ ks[j].1 ks[j].2 hPk (n-1) (pre++x::((ks.take j).map (·.2)).flatten) _ (hWr.trans (hB3.mono hWr.size)) (fun q o h hb=>hGr q o (Nat.le_trans hB3.size h) hb) (hJ _ _ _ hJr (zgS hB3)) hpre (by omega) (zaa HZ _ hmem)
    have HC:=hide hcall
    have F3:=hFr.trans (Frp.ofBelow hB3 Mt)
    have hlt':(j:Int)<(nk:Int):=by omega
    clear hcall hel hcell hPk hmem hpre hB3 hJr hJ2
    have HL:=hide hlen
    have HNK:=hide hnk
    clear hlen hnk
    gi_wp2
    refine⟨trivial,(fun h=>(by cases h)),?_⟩
    refine (zaa HC).mono ?_
    rintro e W3 (⟨rfl,hJ3,hF3⟩ | ⟨rfl,q,hq,hx3⟩)
    ·gi_wp2
     go_roundw
     case rel=>exact⟨j+1,by omega,by go_num,by rw [zfT ks j hjk,<-List.cons_append,<-List.append_assoc];exact hJ3,F3.trans hF3⟩
     case measure=>simp [intOf];omega
    ·gi_wp2
     go_ret
     refine .inr ⟨rfl,x::((ks.take j).map (·.2)).flatten++q,?_,by rw [<-List.append_assoc];exact hx3⟩
     obtain⟨r,hr⟩:=zkk ks (j+1)
     obtain⟨r',hr'⟩:=hq
     rw [zfT ks j hjk,<-hr']at hr
     exact⟨r'++r,by rw [zaa HX,<-hr];simp⟩
   ·have e:j=nk:=by omega
    subst e
    have HL:=hide hlen
    clear hlen hel
    gi_wp2
    go_ret
    refine .inl ⟨rfl,?_,F2.trans hFr⟩
    rw [zaa HX]
    rw [List.take_of_length_le (by have:=zaa HL;omega)]at hJr
    exact hJr
 ·gi_wp2_with fail
  go_ret
  exact .inr ⟨rfl,[x],by rw [hxs];exact⟨_,rfl⟩,hx2⟩
theorem zqg (w0:Xe) (l:Nat) (Mt:Nat->Obj->Prop) (hG0:∀i o,i<w0.heap.size->¬ Mt i o) (J Jx:List (It w0)->Xe->Prop) (XS:List (It w0)) (hJ:∀s W W',J s W->W.grownBy W' none->J s W')
  (hY:∀m pre x W,J pre W->pre++[x] <+: XS->YieldAt Fence.wide m Tryz.prog l (zgs x) W fun e W'=>
   (e=.returned (.bool true)∧J (pre++[x]) W'∧Frp Mt W W')∨(e=.returned (.bool false)∧Jx (pre++[x]) W')) (k:Nat):zhh w0 l Mt J Jx XS k:=by
 induction k with
 | zero=>exact fun _ _ _ _ _ _ t=>t.elim
 | succ k ih=>exact zpC w0 l Mt hG0 J Jx XS hJ hY k ih
set_option maxHeartbeats 1600000 in
theorem zmT (w0 w:Xe) (l q k:Nat) (Mt:Nat->Obj->Prop) (hG0:∀i o,i<w0.heap.size->¬ Mt i o) (a b c d e:Xf) (t:Tr (k+1)) (xs:List (It w0)) (hP:Pre w0 (k+1) 1 [a,b,c,d,e] t xs) (hsz:szT (k+1) t<=2097152)
  (hw:Below w0.heap.size w0 w) (hl:Loc w q #[a,b,c,d,e] 37):zrf Tryz.prog 131 #[.pointer (some ⟨q,0,none⟩)] zgs BxN Mt xs l w:=by
 intro J Jx hJ hY n W hW hGW h0
 have l1:=hl.all hW
 obtain⟨z,ab,nb,cb,ac,nc,cc,ad,nd,cd,ae,ne,ce,hC⟩:=zfk (zpB hP)
 simp only [List.cons.injEq,and_true]at hC
 obtain⟨rfl,rfl,rfl,rfl,rfl⟩:=hC
 have hc:=zqg w0 l Mt hG0 J Jx xs hJ hY (k+1) 1 _ _ _ _ _ t xs hP (n-1) [] W (hw.trans (hW.mono hw.size)) hGW h0 (by simp) (by omega) (by omega)
 obtain⟨x0,x1,x2,x3,x4⟩:=l1.five
 have HC:=hide hc
 clear hc hY hJ hP
 refine callsIn_of_wp Tryz.func131 rfl trivial ?_ rfl
 simp only [Tryz.ntmps131,List.size_toArray,List.length_cons,List.length_nil,Nat.reduceAdd,Nat.reduceSub,Array.replicate_succ,Array.replicate_zero,List.push_toArray,List.append_toArray,List.nil_append,List.cons_append]
 gi_wp2
 refine⟨trivial,(fun h=>(by cases h)),?_⟩
 refine (zaa HC).mono ?_
 rintro e W3 (⟨rfl,hJ3,hF3⟩ | ⟨rfl,q,hq,hx3⟩)
 ·gi_wp2
  go_end0
  exact⟨⟨_,rfl⟩,.inl (by simpa using hJ3)⟩
 ·gi_wp2
  go_end0
  exact⟨⟨_,rfl⟩,.inr ⟨q,hq,by simpa using hx3⟩⟩
theorem zlp (w:Xe) (z:Int) (ab ac ad ae:Xc) (nb cb nc cc nd cd ne ce:Nat) :
  Calls Tryz.prog 96 #[.agg #[.int .i64 z,.slice ab nb cb,.slice ac nc cc,.slice ad nd cd,.slice ae ne ce]] w fun e w'=>e=.returned (.func (.func 131) #[] #[.pointer (some ⟨w.heap.size,0,none⟩)])∧
   w'=w.alloc (.cells #[.int .i64 z,.slice ab nb cb,.slice ac nc cc,.slice ad nd cd,.slice ae ne ce] 37):=by
 have hmf:∀(fn:Fn) (first cap:Array Xf) (w:Xe),(Instr.makeFunc fn first cap).run Tryz.prog w=.ok (.func fn first cap) w:=fun _ _ _ _=>rfl
 go_enter Tryz.func96,Tryz.ntmps96
 go_wp2
 go_ret
 exact⟨rfl,rfl⟩
end Go.Proofs.YtlpnibbdmkeklaaGreatDoor
namespace Go.Proofs.YtlpnibbdmkeklaaGreatDoor
open Go.RowKit
set_option linter.unusedVariables false
theorem OwElems.naught {α:Type} (w:Xe) (e:Xg) (size:Nat) (R:Xd->α->Xb->Prop):OwElems w e size (.slice none 0 0) ([]:List α) R []:=
 ⟨[],[],rfl,rfl,fun i hi=>by simp at hi,World.ownsRow_nil _ _ _ _,rfl⟩
theorem zsq {l:List (Xa×Xa)} {x:Xa×Xa} (h:x∈l):x.1.length+x.2.length<=szA l:=by
 unfold szA
 have:x.1.length+x.2.length∈l.map (fun x=>x.1.length+x.2.length):=List.mem_map.2 ⟨x,h,rfl⟩
 have:=zlM this
 omega
section
variable {n lo po:Nat} {w w':Xe} {kd:Int} {nm tx at' kv:Xf} {ln lt:Xa} {la:List (Xa×Xa)} {A:List (Tr (n+1))} {Fa Fk:Xb}
end
theorem zbB {w:Xe} {po:Nat} {z0 z1 z2 z3 z4:Xf} {T:Xg} (h:Loc w po #[z0,z1,z2,z3,z4] T) (a b c d e:Xf) :
  Loc (((((w.setCell ⟨po,0,none⟩ a).setCell ⟨po,1,none⟩ b).setCell ⟨po,2,none⟩ c).setCell ⟨po,3,none⟩ d).setCell ⟨po,4,none⟩ e) po #[a,b,c,d,e] T∧Frm w (((((w.setCell ⟨po,0,none⟩ a).setCell ⟨po,1,none⟩ b).setCell ⟨po,2,none⟩ c).setCell ⟨po,3,none⟩ d).setCell ⟨po,4,none⟩ e) [po]:=
 ⟨((((h.set 0 a).set 1 b).set 2 c).set 3 d).set 4 e,((((Frm.set _ _ _ _).trans (Frm.set _ _ _ _)).trans (Frm.set _ _ _ _)).trans (Frm.set _ _ _ _)).trans (Frm.set _ _ _ _)⟩
theorem ziI (w:Xe) (a b c d e:Xf) (T:Xg):∀(j:Nat) (u:Xf),[a,b,c,d,e][j]? = some u->(w.alloc (.cells #[a,b,c,d,e] T)).cell? ((⟨w.heap.size,0,none⟩:Addr).add j)=some u:=by
 intro j u hu
 exact World.news_of_block (heap_alloc_new w (.cells #[a,b,c,d,e] T)) j u (by simpa using hu)
end Go.Proofs.YtlpnibbdmkeklaaGreatDoor
namespace Go.Proofs.YtlpnibbdmkeklaaGreatDoor
open Go.RowKit
set_option linter.unusedVariables false
set_option maxRecDepth 100000
theorem zdl {w:Xe} {b1 s1 n1:Nat} {T1 T2:Xg} {v:Xf} {xs:Xd} {g:Nat} {cs:Array Xf} (h:w.ownsRow b1 T1 s1 v n1 xs) (k:Loc w g cs T2) (hT:T1≠T2):g∉FB v:=by
 intro hq
 obtain⟨c1,e1⟩:=zeU h (g:=g) (by simpa [FB]using hq)
 unfold Loc at k
 rw [e1]at k
 injection k with k
 injection k with _ k
 exact hT k
theorem zhV {w:Xe} {v:Xf} {l:List (Xa×Xa)} {F:Xb} {g:Nat} {cs:Array Xf} (ho:OwAttrs w v l F) (h:Loc w g cs 117):g∉F:=by
 obtain⟨Cs,Fs,e1,e2,e3,e4,rfl⟩:=ho
 intro hg
 rcases List.mem_append.1 hg with hg | hg
 ·exact zdl e4 h (by decide) hg
 ·obtain⟨G,hG,hgG⟩:=List.mem_flatten.1 hg
  obtain⟨i,hi,rfl⟩:=List.getElem_of_mem hG
  obtain⟨_,a,b,_,q1,q2,q3⟩:=e3 i (by omega)
  rw [show Fs.getD i []=Fs[i] by simp [hi]]at q3
  rw [q3]at hgG
  rcases List.mem_append.1 hgG with h' | h'
  ·exact zdl q1.2 h (by decide) h'
  ·exact zdl q2.2 h (by decide) h'
def RowM (w:Xe) (base:Nat) (v:Xf) (l:Xa):Prop:=
 okB l∧((v=.slice none 0 0∧l=[])∨
  ∃g cap cur fz,v=.slice (some ⟨g,0,none⟩) l.length cap∧base<=g∧w.heap[g]? = some (.cells cur 5 fz)∧(∀j,j<cap->¬ (fz.1<=j∧j<fz.2))∧l.length<=cap∧cap<=maxLen∧cur.size=cap∧cur.toList.take l.length=vals l)
theorem Own.rowm {w:Xe} {base:Nat} {v:Xf} {l:Xa} (h:Own w base v l):RowM w base v l:=by
 refine⟨h.1,?_⟩
 rcases h.2.2 with ⟨e,hz⟩ | ⟨g,cap,cur,e,hb,hg,h1,h2,h3,h4⟩
 ·exact .inl ⟨e,List.eq_nil_of_length_eq_zero hz⟩
 ·exact .inr ⟨g,cap,cur,(0,0),e,hb,hg,fun j _ hj=>by simp at hj,h1,h2,by simpa using h3,by simpa using h4⟩
theorem RowM.lt {w:Xe} {base:Nat} {v:Xf} {l:Xa} (h:RowM w base v l):∀k,v.ownBlock=some k->base<=k∧k<w.heap.size:=by
 intro k hk
 rcases h.2 with ⟨rfl,_⟩ | ⟨g,cap,cur,fz,rfl,hb,hg,_⟩
 ·simp [Value.ownBlock]at hk
 ·simp [Value.ownBlock]at hk
  subst hk
  exact⟨hb,(Array.getElem?_eq_some_iff.1 hg).1⟩
theorem RowM.frm {w w':Xe} {base:Nat} {v:Xf} {l:Xa} {S:Xb} (h:RowM w base v l) (f:Frm w w' S) (hd:∀g∈FB v,g∉S):RowM w' base v l:=by
 refine⟨h.1,?_⟩
 rcases h.2 with h' | ⟨g,cap,cur,fz,rfl,h1,hg,h2⟩
 ·exact .inl h'
 ·have hlt:g<w.heap.size:=(Array.getElem?_eq_some_iff.1 hg).1
  exact .inr ⟨g,cap,cur,fz,rfl,h1,(f.block g hlt (hd g (by simp [FB,Value.ownBlock]))).trans hg,h2⟩
theorem RowM.keep {w w':Xe} {base:Nat} {v:Xf} {l:Xa} (h:RowM w base v l) (hB:Below w.heap.size w w'):RowM w' base v l:=h.frm (Frm.ofBelow hB []) (fun _ _=>by simp)
theorem RowM.rng {w:Xe} {base:Nat} {v:Xf} {l:Xa} (h:RowM w base v l):Rng (FB v) base w.heap.size:=fun g hg=>h.lt g (by simpa [FB]using hg)
theorem zrT {xs:Xd} {m:Nat} {ys:Xd} (h:xs.take m=ys) {i:Nat} (hi:i<m):xs[i]? = ys[i]? :=by
 rw [<-h,List.getElem?_take,if_pos hi]
theorem RowM.byt {w:Xe} {base:Nat} {v:Xf} {l:Xa} (h:RowM w base v l):Byt w v l:=by
 rcases h.2 with ⟨rfl,rfl⟩ | ⟨g,cap,cur,fz,rfl,hb,hg,hf,h1,h2,h3,h4⟩
 ·exact⟨h.1,by simp [maxLen],.inl ⟨rfl,rfl⟩⟩
 ·refine⟨h.1,by omega,?_⟩
  by_cases h0:l=[]
  ·subst h0
   exact .inr (.inl ⟨_,cap,rfl,h2,rfl⟩)
  ·refine .inr (.inr ⟨g,0,cap,rfl,h1,h2,h0,(Array.getElem?_eq_some_iff.1 hg).1,fun i hi=> ?_⟩)
   rw [Nat.zero_add,cell_of_row w g i cur _ fz hg]
   have:=zrT h4 hi
   rw [zdm hi]at this
   simpa using this
def OwPlM (w:Xe) (C:Xd) (p:PlV) (F:Xb):Prop:=∃k n t a Fa,C=[.int .i64 p.idN,.int .i64 p.idR,.int .i64 p.parN,.int .i64 p.parR,k,.int .i64 p.kind,n,t,a]∧OwnZ w 0 k p.key∧RowM w 0 n p.name∧Own w 0 t p.text∧OwAttrs w a p.attrs Fa∧F=FB k++FB n++FB t++Fa
def OwPlsM (w:Xe) (v:Xf) (l:List PlV) (F:Xb):Prop:=OwElems w 117 9 v l (OwPlM w) F
theorem OwPlM.frm {w w':Xe} {C:Xd} {p:PlV} {F S:Xb} (h:OwPlM w C p F) (f:Frm w w' S) (hd:∀g∈F,g∉S):OwPlM w' C p F:=by
 obtain⟨k,n,t,a,Fa,e,h1,h2,h3,h4,rfl⟩:=h
 exact⟨k,n,t,a,Fa,e,⟨h1.1,zap h1.2 f (fun g hg=>hd g (by simp [hg]))⟩,h2.frm f (fun g hg=>hd g (by simp [hg])),h3.frm f (fun g hg=>hd g (by simp [hg])),OwAttrs.frm h4 f (fun g hg=>hd g (by simp [hg])),rfl⟩
theorem OwPlsM.frm {w w':Xe} {v:Xf} {l:List PlV} {F S:Xb} (h:OwPlsM w v l F) (f:Frm w w' S) (hd:∀g∈F,g∉S):OwPlsM w' v l F:=OwElems.frm h f hd (fun C x G hr hG=>hr.frm f hG)
theorem OwPlM.rd {w:Xe} {C:Xd} {p:PlV} {F:Xb} (h:OwPlM w C p F):RdPlC w C p:=by
 obtain⟨k,n,t,a,Fa,e,h1,h2,h3,h4,_⟩:=h
 exact⟨k,n,t,a,e,h1.ints,h2.byt,h3.byt,h4.rd⟩
theorem OwPlsM.rd {w:Xe} {v:Xf} {l:List PlV} {F:Xb} (h:OwPlsM w v l F):RdPls w v l:=OwElems.rd h (OwElems.len h) (fun C x G hr=>hr.rd)
theorem OwPlM.lt {w:Xe} {C:Xd} {p:PlV} {F:Xb} (h:OwPlM w C p F):∀g∈F,g<w.heap.size:=by
 obtain⟨k,n,t,a,Fa,_,h1,h2,h3,h4,rfl⟩:=h
 intro g hg
 rcases List.mem_append.1 hg with hg | hg
 ·rcases List.mem_append.1 hg with hg | hg
  ·rcases List.mem_append.1 hg with hg | hg
   ·exact (h1.lt g (by simpa [FB]using hg)).2
   ·exact (h2.lt g (by simpa [FB]using hg)).2
  ·exact (h3.lt g (by simpa [FB]using hg)).2
 ·exact OwAttrs.lt h4 g hg
theorem OwPlsM.lt {w:Xe} {v:Xf} {l:List PlV} {F:Xb} (h:OwPlsM w v l F):∀g∈F,g<w.heap.size:=OwElems.lt h (fun _ _ _ hr=>hr.lt)
theorem zrc {w:Xe} {base:Nat} {v:Xf} {l:Xa} (h:RowM w base v l):∀g∈FB v,∃cs fz,w.heap[g]? = some (.cells cs 5 fz):=fun g hg=>by
 rcases h.2 with ⟨rfl,_⟩ | ⟨g',cap,cur,fz,rfl,_,hh,_⟩
 ·simp [FB,Value.ownBlock]at hg
 ·have e:g=g':=by simpa [FB,Value.ownBlock,eq_comm]using hg
  subst e
  exact⟨cur,fz,hh⟩
end Go.Proofs.YtlpnibbdmkeklaaGreatDoor
namespace Go.Proofs.YtlpnibbdmkeklaaGreatDoor
open Go.RowKit Go.Maps
set_option linter.unusedVariables false
set_option maxRecDepth 100000
def CellT (w:Xe) (q:Nat):Prop:=∃cs T fz,w.heap[q]? = some (.cells cs T fz)∧(T=117∨T=3∨T=5∨T=144)
theorem zdA {w:Xe} {b s n:Nat} {T:Xg} {v:Xf} {xs:Xd} (h:w.ownsRow b T s v n xs) (hT:T=117∨T=3∨T=5∨T=144):∀q∈FB v,CellT w q:=fun q hq=>by
 obtain⟨cs,e⟩:=zeU h (g:=q) (by simpa [FB]using hq)
 exact⟨cs,T,_,e,hT⟩
theorem zeK {α:Type} {w:Xe} {e:Xg} {size:Nat} {v:Xf} {l:List α} {R:Xd->α->Xb->Prop} {F:Xb} (h:OwElems w e size v l R F) (he:e=117∨e=3∨e=5∨e=144) (hR:∀C x G,R C x G->∀q∈G,CellT w q):∀q∈F,CellT w q:=by
 obtain⟨Cs,Fs,e1,e2,e3,e4,rfl⟩:=h
 intro q hq
 rcases List.mem_append.1 hq with hq | hq
 ·exact zdA e4 he q hq
 ·obtain⟨G,hG,hgG⟩:=List.mem_flatten.1 hq
  obtain⟨i,hi,rfl⟩:=List.getElem_of_mem hG
  have:=(e3 i (by omega)).2
  rw [show Fs.getD i []=Fs[i] by simp [hi]]at this
  exact hR _ _ _ this q hgG
theorem OwAttrs.typ {w:Xe} {v:Xf} {l:List (Xa×Xa)} {F:Xb} (h:OwAttrs w v l F):∀q∈F,CellT w q:=
 zeK h (.inr (.inr (.inr rfl))) (fun C x G ⟨a,b,_,h1,h2,e⟩ q hq=>by
  rw [e]at hq
  rcases List.mem_append.1 hq with hq | hq
  ·exact zdA h1.2 (.inr (.inr (.inl rfl))) q hq
  ·exact zdA h2.2 (.inr (.inr (.inl rfl))) q hq)
theorem OwPlM.typ {w:Xe} {C:Xd} {p:PlV} {F:Xb} (h:OwPlM w C p F):∀q∈F,CellT w q:=by
 obtain⟨k,n,t,a,Fa,_,h1,h2,h3,h4,rfl⟩:=h
 intro g hg
 rcases List.mem_append.1 hg with hg | hg
 ·rcases List.mem_append.1 hg with hg | hg
  ·rcases List.mem_append.1 hg with hg | hg
   ·exact zdA h1.2 (.inr (.inl rfl)) g hg
   ·obtain⟨cs,fz,e⟩:=zrc h2 g hg
    exact⟨cs,_,fz,e,.inr (.inr (.inl rfl))⟩
  ·exact zdA h3.2 (.inr (.inr (.inl rfl))) g hg
 ·exact OwAttrs.typ h4 g hg
theorem OwPlsM.typ {w:Xe} {v:Xf} {l:List PlV} {F:Xb} (h:OwPlsM w v l F):∀q∈F,CellT w q:=zeK h (.inl rfl) (fun _ _ _ hr=>hr.typ)
theorem CellT.notMap {w:Xe} {q:Nat} (h:CellT w q) {es:Array MapEntry} {c:Nat}:w.heap[q]?≠some (.map es c):=by
 obtain⟨cs,T,fz,e,_⟩:=h
 rw [e]
 intro h
 cases h
theorem CellT.notL {w:Xe} {q:Nat} (h:CellT w q) {cs:Array Xf} {T:Xg} (hT:T≠117∧T≠3∧T≠5∧T≠144):¬ Loc w q cs T:=by
 obtain⟨cs',T',fz',e,h⟩:=h
 unfold Loc
 rw [e]
 intro h'
 injection h' with h'
 injection h' with _ h' _
 subst h'
 rcases h with h | h | h | h
 ·exact hT.1 h
 ·exact hT.2.1 h
 ·exact hT.2.2.1 h
 ·exact hT.2.2.2 h
def Cells (w:Xe) (q:Nat):Prop:=∃cs T fz,w.heap[q]? = some (.cells cs T fz)
theorem Cells.ofL {w:Xe} {q:Nat} {cs:Array Xf} {T:Xg} (h:Loc w q cs T):Cells w q:=⟨cs,T,_,h⟩
theorem CellT.cells {w:Xe} {q:Nat} (h:CellT w q):Cells w q:=by
 obtain⟨cs,T,fz,e,_⟩:=h
 exact⟨cs,T,fz,e⟩
theorem FSet.lt {B:Nat} {o p:Xf} {w:Xe} {g:Nat} (h:FSet B o p w g):g<w.heap.size:=by
 rcases h with h | ⟨m,_,h,_⟩
 ·exact h.lt
 ·exact h.lt
theorem zkC:∃es c,zaL=.map es c:=⟨_,_,rfl⟩
theorem FSet.frm {B:Nat} {o p:Xf} {w w':Xe} {g:Nat} {S:Xb} (h:FSet B o p w g) (f:Frm w w' S) (hg:g∉S) (hS:∀q∈S,q<B∨Cells w q):FSet B o p w' g:=by
 rcases h with h | ⟨m,hm,h,hv⟩
 ·exact .inl (h.frm f hg)
 ·have hlt:m<w.heap.size:=by
   by_cases e:m<w.heap.size
   ·exact e
   ·rw [Array.getElem?_eq_none (by omega)]at hv;cases hv
  refine .inr ⟨m,hm,h.frm f hg,(f.block m hlt (fun e=> ?_)).trans hv⟩
  rcases hS m e with e' | ⟨cs,T,fz,e'⟩
  ·omega
  ·obtain⟨es,c,ev⟩:=zkC
   rw [hv,ev]at e'
   cases e'
theorem FSet.loc {B:Nat} {o p:Xf} {w:Xe} {g:Nat} (h:FSet B o p w g):∃cs,Loc w g cs 112∧cs[0]? = some o∧cs[1]? = some p:=by
 rcases h with h | ⟨m,_,h,_⟩
 ·exact⟨_,h,rfl,rfl⟩
 ·exact⟨_,h,rfl,rfl⟩
structure FoS (B:Nat) (w:Xe) (g mb:Nat) (a:Xc) (c:Nat) (l:List PlV) (F:Xb):Prop where
 set:FSet (mb+1) (.slice a l.length c) (.map (some mb)) w g
 map:AtM w mb l
 row:OwPlsM w (.slice a l.length c) l F
 nd:F.Nodup
 ge:∀q∈F,B<=q
 geg:B<=g
 gem:B<=mb
 ids:∀p∈l,okI p.id∧okI p.par
 len:l.length<=100000
theorem FoS.gF {B:Nat} {w:Xe} {g mb:Nat} {a:Xc} {c:Nat} {l:List PlV} {F:Xb} (h:FoS B w g mb a c l F):g∉F:=fun hg=>by
 obtain⟨cs,hl,_⟩:=h.set.loc
 exact (OwPlsM.typ h.row g hg).notL (by decide) hl
theorem FoS.mF {B:Nat} {w:Xe} {g mb:Nat} {a:Xc} {c:Nat} {l:List PlV} {F:Xb} (h:FoS B w g mb a c l F):mb∉F:=fun hg=>by
 obtain⟨es,k,e⟩:=h.map.isMap
 exact (OwPlsM.typ h.row mb hg).notMap e
theorem FoS.gm {B:Nat} {w:Xe} {g mb:Nat} {a:Xc} {c:Nat} {l:List PlV} {F:Xb} (h:FoS B w g mb a c l F):g≠mb:=fun e=>by
 obtain⟨es,k,e'⟩:=h.map.isMap
 obtain⟨cs,hl,_⟩:=h.set.loc
 unfold Loc at hl
 rw [e,e']at hl
 cases hl
theorem FoS.frm {B:Nat} {w w':Xe} {g mb:Nat} {a:Xc} {c:Nat} {l:List PlV} {F S:Xb} (h:FoS B w g mb a c l F) (f:Frm w w' S) (hg:g∉S) (hm:mb∉S) (hF:∀q∈F,q∉S) (hS:∀q∈S,Cells w q):FoS B w' g mb a c l F:=
 ⟨h.set.frm f hg (fun q hq=>.inr (hS q hq)),h.map.frm f hm,h.row.frm f hF,h.nd,h.ge,h.geg,h.gem,h.ids,h.len⟩
theorem FoS.keep {B:Nat} {w w':Xe} {g mb:Nat} {a:Xc} {c:Nat} {l:List PlV} {F:Xb} (h:FoS B w g mb a c l F) (hb:Below w.heap.size w w'):FoS B w' g mb a c l F:=h.frm (Frm.ofBelow hb []) (by simp) (by simp) (fun _ _=>by simp) (fun q hq=>by cases hq)
theorem FoS.box {B:Nat} {w:Xe} {g mb:Nat} {a:Xc} {c:Nat} {l:List PlV} {F:Xb} (h:FoS B w g mb a c l F) {q:Nat} {cs:Array Xf} {T:Xg} (k:Loc w q cs T) (hT:T≠117∧T≠3∧T≠5∧T≠144) (hT':T≠112):q∉g::mb::F:=fun hq=>by
 rcases List.mem_cons.1 hq with rfl | hq
 ·obtain⟨cs',hl,_⟩:=h.set.loc
  unfold Loc at hl k
  rw [hl]at k
  injection k with k
  injection k with _ k
  exact hT' k.symm
 ·rcases List.mem_cons.1 hq with rfl | hq
  ·obtain⟨es,k',e'⟩:=h.map.isMap
   unfold Loc at k
   rw [e']at k
   cases k
  ·exact (OwPlsM.typ h.row q hq).notL hT k
def FoT (B:Nat) (w:Xe) (g mb:Nat) (l':List PlV) (F:Xb) (w':Xe):Prop:=∃a' c' F',FoS B w' g mb a' c' l' F'∧Frm w w' (g::mb::F)∧∀q∈F',q∈F∨w.heap.size<=q
end Go.Proofs.YtlpnibbdmkeklaaGreatDoor
namespace Go.Proofs.YtlpnibbdmkeklaaGreatDoor
open Go.RowKit
set_option linter.unusedVariables false
set_option maxRecDepth 100000
theorem Loc.twelve {w:Xe} {g:Nat} {v0 v1 v2 v3 v4 v5 v6 v7 v8 v9 v10 v11:Xf} {T:Xg} (h:Loc w g #[v0,v1,v2,v3,v4,v5,v6,v7,v8,v9,v10,v11] T) :
  w.cell? ⟨g,0,none⟩=some v0∧w.cell? ⟨g,1,none⟩=some v1∧w.cell? ⟨g,2,none⟩=some v2∧w.cell? ⟨g,3,none⟩=some v3∧w.cell? ⟨g,4,none⟩=some v4∧w.cell? ⟨g,5,none⟩=some v5∧w.cell? ⟨g,6,none⟩=some v6∧w.cell? ⟨g,7,none⟩=some v7∧w.cell? ⟨g,8,none⟩=some v8∧w.cell? ⟨g,9,none⟩=some v9∧w.cell? ⟨g,10,none⟩=some v10∧w.cell? ⟨g,11,none⟩=some v11:=
 ⟨h.cell 0,h.cell 1,h.cell 2,h.cell 3,h.cell 4,h.cell 5,h.cell 6,h.cell 7,h.cell 8,h.cell 9,h.cell 10,h.cell 11⟩
theorem RdOp.keep {w w':Xe} {v:Xf} {o:OpV} (h:RdOp w v o) (hb:Below w.heap.size w w'):RdOp w' v o:=by
 obtain⟨k,n,t,rfl,h1,h2,h3⟩:=h
 exact⟨k,n,t,rfl,h1.keep hb,h2.keep hb,h3.keep hb⟩
def OwOp (w:Xe) (base:Nat) (o:OpV) (k n t:Xf):Prop:=OwnZ w base k o.key∧Own w base n o.name∧Own w base t o.text∧(FB k++FB n++FB t).Nodup
theorem zqU (w:Xe) (v:Xf) (o:OpV) (h:RdOp w v o) (hs:o.key.length+o.name.length+o.text.length<=2097152) :
  Calls Tryz.prog 45 #[v] w fun e w'=>∃a1 c1 a2 c2 a3 c3,e=.returned (zaY o (.slice a1 o.key.length c1) (.slice a2 o.name.length c2) (.slice a3 o.text.length c3))∧OwOp w' w.heap.size o (.slice a1 o.key.length c1) (.slice a2 o.name.length c2) (.slice a3 o.text.length c3)∧Below w.heap.size w w':=by
 refine (zqI w v o h hs).mono ?_
 rintro e w' ⟨k,n,t,rfl,h1,h2,h3,h4,h5⟩
 obtain⟨a1,c1,rfl,_,_⟩:=h1.ints.shape
 obtain⟨a2,c2,rfl,_,_⟩:=h2.byt.shape
 obtain⟨a3,c3,rfl,_,_⟩:=h3.byt.shape
 exact⟨a1,c1,a2,c2,a3,c3,rfl,⟨h1,h2,h3,h4⟩,h5⟩
theorem zaf {P:Program} {f:FuncId} {args:Array Xf} {w:Xe} {R:Ending->Xe->Prop} (h:∀Q:Ending->Xe->Prop,Hid (∀e w',R e w'->Q e w')->Calls P f args w Q):Calls P f args w R:=h R (hide fun _ _ h=>h)
end Go.Proofs.YtlpnibbdmkeklaaGreatDoor
