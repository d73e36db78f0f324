/- Own texts joined: KlM, FoM, StrK, CmpI, SrA, FoN, FoK, OnceF, SzB, SzO, EqI, EqO, Eq, EqZ, EqJ, EqP, ToZ, ToO, PlT, AppAt, AppZ, Mark, OwnE. -/
import Derived.Test.YtlpnibbdmkeklaaGreatDoorJa
import Derived.Test.YtlpnibbdmkeklaaGreatDoorJb
import Derived.Lib.BytesEntry
import Derived.Lib.Bytealg
import Derived.Laws.Externs
import Derived.Test.YtlpnibbdmkeklaaGreatDoorChecked
import Derived.Maps.OwnSet
import Derived.DeepKeys4
import Derived.Deep.QuietTactic
import Derived.BigQuiet
import Derived.Maps.AppendAt
import Derived.Laws.AppendOwnNone
import Derived.Deep.RegionLaw
namespace Go.Proofs.YtlpnibbdmkeklaaGreatDoor
set_option linter.unusedVariables false
def klB:Xa->Xa->Bool
 | [],[]=>false
 | [],_::_=>true
 | _::_,[]=>false
 | x::a,y::b=>if x=y then klB a b else decide (x<y)
theorem zmb {a b:Xa} (h:a=[]∨b=[]):klB a b=decide (a.length<b.length):=by
 cases a<;>cases b<;>simp [klB]at *
theorem zcf {l:Xa} {k:Nat} (h:k<l.length):l.drop k=l.getD k 0::l.drop (k+1):=by
 rw [List.drop_eq_getElem_cons h,zcq h]
theorem zqd {a b:Xa} {k:Nat} (ha:k<a.length) (hb:k<b.length) (e:a.getD k 0=b.getD k 0):klB (a.drop k) (b.drop k)=klB (a.drop (k+1)) (b.drop (k+1)):=by
 rw [zcf ha,zcf hb,klB,if_pos e]
theorem zpL {a b:Xa} {k:Nat} (ha:k<a.length) (hb:k<b.length) (e:a.getD k 0≠b.getD k 0):klB (a.drop k) (b.drop k)=decide (a.getD k 0<b.getD k 0):=by
 rw [zcf ha,zcf hb,klB,if_neg e]
theorem zqm {a b:Xa} {k:Nat} (ha:k<=a.length) (hb:k<=b.length) (h:k=a.length∨k=b.length):klB (a.drop k) (b.drop k)=decide (a.length<b.length):=by
 rw [zmb (by rcases h with rfl | rfl<;>simp)]
 simp only [List.length_drop]
 rw [Bool.eq_iff_iff]
 simp only [decide_eq_true_eq]
 omega
theorem zlV (a:Xa):klB a a=false:=by
 induction a with
 | nil=>rfl
 | cons x a ih=>rw [klB,if_pos rfl,ih]
theorem zjZ (a b:Xa):(klB a b && klB b a)=false:=by
 induction a generalizing b with
 | nil=>cases b<;>rfl
 | cons x a ih=>
  cases b with
  | nil=>rfl
  | cons y b=>
   by_cases e:x=y
   ·rw [klB,if_pos e,klB,if_pos e.symm];exact ih b
   ·rw [klB,if_neg e,klB,if_neg (fun h=>e h.symm)]
    by_cases h:x<y
    ·have:¬ y<x:=by omega
     simp [this]
    ·simp [h]
theorem zed (a b:Xa):(klB a b || klB b a) = !decide (a=b):=by
 induction a generalizing b with
 | nil=>cases b<;>simp [klB]
 | cons x a ih=>
  cases b with
  | nil=>simp [klB]
  | cons y b=>
   by_cases e:x=y
   ·rw [klB,if_pos e,klB,if_pos e.symm,ih b];simp [e]
   ·rw [klB,if_neg e,klB,if_neg (fun h=>e h.symm)]
    have:x<y∨y<x:=by omega
    simp [e,this]
end Go.Proofs.YtlpnibbdmkeklaaGreatDoor
namespace Go.Proofs.YtlpnibbdmkeklaaGreatDoor
open Go.RowKit
set_option linter.unusedVariables false
abbrev IdV:=Int×Int
def PlV.id (p:PlV):IdV:=(p.idN,p.idR)
def PlV.par (p:PlV):IdV:=(p.parN,p.parR)
def OpV.at' (o:OpV):IdV:=(o.atN,o.atR)
def OpV.node (o:OpV):IdV:=(o.nodeN,o.nodeR)
def OpV.par (o:OpV):IdV:=(o.parN,o.parR)
def zak:IdV:=(0,0)
def zag:IdV:=(0,1)
def posP (l:List PlV) (i:IdV):Option Nat:=l.findIdx? (fun p=>decide (p.id=i))
theorem posP_some {l:List PlV} {i:IdV} {k:Nat}:posP l i=some k↔∃h:k<l.length,l[k].id=i∧∀j (hj:j<k),l[j].id≠i:=by
 unfold posP
 rw [List.findIdx?_eq_some_iff_getElem]
 simp
theorem posP_none {l:List PlV} {i:IdV}:posP l i=none↔∀p∈l,p.id≠i:=by
 unfold posP
 rw [List.findIdx?_eq_none_iff]
 simp
theorem zbp {l:List PlV} {i:IdV} {k:Nat} (h:posP l i=some k):∃p,l[k]? = some p∧p.id=i:=by
 obtain⟨h1,h2,_⟩:=posP_some.1 h
 exact⟨l[k],by simp [h1],h2⟩
theorem zbr {l:List PlV} (hu:(l.map PlV.id).Nodup) {k:Nat} {p:PlV} (hk:l[k]? = some p):posP l p.id=some k:=by
 obtain⟨hlt,rfl⟩:=List.getElem?_eq_some_iff.1 hk
 refine posP_some.2 ⟨hlt,rfl,fun j hj e=> ?_⟩
 have hj':j<l.length:=by omega
 have:=(List.pairwise_iff_getElem.1 hu) j k (by simpa using hj') (by simpa using hlt) hj
 simp at this
 exact this e
def zcM (p:PlV):Bool:=decide (p.kind=0)
def zae (l:List PlV) (i:IdV):Bool:=match posP l i with
 | some k=>match l[k]? with
  | some p=>zcM p && !zaj p.name
  | none=>false
 | none=>false
def zaz (l:List PlV):Nat->IdV->IdV->Bool
 | 0,_,_=>true
 | f+1,i,b=>if i=b then true else match posP l i with
  | none=>false
  | some k=>if k<2 then false else match l[k]? with
   | some p=>zaz l f p.par b
   | none=>false
def zaw (l:List PlV):Nat->IdV->IdV->Bool
 | 0,_,_=>false
 | f+1,i,b=>if i=b then true else if i=zak∨i=zag then false else match posP l i with
  | none=>false
  | some k=>match l[k]? with
   | some p=>zaw l f p.par b
   | none=>false
def setA (n t:Xa):Bool->List (Xa×Xa)->List (Xa×Xa)
 | put,[]=>if put then [] else [(n,t)]
 | put,a::r=>(if !put && !klB a.1 n then [(n,t)] else [])++(if a.1=n then [] else [a])++setA n t (put || !klB a.1 n) r
def zbg (l:List (Xa×Xa)) (o:OpV):List (Xa×Xa):=if (setA o.name o.text o.gone l).length<=4 then setA o.name o.text o.gone l else l
def newP (o:OpV):PlV:=⟨o.atN,o.atR,o.parN,o.parR,o.key,o.elem,o.name,o.text,[]⟩
def zdz (o:OpV) (p:PlV):PlV:={ p with parN:=o.parN,parR:=o.parR,key:=o.key }
def zfp (o:OpV) (p:PlV):PlV:={ p with text:=o.text }
def zbs (o:OpV) (p:PlV):PlV:={ p with attrs:=zbg p.attrs o }
def zcb (l:List PlV) (o:OpV) (k:Nat):Bool:=decide (2<=k) && zae l o.par && !zaz l (l.length+1) o.par o.node
def doV (l:List PlV) (o:OpV):List PlV:=
 if o.kind=0 then (if zae l o.par then l++[newP o] else l)
 else match posP l o.node with
  | none=>l
  | some k=>match l[k]? with
   | none=>l
   | some p=>
    if o.kind=1 then (if zcb l o k then l.set k (zdz o p) else l)
    else if o.kind=2 then (if 2<=k∧p.kind=1 then l.set k (zfp o p) else l)
    else (if k≠1∧p.kind=0 then l.set k (zbs o p) else l)
def zaB:(n:Nat)->IdV->List (Tr n)->List PlV->List PlV
 | 0,_,_,acc=>acc
 | n+1,i,ks,acc=>ks.zipIdx.foldl (fun (a:List PlV) (x:Nd (Tr n)×Nat)=>zaB n (0,(a.length:Int)) x.1.kids (a++[⟨0,a.length,i.1,i.2,[(x.2:Int)+1],x.1.kind,x.1.name,x.1.text,x.1.attrs⟩])) acc
def zhC:Xa:=[116,114,97,115,104]
def zaP:PlV:=⟨0,1,0,0,[],0,zhC,[],[]⟩
structure Fr (l:List PlV):Prop where
 two:2<=l.length
 root:∀p,l[0]? = some p->p.id=zak
 trash:∀p,l[1]? = some p->p.id=zag
 uniq:(l.map PlV.id).Nodup
 par:∀i p,2<=i->l[i]? = some p->∃j,posP l p.par=some j
 rank:∃rk:IdV->Nat,∀i p,2<=i->l[i]? = some p->rk p.par<rk p.id
theorem ziA {α:Type} (p q:α->Bool):∀(l:List α),(∀x∈l,p x=true->q x=true)->(∃x∈l,q x=true∧p x=false)->l.countP p<l.countP q
 | [],_,⟨x,hx,_⟩=>by cases hx
 | a::r,h,⟨x,hx,hq,hp⟩=>by
  have hle:r.countP p<=r.countP q:=List.countP_mono_left (fun y hy=>h y (List.mem_cons_of_mem _ hy))
  rw [List.countP_cons,List.countP_cons]
  rcases List.mem_cons.1 hx with rfl | hx
  ·simp only [hp,hq];simp;omega
  ·have:=ziA p q r (fun y hy=>h y (List.mem_cons_of_mem _ hy)) ⟨x,hx,hq,hp⟩
   have h1:=h a (List.mem_cons_self ..)
   by_cases e:p a=true
   ·rw [h1 e,e];simp;omega
   ·simp only [e];simp;omega
def cntR (l:List PlV) (rk:IdV->Nat) (r:Nat):Nat:=(l.drop 2).countP (fun p=>decide (rk p.id<=r))
theorem zoR {l:List PlV} {k:Nat} {p:PlV} (hk:2<=k) (h:l[k]? = some p):p∈l.drop 2:=by
 refine List.mem_of_getElem? (i:=k-2) ?_
 rw [List.getElem?_drop]
 rw [show 2+(k-2)=k by omega]
 exact h
theorem zmv {l:List PlV} {rk:IdV->Nat} (hr:∀i p,2<=i->l[i]? = some p->rk p.par<rk p.id) {k:Nat} {p:PlV} (hk:2<=k) (h:l[k]? = some p):cntR l rk (rk p.par)<cntR l rk (rk p.id):=by
 have:=hr k p hk h
 exact ziA _ _ _ (fun x _ hx=>by simp at hx ⊢;omega) ⟨p,zoR hk h,by simp,by simp;omega⟩
theorem zmc (l:List PlV) (rk:IdV->Nat) (r:Nat):cntR l rk r<=l.length-2:=by
 unfold cntR
 have:=List.countP_le_length (p:=fun p:PlV=>decide (rk p.id<=r)) (l:=l.drop 2)
 simpa using this
theorem Fr.low {l:List PlV} (h:Fr l) {i:IdV} {k:Nat} (hk:posP l i=some k):k<2↔i=zak∨i=zag:=by
 obtain⟨p,hp,rfl⟩:=zbp hk
 have h2:=h.two
 obtain⟨p0,h0⟩:∃p0,l[0]? = some p0:=⟨l[0],by simp [show 0<l.length by omega]⟩
 obtain⟨p1,h1⟩:∃p1,l[1]? = some p1:=⟨l[1],by simp [show 1<l.length by omega]⟩
 constructor
 ·intro hlt
  match k,hlt with
  | 0,_=>exact .inl (h.root p hp)
  | 1,_=>exact .inr (h.trash p hp)
 ·rintro (e | e)
  ·have:=zbr h.uniq h0
   rw [h.root p0 h0,<-e,hk]at this
   cases this;decide
  ·have:=zbr h.uniq h1
   rw [h.trash p1 h1,<-e,hk]at this
   cases this;decide
theorem zdd {l:List PlV} (h:Fr l) (b:IdV) {rk:IdV->Nat} (hr:∀i p,2<=i->l[i]? = some p->rk p.par<rk p.id):∀(f1 f2:Nat) (i:IdV) (k:Nat),posP l i=some k->cntR l rk (rk i)<f1->cntR l rk (rk i)<f2->zaz l f1 i b=zaw l f2 i b
 | 0,_,_,_,_,h1,_=>by omega
 | f1+1,0,_,_,_,_,h2=>by omega
 | f1+1,f2+1,i,k,hk,h1,h2=>by
  unfold zaz zaw
  by_cases e:i=b
  ·simp [e]
  ·simp only [e,if_false,hk]
   by_cases hlt:k<2
   ·have:=(h.low hk).1 hlt
    simp [hlt,this]
   ·have hn:¬ (i=zak∨i=zag):=fun e=>hlt ((h.low hk).2 e)
    obtain⟨p,hp,rfl⟩:=zbp hk
    simp only [hlt,hn,if_false,hp]
    obtain⟨j,hj⟩:=h.par k p (by omega) hp
    have:=zmv hr (by omega) hp
    exact zdd h b hr f1 f2 p.par j hj (by omega) (by omega)
theorem znG {l:List PlV} (h:Fr l) (b:IdV) {rk:IdV->Nat} (hr:∀i p,2<=i->l[i]? = some p->rk p.par<rk p.id) (f1 f2:Nat) (i:IdV) (k:Nat) (hk:posP l i=some k) (h1:cntR l rk (rk i)<f1) (h2:cntR l rk (rk i)<f2):zaz l f1 i b=zaz l f2 i b:=
 (zdd h b hr f1 f2 i k hk h1 h2).trans (zdd h b hr f2 f2 i k hk h2 h2).symm
theorem Fr.under {l:List PlV} (h:Fr l) (i b:IdV) (k:Nat) (hk:posP l i=some k):zaz l (l.length+1) i b=zaw l l.length i b:=by
 obtain⟨rk,hr⟩:=h.rank
 have h1:=zmc l rk (rk i)
 have h2:=h.two
 exact zdd h b hr _ _ i k hk (by omega) (by omega)
theorem zrh {x y:Int} (hx:0<=x∧x<=255) (hy:0<=y∧y<=255):(UInt8.ofNat x.toNat<UInt8.ofNat y.toNat)↔x<y:=by
 rw [UInt8.lt_iff_toNat_lt]
 simp only [UInt8.toNat_ofNat']
 omega
theorem zjf:∀(a b:Xa),okB a->okB b->Op.bytesLess (a.map fun n=>UInt8.ofNat n.toNat) (b.map fun n=>UInt8.ofNat n.toNat)=klB a b
 | [],[],_,_=>rfl
 | [],_::_,_,_=>rfl
 | _::_,[],_,_=>rfl
 | x::a,y::b,ha,hb=>by
  have hx:=ha x (by simp)
  have hy:=hb y (by simp)
  have ih:=zjf a b (fun z hz=>ha z (by simp [hz])) (fun z hz=>hb z (by simp [hz]))
  simp only [List.map_cons]
  unfold Op.bytesLess klB
  rw [ih]
  have h1:=zrh hx hy
  have h2:=zrh hy hx
  by_cases e:x=y
  ·subst e;simp
  ·have e2:¬ UInt8.ofNat x.toNat=UInt8.ofNat y.toNat:=fun h=>by
    have h3:¬ UInt8.ofNat x.toNat<UInt8.ofNat y.toNat:=by rw [h];exact UInt8.lt_irrefl _
    have h4:¬ UInt8.ofNat y.toNat<UInt8.ofNat x.toNat:=by rw [h];exact UInt8.lt_irrefl _
    rw [h1]at h3
    rw [h2]at h4
    omega
   by_cases hl:x<y
   ·simp [h1.2 hl,e,hl]
   ·have h5:¬ UInt8.ofNat x.toNat<UInt8.ofNat y.toNat:=fun h=>hl (h1.1 h)
    simp [h5,e,hl,e2]
theorem zff {a b:Xa} (ha:okB a) (hb:okB b):Op.bytesLess (str a).toList (str b).toList=klB a b:=by
 rw [zbG,zbG,zbW,zbW]
 exact zjf a b ha hb
set_option maxRecDepth 100000
theorem zga (w:Xe) (u:Xf) (a:Xa) (h:Byt w u a):(Extern.Bytes.bytesOf u).run Tryz.prog w=.ok ⟨(Lib.bytesOf a).toArray⟩ w:=by
 obtain⟨hoka,_,⟨rfl,rfl⟩ | ⟨x,cap,rfl,hc,rfl⟩ | ⟨p,off,cap,rfl,h1,h2,h3,h4,h5⟩⟩:=h
 ·rfl
 ·rfl
 ·have hl:=Lib.run_loadBytesX (P:=Tryz.prog) w a ⟨p,off,none⟩ .empty (fun j x hj=>by
   have hjl:j<a.length:=(List.getElem?_eq_some_iff.1 hj).1
   rw [zbc,h5 j hjl,List.getD_eq_getElem?_getD,hj];rfl)
  have he:(⟨ByteArray.empty.data++(Lib.bytesOf a).toArray⟩:ByteArray)=⟨(Lib.bytesOf a).toArray⟩:=by
   apply ByteArray.ext
   show (#[]:Array UInt8)++(Lib.bytesOf a).toArray=(Lib.bytesOf a).toArray
   simp
  rw [he]at hl
  exact hl
def cmpB (a b:Xa):Int:=Lib.compareBytes (Lib.bytesOf a) (Lib.bytesOf b)
theorem zsg (w:Xe) (u v:Xf) (a b:Xa) (hu:Byt w u a) (hv:Byt w v b):(callFunc 153 #[u,v]).run Tryz.prog w=.ok (.value (.int .i64 (cmpB a b))) w:=by
 rw [run_callFunc_extern Tryz.func153 (by kernel_rfl) (by kernel_rfl) (by kernel_rfl) (e:=Extern.BytealgCompare.compare) (by kernel_rfl)]
 have e:(Extern.BytealgCompare.compare #[u,v]).run Tryz.prog w=.ok (.int .i64 (cmpB a b)) w:=by
  change Sem.run Tryz.prog (do pure (goInt (Extern.BytealgCompare.cmp (<-Extern.Bytes.bytesOf u) (<-Extern.Bytes.bytesOf v)))) w=_
  simp only [Sem.run_bind,Sem.run_pure,zga w u a hu,zga w v b hv,Result.andThen]
  rw [Lib.cmp_eq]
  rfl
 rw [e]
 rfl
theorem zfX:∀(a b:List UInt8),Op.bytesLess a b=decide (Lib.compareBytes a b<0)
 | [],[]=>rfl
 | [],_::_=>rfl
 | _::_,[]=>rfl
 | x::a,y::b=>by
  have ih:=zfX a b
  unfold Op.bytesLess Lib.compareBytes
  by_cases h1:x<y
  ·simp [h1]
  ·by_cases h2:y<x
   ·have hne:¬ x=y:=fun e=>by subst e;exact h1 h2
    simp [h1,h2,hne]
   ·have he:x=y:=UInt8.le_antisymm (UInt8.not_lt.1 h2) (UInt8.not_lt.1 h1)
    subst he
    simp [h1,ih]
theorem ziL (a b:Xa):zeb a b=decide (cmpB a b<0):=by
 unfold zeb cmpB
 rw [zbG,zbG,zbW,zbW,zfX]
 rfl
theorem zkK (w:Xe) (u v:Xf) (a b:Xa) (hu:Byt w u a) (hv:Byt w v b) :
  Calls Tryz.prog 143 #[u,v] w fun e w'=>e=.returned (.int .i64 (cmpB a b))∧w'=w:=by
 have hr:=zsg w u v a b hu hv
 obtain⟨a1,k1,rfl,_⟩:=hu.shape
 obtain⟨a2,k2,rfl,_⟩:=hv.shape
 generalize cmpB a b=c at *
 go_enter Tryz.func143,Tryz.ntmps143
 go_wp2
 go_ret
 exact⟨rfl,rfl⟩
theorem zdB:∀{a b c:Xa},klB a b=true->klB b c=true->klB a c=true
 | [],_,[],h,k=>by
  rename_i b
  cases b with
  | nil=>cases h
  | cons y b=>cases k
 | [],_,_::_,_,_=>rfl
 | x::a,[],_,h,_=>by cases h
 | x::a,y::b,[],_,k=>by cases k
 | x::a,y::b,z::c,h,k=>by
  unfold klB at h k ⊢
  by_cases e1:x=y
  ·subst e1
   rw [if_pos rfl]at h
   by_cases e2:x=z
   ·rw [if_pos e2]at k ⊢
    exact zdB h k
   ·rw [if_neg e2]at k ⊢
    exact k
  ·rw [if_neg e1]at h
   have h':=of_decide_eq_true h
   by_cases e2:y=z
   ·subst e2
    rw [if_neg e1]
    exact h
   ·rw [if_neg e2]at k
    have k':=of_decide_eq_true k
    rw [if_neg (by omega)]
    exact decide_eq_true (by omega)
theorem zsC {a b:Xa} (ha:okB a) (hb:okB b):decide (cmpB a b<0)=klB a b:=by
 rw [<-ziL]
 exact zff ha hb
theorem zgj:∀(a b:List UInt8),Lib.compareBytes a b=0↔a=b
 | [],[]=>by simp [Lib.compareBytes]
 | [],_::_=>by simp [Lib.compareBytes]
 | _::_,[]=>by simp [Lib.compareBytes]
 | x::a,y::b=>by
  have ih:=zgj a b
  unfold Lib.compareBytes
  by_cases h1:x<y
  ·have hne:¬ x=y:=fun e=>by subst e;exact absurd h1 (UInt8.lt_irrefl _)
   simp [h1,hne]
  ·by_cases h2:y<x
   ·have hne:¬ x=y:=fun e=>by subst e;exact h1 h2
    simp [h1,h2,hne]
   ·have he:x=y:=UInt8.le_antisymm (UInt8.not_lt.1 h2) (UInt8.not_lt.1 h1)
    subst he
    simp [h1,ih]
theorem zgR:∀{a b:Xa},okB a->okB b->Lib.bytesOf a=Lib.bytesOf b->a=b
 | [],[],_,_,_=>rfl
 | [],_::_,_,_,h=>by cases h
 | _::_,[],_,_,h=>by cases h
 | x::a,y::b,ha,hb,h=>by
  unfold Lib.bytesOf at h
  simp only [List.map_cons,List.cons.injEq]at h
  have hx:=ha x (List.mem_cons_self ..)
  have hy:=hb y (List.mem_cons_self ..)
  have e:x=y:=by
   have h1:=congrArg UInt8.toNat h.1
   simp at h1
   omega
  rw [e,zgR (fun z hz=>ha z (List.mem_cons_of_mem _ hz)) (fun z hz=>hb z (List.mem_cons_of_mem _ hz)) h.2]
theorem zpY {a b:Xa} (ha:okB a) (hb:okB b):(cmpB a b == 0)=decide (a=b):=by
 have h:=zgj (Lib.bytesOf a) (Lib.bytesOf b)
 by_cases e:a=b
 ·rw [decide_eq_true e]
  have:cmpB a b=0:=h.2 (by rw [e])
  simp [this]
 ·rw [decide_eq_false e]
  have:cmpB a b≠0:=fun h'=>e (zgR ha hb (h.1 h'))
  simpa using this
abbrev AtV:=Xa×Xa
def zbv (n:Xa) (x:AtV):Bool:=klB x.1 n
def posA (l:List AtV) (n:Xa):Nat:=(l.takeWhile (zbv n)).length
def zbk (l:List AtV) (n:Xa):Bool:=if h:posA l n<l.length then decide (l[posA l n].1=n) else false
def SrtA (l:List AtV):Prop:=l.Pairwise (fun a b=>klB a.1 b.1=true)
theorem SrtA.lt {l:List AtV} (h:SrtA l) {i j:Nat} (hij:i<j) (hj:j<l.length):klB l[i].1 l[j].1=true:=List.pairwise_iff_getElem.1 h i j (by omega) hj hij
theorem zgV {l:List AtV} (h:SrtA l) {n:Xa} {i j:Nat} (hij:i<=j) (hj:j<l.length) (ha:zbv n l[j]=true):zbv n l[i]=true:=by
 rcases Nat.lt_or_eq_of_le hij with e | e
 ·exact zdB (h.lt e hj) ha
 ·subst e;exact ha
theorem zrW {l:List AtV} {n:Xa} {i:Nat} (hi:i<=l.length) (h1:∀k (hk:k<l.length),k<i->zbv n l[k]=true) (h2:∀hk:i<l.length,zbv n l[i]=false):posA l n=i:=by
 unfold posA
 induction l generalizing i with
 | nil=>simp at hi;subst hi;rfl
 | cons p l ih=>
  cases i with
  | zero=>
   have:=h2 (by simp)
   simp only [List.getElem_cons_zero]at this
   rw [List.takeWhile_cons,if_neg (by rw [this];decide)]
   rfl
  | succ i=>
   have h0:=h1 0 (by simp) (by omega)
   simp only [List.getElem_cons_zero]at h0
   rw [List.takeWhile_cons,if_pos h0,List.length_cons]
   rw [ih (i:=i) (by simpa using hi) (fun k hk hki=>by have:=h1 (k+1) (by simpa using hk) (by omega);simpa using this) (fun hk=>by have:=h2 (by simpa using hk);simpa using this)]
theorem zgE (l:List AtV) (n:Xa):posA l n<=l.length:=(List.takeWhile_prefix _).length_le
theorem ziY (n t:Xa):∀(l:List AtV),(∀x∈l,x.1≠n)->setA n t true l=l
 | [],_=>rfl
 | a::r,h=>by
  have ha:=h a (List.mem_cons_self ..)
  unfold setA
  simp only [Bool.not_true,Bool.false_and,if_neg ha,Bool.true_or]
  rw [ziY n t r (fun x hx=>h x (List.mem_cons_of_mem _ hx))]
  simp
theorem zex (a:AtV) (r:List AtV) (n:Xa):posA (a::r) n=if klB a.1 n=true then posA r n+1 else 0:=by
 unfold posA
 rw [List.takeWhile_cons]
 by_cases h:klB a.1 n=true
 ·rw [if_pos (show zbv n a=true from h),if_pos h,List.length_cons]
 ·rw [if_neg (show ¬ zbv n a=true from h),if_neg h];rfl
theorem zhc (a:AtV) (r:List AtV) (n:Xa):zbk (a::r) n=if klB a.1 n=true then zbk r n else decide (a.1=n):=by
 unfold zbk
 have hp:=zex a r n
 by_cases h:klB a.1 n=true
 ·rw [if_pos h]at hp ⊢
  by_cases h2:posA r n<r.length
  ·rw [dif_pos (by rw [hp];simpa using h2),dif_pos h2]
   simp only [hp,List.getElem_cons_succ]
  ·rw [dif_neg (by rw [hp];simpa using h2),dif_neg h2]
 ·rw [if_neg h]at hp ⊢
  rw [dif_pos (by rw [hp];simp)]
  simp only [hp,List.getElem_cons_zero]
theorem zms (n t:Xa) (gone:Bool):∀(l:List AtV),SrtA l->setA n t gone l=l.take (posA l n)++((if gone=true then [] else [(n,t)])++(if zbk l n=true then l.drop (posA l n+1) else l.drop (posA l n)))
 | [],_=>by
  unfold setA
  cases gone<;>simp [zbk,posA]
 | a::r,h=>by
  obtain⟨ha,hr⟩:=List.pairwise_cons.1 h
  have ih:=zms n t gone r hr
  rw [zex,zhc]
  unfold setA
  by_cases hk:klB a.1 n=true
  ·have hne:a.1≠n:=fun e=>by rw [e,zlV]at hk;cases hk
   simp only [hk,Bool.not_true,Bool.and_false,Bool.or_false,if_neg hne,if_true,ih]
   simp
  ·have hk':klB a.1 n=false:=by simpa using hk
   have hall:∀x∈r,x.1≠n:=fun x hx e=>by have:=ha x hx;rw [e]at this;exact hk this
   simp only [hk',Bool.not_false,Bool.and_true,Bool.or_true,ziY n t r hall]
   by_cases e:a.1=n
   ·cases gone<;>simp [e]
   ·cases gone<;>simp [e]
def chgI (l:List AtV) (o:OpV):List AtV:=
 if zbk l o.name=true then (if o.gone=true then l.take (posA l o.name)++l.drop (posA l o.name+1) else l.set (posA l o.name) (o.name,o.text))
 else if o.gone=true then l else if l.length=4 then l else l.take (posA l o.name)++((o.name,o.text)::l.drop (posA l o.name))
theorem zfU {l:List AtV} {n:Xa} (h:zbk l n=true):∃hp:posA l n<l.length,l[posA l n].1=n:=by
 unfold zbk at h
 by_cases hp:posA l n<l.length
 ·rw [dif_pos hp]at h
  exact⟨hp,of_decide_eq_true h⟩
 ·rw [dif_neg hp]at h;cases h
theorem zhz {l:List AtV} (h:SrtA l) (hl:l.length<=4) (o:OpV):zbg l o=chgI l o:=by
 have hp:=zgE l o.name
 unfold zbg chgI
 rw [zms _ _ _ l h]
 by_cases ht:zbk l o.name=true
 ·obtain⟨hlt,he⟩:=zfU ht
  simp only [ht,if_true]
  by_cases hg:o.gone=true
  ·simp only [hg,if_true,List.nil_append]
   rw [if_pos (by simp;omega)]
  ·simp only [hg]
   rw [if_pos (by simp;omega)]
   simp only [Bool.false_eq_true,if_false]
   rw [List.set_eq_take_append_cons_drop,if_pos hlt]
   simp
 ·simp only [ht]
  by_cases hg:o.gone=true
  ·simp only [hg,if_true,List.nil_append,Bool.false_eq_true,if_false,List.take_append_drop]
   rw [if_pos hl]
  ·simp only [hg,Bool.false_eq_true,if_false]
   by_cases h4:l.length=4
   ·rw [if_pos h4,if_neg (by simp;omega)]
   ·rw [if_neg h4,if_pos (by simp;omega)]
    simp
theorem zdq {l:List PlV} {p:PlV} {i:IdV} {k:Nat} (h:posP l i=some k):posP (l++[p]) i=some k:=by
 obtain⟨h1,h2,h3⟩:=posP_some.1 h
 refine posP_some.2 ⟨by simp;omega,?_,fun j hj=> ?_⟩
 ·rw [List.getElem_append_left h1];exact h2
 ·rw [List.getElem_append_left (by omega)];exact h3 j hj
theorem zim {l:List PlV} {k:Nat} {p q:PlV} (hk:l[k]? = some p) (e:q.id=p.id):(l.set k q).map PlV.id=l.map PlV.id:=by
 rw [List.map_set,e]
 obtain⟨hlt,rfl⟩:=List.getElem?_eq_some_iff.1 hk
 refine List.ext_getElem? (fun j=> ?_)
 rw [List.getElem?_set]
 by_cases hj:k=j
 ·subst hj;simp [hlt]
 ·simp [hj]
theorem zhv {l m:List PlV} (h:l.map PlV.id=m.map PlV.id) (i:IdV):posP l i=posP m i:=by
 have e:∀l:List PlV,posP l i=(l.map PlV.id).findIdx? (fun x=>decide (x=i)):=fun l=>by unfold posP;rw [List.findIdx?_map];rfl
 rw [e l,e m,h]
theorem zcJ {l:List PlV} {k j:Nat} {p q r:PlV} (hk:l[k]? = some p) (h:(l.set k q)[j]? = some r):(j=k∧r=q)∨(j≠k∧l[j]? = some r):=by
 obtain⟨hlt,rfl⟩:=List.getElem?_eq_some_iff.1 hk
 rw [List.getElem?_set]at h
 by_cases e:k=j
 ·subst e
  simp [hlt]at h
  exact .inl ⟨rfl,h.symm⟩
 ·simp [e]at h
  exact .inr ⟨fun e'=>e e'.symm,by simpa using h⟩
theorem Fr.same {l:List PlV} (h:Fr l) {k:Nat} {p q:PlV} (hk:l[k]? = some p) (e1:q.id=p.id) (e2:q.par=p.par):Fr (l.set k q):=by
 have hi:=zim hk e1
 refine⟨by simpa using h.two,fun r hr=> ?_,fun r hr=> ?_,by rw [hi];exact h.uniq,fun i r h2 hr=> ?_,?_⟩
 ·rcases zcJ hk hr with ⟨rfl,rfl⟩ | ⟨_,hr⟩
  ·rw [e1];exact h.root p hk
  ·exact h.root r hr
 ·rcases zcJ hk hr with ⟨rfl,rfl⟩ | ⟨_,hr⟩
  ·rw [e1];exact h.trash p hk
  ·exact h.trash r hr
 ·rw [zhv hi]
  rcases zcJ hk hr with ⟨rfl,rfl⟩ | ⟨_,hr⟩
  ·rw [e2];exact h.par _ p h2 hk
  ·exact h.par i r h2 hr
 ·obtain⟨rk,hrk⟩:=h.rank
  refine⟨rk,fun i r h2 hr=> ?_⟩
  rcases zcJ hk hr with ⟨rfl,rfl⟩ | ⟨_,hr⟩
  ·rw [e1,e2];exact hrk _ p h2 hk
  ·exact hrk i r h2 hr
theorem Fr.add {l:List PlV} (h:Fr l) {q:PlV} (hn:posP l q.id=none) {j:Nat} (hp:posP l q.par=some j):Fr (l++[q]):=by
 have hne:∀p∈l,p.id≠q.id:=posP_none.1 hn
 have hget:∀i r,(l++[q])[i]? = some r->(i=l.length∧r=q)∨(i<l.length∧l[i]? = some r):=fun i r hr=>by
  rw [List.getElem?_append]at hr
  split at hr
  ·exact .inr ⟨by assumption,hr⟩
  ·rename_i hge
   have:i-l.length=0:=by
    have:=(List.getElem?_eq_some_iff.1 hr).1
    simp at this;omega
   rw [this]at hr
   simp at hr
   exact .inl ⟨by omega,hr.symm⟩
 have h2:=h.two
 refine⟨by simp;omega,fun r hr=> ?_,fun r hr=> ?_,?_,fun i r hi hr=> ?_,?_⟩
 ·rcases hget _ _ hr with ⟨e,_⟩ | ⟨_,hr⟩
  ·omega
  ·exact h.root r hr
 ·rcases hget _ _ hr with ⟨e,_⟩ | ⟨_,hr⟩
  ·omega
  ·exact h.trash r hr
 ·rw [List.map_append,List.nodup_append]
  refine⟨h.uniq,by simp,fun a ha b hb e=> ?_⟩
  obtain⟨p,hp1,rfl⟩:=List.mem_map.1 ha
  simp at hb
  exact hne p hp1 (e.trans hb)
 ·rcases hget _ _ hr with ⟨_,rfl⟩ | ⟨_,hr⟩
  ·exact⟨j,zdq hp⟩
  ·obtain⟨m,hm⟩:=h.par i r hi hr
   exact⟨m,zdq hm⟩
 ·obtain⟨rk,hrk⟩:=h.rank
  have hpar:∀i r,2<=i->l[i]? = some r->r.par≠q.id:=fun i r hi hr e=>by
   obtain⟨m,hm⟩:=h.par i r hi hr
   rw [e,hn]at hm
   cases hm
  have hqp:q.par≠q.id:=fun e=>by rw [e,hn]at hp;cases hp
  refine⟨fun x=>if x=q.id then rk q.par+1 else rk x,fun i r hi hr=> ?_⟩
  rcases hget _ _ hr with ⟨_,rfl⟩ | ⟨_,hr⟩
  ·simp [hqp]
  ·have:=hne r (List.mem_of_getElem? hr)
   simp only [hpar i r hi hr,this,if_false]
   exact hrk i r hi hr
theorem Fr.move {l:List PlV} (h:Fr l) {k:Nat} {p q:PlV} (hk2:2<=k) (hk:l[k]? = some p) (e1:q.id=p.id) {j:Nat} (hp:posP l q.par=some j) (hu:zaz l (l.length+1) q.par p.id=false):Fr (l.set k q):=by
 have hi:=zim hk e1
 refine⟨by simpa using h.two,fun r hr=> ?_,fun r hr=> ?_,by rw [hi];exact h.uniq,fun i r h2 hr=> ?_,?_⟩
 ·rcases zcJ hk hr with ⟨rfl,rfl⟩ | ⟨_,hr⟩
  ·rw [e1];exact h.root p hk
  ·exact h.root r hr
 ·rcases zcJ hk hr with ⟨rfl,rfl⟩ | ⟨_,hr⟩
  ·rw [e1];exact h.trash p hk
  ·exact h.trash r hr
 ·rw [zhv hi]
  rcases zcJ hk hr with ⟨rfl,rfl⟩ | ⟨_,hr⟩
  ·exact⟨j,hp⟩
  ·exact h.par i r h2 hr
 ·obtain⟨rk,hrk⟩:=h.rank
  have hU:∀i r,2<=i->l[i]? = some r->r.id≠p.id->zaz l (l.length+1) r.id p.id=zaz l (l.length+1) r.par p.id:=fun i r hi2 hr hne=>by
   have hpos:=zbr h.uniq hr
   obtain⟨m,hm⟩:=h.par i r hi2 hr
   have c1:=zmc l rk (rk r.id)
   have c2:=zmv hrk hi2 hr
   have h2:=h.two
   rw [znG h p.id hrk (l.length+1) (l.length+2) r.id i hpos (by omega) (by omega)]
   conv=>lhs;unfold zaz
   simp only [hne,if_false,hpos,hr,show ¬ i<2 by omega]
  refine⟨fun x=>if zaz l (l.length+1) x p.id=true then rk x+rk q.par+1 else rk x,fun i r h2 hr=> ?_⟩
  have hself:zaz l (l.length+1) p.id p.id=true:=by unfold zaz;simp
  rcases zcJ hk hr with ⟨rfl,rfl⟩ | ⟨hne,hr⟩
  ·show (if zaz l (l.length+1) r.par p.id=true then rk r.par+rk r.par+1 else rk r.par)<(if zaz l (l.length+1) r.id p.id=true then rk r.id+rk r.par+1 else rk r.id)
   rw [e1,hself,hu]
   simp
   omega
  ·have hid:r.id≠p.id:=fun e=>by
    have a1:=zbr h.uniq hr
    have a2:=zbr h.uniq hk
    rw [e,a2]at a1
    cases a1
    exact hne rfl
   show (if zaz l (l.length+1) r.par p.id=true then rk r.par+rk q.par+1 else rk r.par)<(if zaz l (l.length+1) r.id p.id=true then rk r.id+rk q.par+1 else rk r.id)
   rw [hU i r h2 hr hid]
   have:=hrk i r h2 hr
   by_cases e:zaz l (l.length+1) r.par p.id=true
   ·simp only [e,if_true];omega
   ·simp only [e];simpa using this
theorem zdG {l:List PlV} {i:IdV} (h:zae l i=true):∃k p,posP l i=some k∧l[k]? = some p∧p.kind=0∧zaj p.name=false:=by
 unfold zae at h
 cases hp:posP l i with
 | none=>rw [hp]at h;cases h
 | some k=>
  rw [hp]at h
  cases hk:l[k]? with
  | none=>simp only [hk]at h;cases h
  | some p=>
   simp only [hk]at h
   simp [zcM]at h
   exact⟨k,p,rfl,hk,h.1,h.2⟩
theorem Fr.do {l:List PlV} (h:Fr l) (o:OpV) (hn:o.kind=0->posP l o.at'=none):Fr (doV l o):=by
 unfold doV
 by_cases h0:o.kind=0
 ·rw [if_pos h0]
  by_cases ht:zae l o.par=true
  ·rw [if_pos ht]
   obtain⟨k,p,hp,_⟩:=zdG ht
   exact h.add (q:=newP o) (hn h0) hp
  ·rw [if_neg ht];exact h
 ·rw [if_neg h0]
  cases hp:posP l o.node with
  | none=>exact h
  | some k=>
   obtain⟨p,hk,hid⟩:=zbp hp
   simp only [hk]
   by_cases h1:o.kind=1
   ·rw [if_pos h1]
    by_cases hm:zcb l o k=true
    ·rw [if_pos hm]
     unfold zcb at hm
     simp only [Bool.and_eq_true,decide_eq_true_eq,Bool.not_eq_true']at hm
     obtain⟨j,q,hj,_⟩:=zdG hm.1.2
     exact h.move (q:=zdz o p) hm.1.1 hk rfl hj (by rw [hid];exact hm.2)
    ·rw [if_neg hm];exact h
   ·rw [if_neg h1]
    by_cases h2:o.kind=2
    ·rw [if_pos h2]
     by_cases hc:2<=k∧p.kind=1
     ·rw [if_pos hc];exact h.same hk rfl rfl
     ·rw [if_neg hc];exact h
    ·rw [if_neg h2]
     by_cases hc:k≠1∧p.kind=0
     ·rw [if_pos hc];exact h.same hk rfl rfl
     ·rw [if_neg hc];exact h
end Go.Proofs.YtlpnibbdmkeklaaGreatDoor
namespace Go.Proofs.YtlpnibbdmkeklaaGreatDoor
open Go.RowKit Go.Maps
set_option linter.unusedVariables false
set_option maxRecDepth 100000
theorem Tryz.laidOut9:laidOutB Tryz.prog=true:=by kernel_rfl
theorem Tryz.row9:(81:Xg)<Tryz.prog.types.size:=of_decide_eq_true (by kernel_rfl)
theorem lawId:Keyed Tryz.prog 81:=Keyed.of_law (deep_law_laid Tryz.laidOut9 (m:=2) (by omega) Tryz.row9 (by kernel_rfl) (by kernel_rfl))
def kId (i:IdV):Lit:=.string (keyBytes [.int .i64 i.1,.int .i64 i.2])
def okI (i:IdV):Prop:=(Lit.int .i64 i.1).wf=true∧(Lit.int .i64 i.2).wf=true
def zaq (i:IdV):Xf:=.agg #[.int .i64 i.1,.int .i64 i.2]
theorem keyI {i:IdV} (h:okI i):keyOf Tryz.prog 81 (zaq i)=some (kId i):=by
 obtain⟨wa,wb⟩:=h
 obtain⟨m,hm⟩:∃m,Tryz.prog.types.size=m+1:=⟨Tryz.prog.types.size-1,by kernel_rfl⟩
 have hu:Tryz.prog.underlying 3=some (.int .i64):=by kernel_rfl
 have hc:Tryz.prog.cellsOf 81=2:=by kernel_rfl
 have hc1:Tryz.prog.cellsOf 3=1:=by kernel_rfl
 have hkt:Tryz.prog.keyType 81=true:=by kernel_rfl
 unfold keyOf zaq kId
 simp only [Tryz.underlying81]
 rw [if_pos (by simp [hkt,Value.formed,Tryz.underlying81,hc]),hm]
 unfold Program.keyLits
 simp only [Tryz.underlying81,Value.cells]
 simp [hc,hc1,Program.keyLits,hu,wa,wb]
theorem zrK {i j:IdV} (h:okI i) (k:okI j) (e:kId i=kId j):i=j:=by
 have h1:=lawId.inj (keyI h) (by rw [e];exact keyI k)
 unfold zaq at h1
 simp at h1
 exact Prod.ext h1.1 h1.2
theorem intE:Tryz.prog.underlying 3=some (.int .i64):=by kernel_rfl
theorem ztg (w:Xe):(zeroValue 3).run Tryz.prog w=.ok (.int .i64 0) w:=by kernel_rfl
def AtM (w:Xe) (mb:Nat) (l:List PlV):Prop:=∃(D:DataW Unit) (n:Nat),w.ownsMap Tryz.prog 81 (plainElem Tryz.prog 3) mb n D∧n<=l.length∧∀i,okI i->Maps.has D (kId i)=(posP l i).isSome∧∀k,posP l i=some k->D.atKey (kId i) (.lit (.int .i64 0))=.lit (.int .i64 (k:Int))
theorem AtM.made (w:Xe):AtM (w.alloc (.map #[] 0)) w.heap.size []:=
 ⟨.map [],0,World.ownsMap_made _ _ _ _,Nat.le_refl _,fun i _=>⟨rfl,fun k h=>by cases h⟩⟩
theorem AtM.lt {w:Xe} {mb:Nat} {l:List PlV} (h:AtM w mb l):mb<w.heap.size:=by
 obtain⟨D,n,h,_⟩:=h
 exact h.lt
theorem AtM.isMap {w:Xe} {mb:Nat} {l:List PlV} (h:AtM w mb l):∃es clock,w.heap[mb]? = some (.map es clock):=by
 obtain⟨D,n,⟨es,c,h,_⟩,_⟩:=h
 exact⟨es,c,h⟩
theorem AtM.frm {w w':Xe} {mb:Nat} {l:List PlV} {S:Xb} (h:AtM w mb l) (f:Frm w w' S) (hd:mb∉S):AtM w' mb l:=by
 have hlt:=h.lt
 obtain⟨D,n,⟨es,c,h1,h2⟩,h3⟩:=h
 exact⟨D,n,⟨es,c,(f.block mb hlt hd).trans h1,h2⟩,h3⟩
theorem AtM.ids {w:Xe} {mb:Nat} {l m:List PlV} (h:AtM w mb l) (e:l.map PlV.id=m.map PlV.id):AtM w mb m:=by
 obtain⟨D,n,h1,h2,h3⟩:=h
 have hl:l.length=m.length:=by have:=congrArg List.length e;simpa using this
 exact⟨D,n,h1,by omega,fun i hi=>by rw [<-zhv e];exact h3 i hi⟩
theorem AtM.look {w:Xe} {mb:Nat} {l:List PlV} (h:AtM w mb l) {i:IdV} (hi:okI i):∃c:Int,(Instr.lookup 95 (.map (some mb)) (zaq i) true).run Tryz.prog w=.ok (.tuple #[.int .i64 c,.bool (posP l i).isSome]) w∧∀k,posP l i=some k->c=(k:Int):=by
 obtain⟨D,n,h1,h2,h3⟩:=h
 obtain⟨v,ps,hrun,hv⟩:=h1.look_ok lawId Tryz.underlying95 (ztg w) (plainElem_int intE (by decide)) (keyI hi)
 obtain⟨c,rfl,hc,_⟩:=plainElem_int_inv intE hv
 refine⟨c,by rw [hrun,(h3 i hi).1],fun k hk=> ?_⟩
 have h4:=(congrArg Prod.fst hc)
 rw [(h3 i hi).2 k hk]at h4
 injection h4 with h4
 injection h4 with _ h4
 exact h4.symm
theorem zfP {l:List PlV} {p:PlV} {i:IdV} (hn:posP l p.id=none):posP (l++[p]) i=if i=p.id then some l.length else posP l i:=by
 by_cases e:i=p.id
 ·rw [if_pos e,e]
  refine posP_some.2 ⟨by simp,by simp,fun j hj=> ?_⟩
  rw [List.getElem_append_left hj]
  exact posP_none.1 hn _ (List.getElem_mem hj)
 ·rw [if_neg e]
  cases h:posP l i with
  | some k=>exact zdq h
  | none=>
   refine posP_none.2 (fun q hq=> ?_)
   rcases List.mem_append.1 hq with hq | hq
   ·exact posP_none.1 h q hq
   ·have:q=p:=by simpa using hq
    rw [this];exact fun h=>e h.symm
theorem AtM.put {w:Xe} {mb:Nat} {l:List PlV} (h:AtM w mb l) (p:PlV) (hp:okI p.id) (hn:posP l p.id=none) (hl:l.length<=100000000):∃w',(Instr.mapUpdate 95 (.map (some mb)) (zaq p.id) (.int .i64 (l.length:Int))).run Tryz.prog w=.ok () w'∧AtM w' mb (l++[p])∧w.grownBy w' (some mb):=by
 obtain⟨D,n,h1,h2,h3⟩:=h
 have hwf:(Lit.int .i64 (l.length:Int)).wf=true:=WalkArith.wf_i64 (by omega)
 obtain⟨w',hrun,h4,h5⟩:=h1.update lawId Tryz.underlying95 (by unfold maxLen;omega) (keyI hp) (plainElem_int intE hwf)
 refine⟨w',hrun,⟨_,n+1,h4,by simp;omega,fun i hi=> ?_⟩,h5⟩
 have hk:=lawId.key (keyI hp)
 rw [zfP hn]
 by_cases e:i=p.id
 ·rw [if_pos e,e]
  exact⟨has_put_same h1.isMap hk _,fun k hk'=>by cases hk';exact atKey_put_same h1.isMap hk _ _⟩
 ·rw [if_neg e]
  have hne:kId i≠kId p.id:=fun e'=>e (zrK hi hp e')
  rw [has_put_other hne,atKey_put_other hne]
  exact h3 i hi
end Go.Proofs.YtlpnibbdmkeklaaGreatDoor
namespace Go.Proofs.YtlpnibbdmkeklaaGreatDoor
open Go.RowKit
set_option linter.unusedVariables false
set_option maxRecDepth 100000
def fs0 (o p:Xf):Array Xf:= #[o,p,.int .u32 0,.int .i32 0,.int .u32 0,.map none]
def fs1 (o p:Xf) (m:Nat):Array Xf:= #[o,p,.int .u32 1,.int .i32 0,.int .u32 0,.map (some m)]
def znf (B:Nat) (o p:Xf) (w:Xe) (g:Nat):Prop:=∃m,B<=m∧Loc w g (fs1 o p m) 112∧w.heap[m]? = some zaL
def FSet (B:Nat) (o p:Xf) (w:Xe) (g:Nat):Prop:=Loc w g (fs0 o p) 112∨znf B o p w g
theorem zoX (o p:Xf) (g:Nat) (w:Xe) (cs:Array Xf) (hl:Loc w g cs 112) (c3:Xf) (h3:w.cell? ⟨g,5,none⟩=some c3) :
  Calls Tryz.prog 119 #[.pointer (some ⟨g,2,none⟩)] w fun e w'=>e=.returned (.tuple #[])∧w'=(w.setCell ⟨g,5,none⟩ (.map (some w.heap.size))).alloc zaL:=by
 have hmm:= @run_makeMap Tryz.prog
 have h1:=znw w
 have h2:=zmK w
 have hg:=hl.lt
 have f3:=hl.frozen 5
 go_enter Tryz.func119,Tryz.ntmps119
 go_wp2
 go_end0
 exact⟨rfl,rfl⟩
set_option maxHeartbeats 1600000 in
theorem zoK (o p:Xf) (g:Nat) (w:Xe) (hl:Loc w g (fs0 o p) 112) :
  Calls Tryz.prog 138 #[.pointer (some ⟨g,2,none⟩),.func (.func 119) #[.pointer (some ⟨g,2,none⟩)] #[]] w fun e w'=>e=.returned (.tuple #[])∧∃m,w.heap.size<=m∧Loc w' g (fs1 o p m) 112∧w'.heap[m]? = some zaL∧Frm w w' [g]:=by
 have h1:w.cell? ⟨g,3,none⟩=some (.int .i32 0):=hl.cell 3
 have f1:=hl.frozen 3
 have l1:Loc (w.setCell ⟨g,3,none⟩ (.int .i32 1)) g #[o,p,.int .u32 0,.int .i32 1,.int .u32 0,.map none] 112:=hl.set 3 (.int .i32 1)
 have F1:=Frm.set w g 3 (.int .i32 1)
 have hnot:∀(x:Bool) (w:Xe),(Op.unary .not (.bool x)).run Tryz.prog w=.ok (.bool (!x)) w:=fun _ _=>rfl
 go_enter_defers Tryz.func138,Tryz.ntmps138
 go_wp2_with (go_at_call 149;refine (zfL ⟨g,3,none⟩ _ (by go_simp) (by go_simp)).mono ?_;rintro e w' ⟨rfl,rfl⟩)
 generalize w.setCell ⟨g,3,none⟩ (.int .i32 1)=w1 at *
 refine (zcl ⟨g,2,none⟩ 0 w1 (l1.cell 2) false (by simp)).mono ?_
 rintro e w1 ⟨rfl,rfl⟩
 go_wp2_with fail
 refine (zoX o p g w1 _ l1 _ (l1.cell 5)).mono ?_
 rintro e w2 ⟨rfl,hw2⟩
 have l2:Loc w2 g #[o,p,.int .u32 0,.int .i32 1,.int .u32 0,.map (some w1.heap.size)] 112:=by rw [hw2];exact (l1.set 5 (.map (some w1.heap.size))).alloc _
 have m2:w2.heap[w1.heap.size]? = some zaL:=by rw [hw2];have:=heap_alloc_new (w1.setCell ⟨g,5,none⟩ (.map (some w1.heap.size))) zaL;rwa [show (w1.setCell ⟨g,5,none⟩ (.map (some w1.heap.size))).heap.size=w1.heap.size by simp]at this
 have F2:Frm w1 w2 [g]:=by rw [hw2];exact (Frm.set w1 g 5 _).trans (Frm.alloc _ _ _)
 have hne:w1.heap.size≠g:=by have:=l1.lt;omega
 have F12:=F1.trans F2
 have hmm:=F1.size
 clear hw2
 generalize w1.heap.size=m at *
 go_wp2_with fail
 refine leaves_cons (f:=151) (args:= #[.pointer (some ⟨g,2,none⟩),.bool true]) (by simp) (by simp [go_sem]) ?_
 refine (zdk ⟨g,2,none⟩ (.int .u32 0) .returning _ (l2.cell 2) (l2.frozen 2)).mono ?_
 rintro e u' w3 ⟨rfl,rfl,hw3⟩
 have ld:Loc w2.drew g #[o,p,.int .u32 0,.int .i32 1,.int .u32 0,.map (some m)] 112:=l2.frm (Frm.drew w2 []) (by simp)
 have l3:Loc w3 g #[o,p,.int .u32 1,.int .i32 1,.int .u32 0,.map (some m)] 112:=by rw [hw3];exact ld.set 2 (.int .u32 1)
 have F3:Frm w2 w3 [g]:=by rw [hw3];exact (Frm.drew w2 _).trans (Frm.set _ g 2 _)
 clear hw3
 refine leaves_cons (f:=150) (args:= #[.pointer (some ⟨g,3,none⟩)]) (by simp [settle]) (by simp [go_sem]) ?_
 refine (zdf ⟨g,3,none⟩ _ _ (l3.cell 3) (l3.frozen 3)).mono ?_
 rintro e u' w4 ⟨rfl,rfl,hw4⟩
 have l4:Loc w4 g (fs1 o p m) 112:=by rw [hw4];exact l3.set 3 (.int .i32 0)
 have F4:Frm w3 w4 [g]:=by rw [hw4];exact Frm.set _ g 3 _
 have hm:m<w2.heap.size:=by
  by_cases h:m<w2.heap.size
  ·exact h
  ·rw [Array.getElem?_eq_none (by omega)]at m2;cases m2
 have F34:=F3.trans F4
 have m4:w4.heap[m]? = some zaL:=(F34.block m hm (by simpa using hne)).trans m2
 simp [Leaves,settle,results,Tryz.results138]
 exact⟨m,hmm,l4,m4,F12.trans F34⟩
theorem zsn (B:Nat) (o p:Xf) (g:Nat) (w:Xe) (h:FSet B o p w g) (hB:B<=w.heap.size) :
  Calls Tryz.prog 118 #[.pointer (some ⟨g,2,none⟩),.func (.func 119) #[.pointer (some ⟨g,2,none⟩)] #[]] w fun e w'=>e=.returned (.tuple #[])∧znf B o p w' g∧Frm w w' [g]:=by
 have hnot:∀(x:Bool) (w:Xe),(Op.unary .not (.bool x)).run Tryz.prog w=.ok (.bool (!x)) w:=fun _ _=>rfl
 rcases h with hl | ⟨m,hbm,hl,hm⟩
 ·have h0:w.cell? ⟨g,2,none⟩=some (.int .u32 0):=hl.cell 2
  go_enter Tryz.func118,Tryz.ntmps118
  go_wp2_with fail
  refine (zcl ⟨g,2,none⟩ 0 w h0 false (by simp)).mono ?_
  rintro e w ⟨rfl,rfl⟩
  go_wp2_with fail
  refine (zoK o p g w hl).mono ?_
  rintro e w' ⟨rfl,m,hbm,l',m',F'⟩
  go_wp2_with fail
  go_end0
  exact⟨rfl,⟨m,Nat.le_trans hB hbm,l',m'⟩,F'⟩
 ·have h0:w.cell? ⟨g,2,none⟩=some (.int .u32 1):=hl.cell 2
  go_enter Tryz.func118,Tryz.ntmps118
  go_wp2_with fail
  refine (zcl ⟨g,2,none⟩ 1 w h0 true (by simp)).mono ?_
  rintro e w ⟨rfl,rfl⟩
  go_wp2_with fail
  go_end0
  exact⟨rfl,⟨m,hbm,hl,hm⟩,Frm.refl _ _⟩
open Classical in
set_option maxHeartbeats 1600000 in
theorem zlb (B:Nat) (o p:Xf) (g:Nat) (w:Xe) (v:Xf) (l:Xa) (h:FSet B o p w g) (hBB:B<=w.heap.size) (hv:∀w',Frm w w' [g]->Byt w' v l) :
  Calls Tryz.prog 85 #[.pointer (some ⟨g,2,none⟩),v] w fun e w'=>e=.returned (.bool (decide (Void l)))∧znf B o p w' g∧Frm w w' [g]:=by
 have hmf:∀(fn:Fn) (first cap:Array Xf) (w:Xe),(Instr.makeFunc fn first cap).run Tryz.prog w=.ok (.func fn first cap) w:=fun _ _ _ _=>rfl
 have hg:g<w.heap.size:=by
  rcases h with h | ⟨m,_,h,_⟩
  ·exact h.lt
  ·exact h.lt
 obtain⟨a1,k1,rfl,_⟩:=(hv w (Frm.refl _ _)).shape
 have HV:=hide hv
 clear hv
 go_enter Tryz.func85,Tryz.ntmps85
 go_wp2_with fail
 refine (zsn B o p g w h hBB).mono ?_
 rintro e w1 ⟨rfl,⟨m,hbm,l1,m1⟩,F1⟩
 have h3:w1.cell? ⟨g,5,none⟩=some (.map (some m)):=l1.cell 5
 have h3d:w1.drew.cell? ⟨g,5,none⟩=some (.map (some m)):=l1.cell 5
 have h3a:(w1.alloc (.cells #[] 96)).cell? ⟨g,5,none⟩=some (.map (some m)):=(l1.alloc _).cell 5
 have hlt:m<w1.heap.size:=by
  by_cases h:m<w1.heap.size
  ·exact h
  ·rw [Array.getElem?_eq_none (by omega)]at m1;cases m1
 have hb1:Byt w1 _ l:=zaa HV w1 F1
 have c1:=zbf w1.drew _ l (hb1.keep ((Below.refl _ _).drew))
 have c2:=zbf (w1.alloc (.cells #[] 96)).drew _ l (hb1.keep (((Below.refl _ _).alloc (Nat.le_refl _) _).drew))
 have q1:=fun s=>zcY w1.drew m s m1
 have q2:=fun s=>zcY (w1.alloc (.cells #[] 96)).drew m s ((heap_alloc_old w1 _ hlt).trans m1)
 have HS:=hide (zfW l hb1.1)
 generalize str l=s at *
 generalize l.length=n at *
 go_wp2_with fail
 go_region
 all_goals
  go_wp2_with fail
  go_ret
  exact⟨by rw [<-zaa HS];rfl,⟨m,hbm,(l1.alloc _).all ((Below.refl _ _).drew),(heap_alloc_old w1 _ hlt).trans m1⟩,F1.trans ((Frm.alloc w1 _ _).trans (Frm.drew _ _))⟩
def zdt (n:Nat) (left:Int):Int:=if (n:Int)<=left then left-n else -1
theorem zcQ {n:Nat} {left:Int} (h:(n:Int)<=left):zdt n left=left-n:=if_pos h
theorem zbS {n:Nat} {left:Int} (h:¬ (n:Int)<=left):zdt n left = -1:=if_neg h
theorem zjP (w:Xe) (a:Xc) (n cap:Nat) (left:Int) (hn:n<=maxLen) (h0:0<=left) (h1:left<=1000000000) :
  Calls Tryz.prog 31 #[.slice a n cap,.int .i64 left] w fun e w'=>e=.returned (.int .i64 (zdt n left))∧w'=w:=by
 unfold maxLen at hn
 by_cases h:(n:Int)<=left
 ·have HR:=hide (zcQ h)
  have hd:¬ left-(n:Int)<0:=by omega
  go_enter Tryz.func31,Tryz.ntmps31
  go_wp2
  go_ret
  exact⟨by rw [zaa HR];rfl,rfl⟩
 ·have HR:=hide (zbS h)
  have hd:left-(n:Int)<0:=by omega
  go_enter Tryz.func31,Tryz.ntmps31
  go_wp2
  go_ret
  exact⟨by rw [zaa HR];rfl,rfl⟩
theorem zqb (w:Xe) (a:Xc) (n cap:Nat) (left:Int) (hn:n<=maxLen) (h0:0<=left) (h1:left<=1000000000) :
  Calls Tryz.prog 72 #[.slice a n cap,.int .i64 left] w fun e w'=>e=.returned (.int .i64 (zdt n left))∧w'=w:=by
 unfold maxLen at hn
 by_cases h:(n:Int)<=left
 ·have HR:=hide (zcQ h)
  have hd:¬ left-(n:Int)<0:=by omega
  go_enter Tryz.func72,Tryz.ntmps72
  go_wp2
  go_ret
  exact⟨by rw [zaa HR];rfl,rfl⟩
 ·have HR:=hide (zbS h)
  have hd:left-(n:Int)<0:=by omega
  go_enter Tryz.func72,Tryz.ntmps72
  go_wp2
  go_ret
  exact⟨by rw [zaa HR];rfl,rfl⟩
set_option maxRecDepth 8000 in
set_option maxHeartbeats 1600000 in
theorem zqv (w:Xe) (v:Xf) (o:OpV) (left:Int) (h:RdOp w v o) (h0:0<=left) (h1:left<=1000000000) :
  Calls Tryz.prog 34 #[v,.int .i64 left] w fun e w'=>e=.returned (.int .i64 (zdt (o.key.length+o.name.length+o.text.length) left))∧Below w.heap.size w w':=by
 obtain⟨k,n,t,rfl,hk,hn,ht⟩:=h
 have m1:=hk.2.1
 have m2:=hn.2.1
 have m3:=ht.2.1
 obtain⟨ak,ck,rfl,_,_⟩:=hk.shape
 obtain⟨an,cn,rfl,_,_⟩:=hn.shape
 obtain⟨at',ct,rfl,_,_⟩:=ht.shape
 clear hk hn ht
 generalize o.key.length=nK at *
 generalize o.name.length=nN at *
 generalize o.text.length=nT at *
 have HA:=hide ((Below.refl w.heap.size w).alloc (Nat.le_refl _) (.cells #[.int .i64 o.kind,.int .i64 o.atN,.int .i64 o.atR,.int .i64 o.nodeN,.int .i64 o.nodeR,.int .i64 o.parN,.int .i64 o.parR,.slice ak nK ck,.int .i64 o.elem,.slice an nN cn,.slice at' nT ct,.bool o.gone] 77))
 unfold zaY
 go_enter Tryz.func34,Tryz.ntmps34
 go_wp2_with fail
 refine (zqb _ _ _ _ left m1 h0 h1).mono ?_
 rintro e w1 ⟨rfl,rfl⟩
 by_cases h2:(nK:Int)<=left
 ·rw [zcQ h2]
  have hd:¬ left-(nK:Int)<0:=by omega
  go_wp2_with fail
  refine (zjP _ _ _ _ (left-(nK:Int)) m2 (by omega) (by omega)).mono ?_
  rintro e w2 ⟨rfl,rfl⟩
  by_cases h3:(nN:Int)<=left-(nK:Int)
  ·rw [zcQ h3]
   have hd2:¬ left-(nK:Int)-(nN:Int)<0:=by omega
   go_wp2_with fail
   refine (zjP _ _ _ _ (left-(nK:Int)-(nN:Int)) m3 (by omega) (by omega)).mono ?_
   rintro e w2 ⟨rfl,rfl⟩
   by_cases h4:(nT:Int)<=left-(nK:Int)-(nN:Int)
   ·rw [zcQ h4]
    have HR:=hide (show zdt (nK+nN+nT) left=left-(nK:Int)-(nN:Int)-(nT:Int) by rw [zcQ (by omega)];omega)
    have hd3:¬ left-(nK:Int)-(nN:Int)-(nT:Int)<0:=by omega
    go_wp2_with fail
    go_ret
    exact⟨by rw [zaa HR];rfl,zaa HA⟩
   ·rw [zbS h4]
    have HR:=hide (show zdt (nK+nN+nT) left = -1 by rw [zbS (by omega)])
    go_wp2_with fail
    go_ret
    exact⟨by rw [zaa HR];rfl,zaa HA⟩
  ·rw [zbS h3]
   have HR:=hide (show zdt (nK+nN+nT) left = -1 by rw [zbS (by omega)])
   go_wp2_with fail
   go_ret
   exact⟨by rw [zaa HR];rfl,zaa HA⟩
 ·rw [zbS h2]
  have HR:=hide (show zdt (nK+nN+nT) left = -1 by rw [zbS (by omega)])
  go_wp2_with fail
  go_ret
  exact⟨by rw [zaa HR];rfl,zaa HA⟩
def zdU (n r n' r':Int):Bool:=n == n' && r == r'
set_option maxHeartbeats 1600000 in
theorem zkW (w:Xe) (n r n' r':Int) :
  Calls Tryz.prog 67 #[.agg #[.int .i64 n,.int .i64 r],.agg #[.int .i64 n',.int .i64 r']] w fun e w'=>e=.returned (.bool (zdU n r n' r'))∧Below w.heap.size w w':=by
 have HB:=hide (((Below.refl w.heap.size w).alloc (Nat.le_refl _) (.cells #[.int .i64 n,.int .i64 r] 81)).alloc (by simp) (.cells #[.int .i64 n',.int .i64 r'] 81))
 by_cases h1:n=n'
 ·subst h1
  by_cases h2:r=r'
  ·subst h2
   go_enter Tryz.func67,Tryz.ntmps67
   go_wp2
   go_ret
   exact⟨by simp [zdU],zaa HB⟩
  ·have HE:=hide (show zdU n r n r'=false by simp [zdU,h2])
   have q:(r == r')=false:=by simpa using h2
   go_enter Tryz.func67,Tryz.ntmps67
   go_wp2
   go_ret
   exact⟨by rw [zaa HE];rfl,zaa HB⟩
 ·have HE:=hide (show zdU n r n' r'=false by simp [zdU,h1])
  have q:(n == n')=false:=by simpa using h1
  go_enter Tryz.func67,Tryz.ntmps67
  go_wp2
  go_ret
  exact⟨by rw [zaa HE];rfl,zaa HB⟩
set_option maxHeartbeats 1600000 in
theorem zfz (w:Xe) (n r:Int) :
  Calls Tryz.prog 46 #[.agg #[.int .i64 n,.int .i64 r]] w fun e w'=>e=.returned (.agg #[.int .i64 n,.int .i64 r])∧Below w.heap.size w w':=by
 have HB:=hide ((((Below.refl w.heap.size w).alloc (Nat.le_refl _) (.cells #[.int .i64 n,.int .i64 r] 74)).alloc (by simp) (.cells #[.int .i64 n,.int .i64 r] 81)).alloc (by simp;omega) (.cells #[.int .i64 n,.int .i64 r] 81))
 go_enter Tryz.func46,Tryz.ntmps46
 go_wp2
 refine bodyPost_ret (v:=.agg #[.int .i64 n,.int .i64 r]) (by simp [results,Tryz.results46,go_sem]) rfl ⟨rfl,?_⟩
 exact zaa HB
theorem zgc {a b:Xa} {k:Nat} (h:a.take k=b.take k) (ha:k<a.length) (hb:k<b.length) (e:a[k]=b[k]):a.take (k+1)=b.take (k+1):=by
 rw [List.take_succ_eq_append_getElem ha,List.take_succ_eq_append_getElem hb,h,e]
theorem zjb {a b:Xa} {k:Nat} (ha:k<a.length) (hb:k<b.length) (e:a[k]≠b[k]):decide (a=b)=false:=by
 simp only [decide_eq_false_iff_not]
 intro h;subst h;exact e rfl
set_option maxHeartbeats 1600000 in
set_option maxRecDepth 1000000 in
theorem zmt (w:Xe) (u v:Xf) (a b:Xa) (hu:Byt w u a) (hv:Byt w v b) :
  Calls Tryz.prog 8 #[u,v] w fun e w'=>e=.returned (.bool (decide (a=b)))∧Below w.heap.size w w':=by
 have hma:=hu.2.1
 have hmb:=hv.2.1
 unfold maxLen at hma hmb
 by_cases hl:a.length=b.length
 ·by_cases h0:a.length=0
  ·have ha:a=[]:=List.eq_nil_of_length_eq_zero h0
   have hb:b=[]:=List.eq_nil_of_length_eq_zero (by omega)
   subst ha hb
   obtain⟨a1,c1,rfl,_⟩:=hu.shape
   obtain⟨a2,c2,rfl,_⟩:=hv.shape
   go_enter Tryz.func8,Tryz.ntmps8
   go_wp2
   refine wp_loop_rounds 1 ?_
   rw [rounds_succ]
   go_wp2
   go_ret
   exact⟨rfl,Below.refl _ _⟩
  ·obtain⟨hoka,_,⟨rfl,rfl⟩ | ⟨x,cap,rfl,hc,rfl⟩ | ⟨p,off,cap,rfl,h1,h2,h3,h4,h5⟩⟩:=hu
   ·simp at h0
   ·simp at h0
   obtain⟨hokb,_,⟨rfl,rfl⟩ | ⟨x,cap,rfl,hc,rfl⟩ | ⟨q,off',cap',rfl,g1,g2,g3,g4,g5⟩⟩:=hv
   ·simp at hl;simp [hl]at h0
   ·simp at hl;simp [hl]at h0
   generalize hA:a.length=n at *
   have HL:=hide hl
   clear hl
   rw [<-zaa HL]
   go_enter Tryz.func8,Tryz.ntmps8
   go_wp2
   go_loopw [5] (fun i wr=>∃k:Nat,k<=n∧i=.int .i64 k∧Hid (a.take k=b.take k)∧Below w.heap.size w wr) (fun i _=>n-(intOf i).toNat)
   case atStart=>exact⟨0,Nat.zero_le _,rfl,hide rfl,Below.refl _ _⟩
   case round=>
    obtain⟨k,hk,rfl,ht,hB⟩:=hrel
    by_cases hlt:k<n
    ·obtain⟨x,hx⟩:∃x,x=a.getD k 0:=⟨_,rfl⟩
     obtain⟨y,hy⟩:∃y,y=b.getD k 0:=⟨_,rfl⟩
     have c1:wr.cell? ⟨p,off+k,none⟩=some (.int .u8 x):=by rw [hx];exact (hB.cell (p:=⟨p,off+k,none⟩) h4).trans (h5 k hlt)
     have c2:wr.cell? ⟨q,off' + k,none⟩=some (.int .u8 y):=by rw [hy];exact (hB.cell (p:=⟨q,off' + k,none⟩) g4).trans (g5 k (by have:=zaa HL;omega))
     have hka:k<a.length:=by omega
     have hkb:k<b.length:=by have:=zaa HL;omega
     rw [zcq hka]at hx
     rw [zcq hkb]at hy
     have HX:=hide hx
     have HY:=hide hy
     have hlt':(k:Int)<(n:Int):=by omega
     clear hx hy h5 g5
     by_cases hxy:x=y
     ·have hne:(x != y)=false:=by simp [hxy]
      clear hxy
      go_wp2
      go_quiet (fail)
      go_wp2
      go_roundw
      case rel=>exact⟨k+1,by omega,by go_num,hide (zgc (zaa ht) hka hkb (by rw [<-zaa HX,<-zaa HY];simpa using hne)),below_drewN hB _⟩
      case measure=>simp [intOf];omega
     ·have hne:(x != y)=true:=by simp [hxy]
      have hd:decide (a=b)=false:=zjb hka hkb (by rw [<-zaa HX,<-zaa HY];exact hxy)
      have HD:=hide hd
      clear hxy hd
      go_wp2
      go_quiet (fail)
      go_wp2
      go_ret
      exact⟨by rw [zaa HD];rfl,below_drewN hB _⟩
    ·have e:k=n:=by omega
     have hd:decide (a=b)=true:=by
      have h:=zaa ht
      rw [List.take_of_length_le (by omega),List.take_of_length_le (by have:=zaa HL;omega)]at h
      simpa using h
     have HD:=hide hd
     clear hd ht
     subst e
     go_wp2
     go_ret
     exact⟨by rw [zaa HD];rfl,hB⟩
 ·have hd:decide (a=b)=false:=by
   simp only [decide_eq_false_iff_not]
   intro h;subst h;exact hl rfl
  have hne:((a.length:Int) != (b.length:Int))=true:=by simp;omega
  have HD:=hide hd
  clear hd
  obtain⟨a1,c1,rfl,_⟩:=hu.shape
  obtain⟨a2,c2,rfl,_⟩:=hv.shape
  go_enter Tryz.func8,Tryz.ntmps8
  go_wp2
  go_ret
  exact⟨by rw [zaa HD];rfl,Below.refl _ _⟩
set_option maxHeartbeats 1600000 in
set_option maxRecDepth 1000000 in
theorem zrJ (w:Xe) (u v:Xf) (a b:Xa) (hu:Ints w u a) (hv:Ints w v b) :
  Calls Tryz.prog 101 #[u,v] w fun e w'=>e=.returned (.bool (decide (a=b)))∧Below w.heap.size w w':=by
 have hma:=hu.2.1
 have hmb:=hv.2.1
 unfold maxLen at hma hmb
 by_cases hl:a.length=b.length
 ·by_cases h0:a.length=0
  ·have ha:a=[]:=List.eq_nil_of_length_eq_zero h0
   have hb:b=[]:=List.eq_nil_of_length_eq_zero (by omega)
   subst ha hb
   obtain⟨a1,c1,rfl,_⟩:=hu.shape
   obtain⟨a2,c2,rfl,_⟩:=hv.shape
   go_enter Tryz.func101,Tryz.ntmps101
   go_wp2
   refine wp_loop_rounds 1 ?_
   rw [rounds_succ]
   go_wp2
   go_ret
   exact⟨rfl,Below.refl _ _⟩
  ·obtain⟨hoka,_,⟨rfl,rfl⟩ | ⟨x,cap,rfl,hc,rfl⟩ | ⟨p,off,cap,rfl,h1,h2,h3,h4,h5⟩⟩:=hu
   ·simp at h0
   ·simp at h0
   obtain⟨hokb,_,⟨rfl,rfl⟩ | ⟨x,cap,rfl,hc,rfl⟩ | ⟨q,off',cap',rfl,g1,g2,g3,g4,g5⟩⟩:=hv
   ·simp at hl;simp [hl]at h0
   ·simp at hl;simp [hl]at h0
   generalize hA:a.length=n at *
   have HL:=hide hl
   clear hl
   rw [<-zaa HL]
   go_enter Tryz.func101,Tryz.ntmps101
   go_wp2
   go_loopw [5] (fun i wr=>∃k:Nat,k<=n∧i=.int .i64 k∧Hid (a.take k=b.take k)∧Below w.heap.size w wr) (fun i _=>n-(intOf i).toNat)
   case atStart=>exact⟨0,Nat.zero_le _,rfl,hide rfl,Below.refl _ _⟩
   case round=>
    obtain⟨k,hk,rfl,ht,hB⟩:=hrel
    by_cases hlt:k<n
    ·obtain⟨x,hx⟩:∃x,x=a.getD k 0:=⟨_,rfl⟩
     obtain⟨y,hy⟩:∃y,y=b.getD k 0:=⟨_,rfl⟩
     have c1:wr.cell? ⟨p,off+k,none⟩=some (.int .i64 x):=by rw [hx];exact (hB.cell (p:=⟨p,off+k,none⟩) h4).trans (h5 k hlt)
     have c2:wr.cell? ⟨q,off' + k,none⟩=some (.int .i64 y):=by rw [hy];exact (hB.cell (p:=⟨q,off' + k,none⟩) g4).trans (g5 k (by have:=zaa HL;omega))
     have hka:k<a.length:=by omega
     have hkb:k<b.length:=by have:=zaa HL;omega
     rw [zcq hka]at hx
     rw [zcq hkb]at hy
     have HX:=hide hx
     have HY:=hide hy
     have hlt':(k:Int)<(n:Int):=by omega
     clear hx hy h5 g5
     by_cases hxy:x=y
     ·have hne:(x != y)=false:=by simp [hxy]
      clear hxy
      go_wp2
      go_quiet (fail)
      go_wp2
      go_roundw
      case rel=>exact⟨k+1,by omega,by go_num,hide (zgc (zaa ht) hka hkb (by rw [<-zaa HX,<-zaa HY];simpa using hne)),below_drewN hB _⟩
      case measure=>simp [intOf];omega
     ·have hne:(x != y)=true:=by simp [hxy]
      have hd:decide (a=b)=false:=zjb hka hkb (by rw [<-zaa HX,<-zaa HY];exact hxy)
      have HD:=hide hd
      clear hxy hd
      go_wp2
      go_quiet (fail)
      go_wp2
      go_ret
      exact⟨by rw [zaa HD];rfl,below_drewN hB _⟩
    ·have e:k=n:=by omega
     have hd:decide (a=b)=true:=by
      have h:=zaa ht
      rw [List.take_of_length_le (by omega),List.take_of_length_le (by have:=zaa HL;omega)]at h
      simpa using h
     have HD:=hide hd
     clear hd ht
     subst e
     go_wp2
     go_ret
     exact⟨by rw [zaa HD];rfl,hB⟩
 ·have hd:decide (a=b)=false:=by
   simp only [decide_eq_false_iff_not]
   intro h;subst h;exact hl rfl
  have hne:((a.length:Int) != (b.length:Int))=true:=by simp;omega
  have HD:=hide hd
  clear hd
  obtain⟨a1,c1,rfl,_⟩:=hu.shape
  obtain⟨a2,c2,rfl,_⟩:=hv.shape
  go_enter Tryz.func101,Tryz.ntmps101
  go_wp2
  go_ret
  exact⟨by rw [zaa HD];rfl,Below.refl _ _⟩
theorem ziX (w:Xe) (u v:Xf) (a:Xa) (hu:Byt w u a) (hv:Byt w v a):Calls Tryz.prog 8 #[u,v] w fun e w'=>e=.returned (.bool true)∧Below w.heap.size w w':=by
 refine (zmt w u v a a hu hv).mono ?_
 rintro e w' ⟨rfl,h⟩
 exact⟨by simp,h⟩
theorem zfD (w:Xe) (n r:Int):Calls Tryz.prog 67 #[.agg #[.int .i64 n,.int .i64 r],.agg #[.int .i64 n,.int .i64 r]] w fun e w'=>e=.returned (.bool true)∧Below w.heap.size w w':=by
 refine (zkW w n r n r).mono ?_
 rintro e w' ⟨rfl,h⟩
 exact⟨by simp [zdU],h⟩
theorem zph (w:Xe) (u v:Xf) (a:Xa) (hu:Ints w u a) (hv:Ints w v a):Calls Tryz.prog 101 #[u,v] w fun e w'=>e=.returned (.bool true)∧Below w.heap.size w w':=by
 refine (zrJ w u v a a hu hv).mono ?_
 rintro e w' ⟨rfl,h⟩
 exact⟨by simp,h⟩
set_option maxHeartbeats 3200000 in
theorem zpz (w:Xe) (u v:Xf) (o:OpV) (hu:RdOp w u o) (hv:RdOp w v o) :
  Calls Tryz.prog 66 #[u,v] w fun e w'=>e=.returned (.bool true)∧Below w.heap.size w w':=by
 obtain⟨k1,n1,t1,rfl,hk1,hn1,ht1⟩:=hu
 obtain⟨k2,n2,t2,rfl,hk2,hn2,ht2⟩:=hv
 obtain⟨ak1,ck1,rfl,_,_⟩:=hk1.shape
 obtain⟨an1,cn1,rfl,_,_⟩:=hn1.shape
 obtain⟨at1,ct1,rfl,_,_⟩:=ht1.shape
 obtain⟨ak2,ck2,rfl,_,_⟩:=hk2.shape
 obtain⟨an2,cn2,rfl,_,_⟩:=hn2.shape
 obtain⟨at2,ct2,rfl,_,_⟩:=ht2.shape
 have H:=hide (And.intro hk1 (And.intro hn1 (And.intro ht1 (And.intro hk2 (And.intro hn2 ht2)))))
 clear hk1 hn1 ht1 hk2 hn2 ht2
 unfold zaY
 have hA:Below w.heap.size w ((w.alloc (.cells #[.int .i64 o.kind,.int .i64 o.atN,.int .i64 o.atR,.int .i64 o.nodeN,.int .i64 o.nodeR,.int .i64 o.parN,.int .i64 o.parR,.slice ak1 o.key.length ck1,.int .i64 o.elem,.slice an1 o.name.length cn1,.slice at1 o.text.length ct1,.bool o.gone] 83)).alloc (.cells #[.int .i64 o.kind,.int .i64 o.atN,.int .i64 o.atR,.int .i64 o.nodeN,.int .i64 o.nodeR,.int .i64 o.parN,.int .i64 o.parR,.slice ak2 o.key.length ck2,.int .i64 o.elem,.slice an2 o.name.length cn2,.slice at2 o.text.length ct2,.bool o.gone] 83)):=((Below.refl _ _).alloc (Nat.le_refl _) _).alloc (by simp) _
 go_enter Tryz.func66,Tryz.ntmps66
 go_wp2_with fail
 generalize hW:((w.alloc (.cells #[.int .i64 o.kind,.int .i64 o.atN,.int .i64 o.atR,.int .i64 o.nodeN,.int .i64 o.nodeR,.int .i64 o.parN,.int .i64 o.parR,.slice ak1 o.key.length ck1,.int .i64 o.elem,.slice an1 o.name.length cn1,.slice at1 o.text.length ct1,.bool o.gone] 83)).alloc (.cells #[.int .i64 o.kind,.int .i64 o.atN,.int .i64 o.atR,.int .i64 o.nodeN,.int .i64 o.nodeR,.int .i64 o.parN,.int .i64 o.parR,.slice ak2 o.key.length ck2,.int .i64 o.elem,.slice an2 o.name.length cn2,.slice at2 o.text.length ct2,.bool o.gone] 83))=W at *
 have HW:=hide hW
 clear hW
 refine (zfD _ o.atN o.atR).mono ?_
 rintro e w1 ⟨rfl,hB1⟩
 have c11_3:=cell_later hB1 (show W.cell? ⟨w.heap.size,3,none⟩=some (.int .i64 o.nodeN) by rw [<-zaa HW];simp)
 have c11_4:=cell_later hB1 (show W.cell? ⟨w.heap.size,4,none⟩=some (.int .i64 o.nodeR) by rw [<-zaa HW];simp)
 have c11_5:=cell_later hB1 (show W.cell? ⟨w.heap.size,5,none⟩=some (.int .i64 o.parN) by rw [<-zaa HW];simp)
 have c11_6:=cell_later hB1 (show W.cell? ⟨w.heap.size,6,none⟩=some (.int .i64 o.parR) by rw [<-zaa HW];simp)
 have c11_7:=cell_later hB1 (show W.cell? ⟨w.heap.size,7,none⟩=some (.slice ak1 o.key.length ck1) by rw [<-zaa HW];simp)
 have c11_8:=cell_later hB1 (show W.cell? ⟨w.heap.size,8,none⟩=some (.int .i64 o.elem) by rw [<-zaa HW];simp)
 have c11_9:=cell_later hB1 (show W.cell? ⟨w.heap.size,9,none⟩=some (.slice an1 o.name.length cn1) by rw [<-zaa HW];simp)
 have c11_10:=cell_later hB1 (show W.cell? ⟨w.heap.size,10,none⟩=some (.slice at1 o.text.length ct1) by rw [<-zaa HW];simp)
 have c11_11:=cell_later hB1 (show W.cell? ⟨w.heap.size,11,none⟩=some (.bool o.gone) by rw [<-zaa HW];simp)
 have c12_3:=cell_later hB1 (show W.cell? ⟨w.heap.size+1,3,none⟩=some (.int .i64 o.nodeN) by rw [<-zaa HW];simp)
 have c12_4:=cell_later hB1 (show W.cell? ⟨w.heap.size+1,4,none⟩=some (.int .i64 o.nodeR) by rw [<-zaa HW];simp)
 have c12_5:=cell_later hB1 (show W.cell? ⟨w.heap.size+1,5,none⟩=some (.int .i64 o.parN) by rw [<-zaa HW];simp)
 have c12_6:=cell_later hB1 (show W.cell? ⟨w.heap.size+1,6,none⟩=some (.int .i64 o.parR) by rw [<-zaa HW];simp)
 have c12_7:=cell_later hB1 (show W.cell? ⟨w.heap.size+1,7,none⟩=some (.slice ak2 o.key.length ck2) by rw [<-zaa HW];simp)
 have c12_8:=cell_later hB1 (show W.cell? ⟨w.heap.size+1,8,none⟩=some (.int .i64 o.elem) by rw [<-zaa HW];simp)
 have c12_9:=cell_later hB1 (show W.cell? ⟨w.heap.size+1,9,none⟩=some (.slice an2 o.name.length cn2) by rw [<-zaa HW];simp)
 have c12_10:=cell_later hB1 (show W.cell? ⟨w.heap.size+1,10,none⟩=some (.slice at2 o.text.length ct2) by rw [<-zaa HW];simp)
 have c12_11:=cell_later hB1 (show W.cell? ⟨w.heap.size+1,11,none⟩=some (.bool o.gone) by rw [<-zaa HW];simp)
 replace hA:=zad hA hB1
 clear hB1 HW
 go_wp2_with fail
 refine (zfD _ o.nodeN o.nodeR).mono ?_
 rintro e w2 ⟨rfl,hB2⟩
 have c21_5:=cell_later hB2 c11_5
 have c21_6:=cell_later hB2 c11_6
 have c21_7:=cell_later hB2 c11_7
 have c21_8:=cell_later hB2 c11_8
 have c21_9:=cell_later hB2 c11_9
 have c21_10:=cell_later hB2 c11_10
 have c21_11:=cell_later hB2 c11_11
 have c22_5:=cell_later hB2 c12_5
 have c22_6:=cell_later hB2 c12_6
 have c22_7:=cell_later hB2 c12_7
 have c22_8:=cell_later hB2 c12_8
 have c22_9:=cell_later hB2 c12_9
 have c22_10:=cell_later hB2 c12_10
 have c22_11:=cell_later hB2 c12_11
 replace hA:=zad hA hB2
 clear c11_3 c11_4 c11_5 c11_6 c11_7 c11_8 c11_9 c11_10 c11_11 c12_3 c12_4 c12_5 c12_6 c12_7 c12_8 c12_9 c12_10 c12_11
 clear hB2
 go_wp2_with fail
 refine (zfD _ o.parN o.parR).mono ?_
 rintro e w3 ⟨rfl,hB3⟩
 have c31_7:=cell_later hB3 c21_7
 have c31_8:=cell_later hB3 c21_8
 have c31_9:=cell_later hB3 c21_9
 have c31_10:=cell_later hB3 c21_10
 have c31_11:=cell_later hB3 c21_11
 have c32_7:=cell_later hB3 c22_7
 have c32_8:=cell_later hB3 c22_8
 have c32_9:=cell_later hB3 c22_9
 have c32_10:=cell_later hB3 c22_10
 have c32_11:=cell_later hB3 c22_11
 replace hA:=zad hA hB3
 clear c21_5 c21_6 c21_7 c21_8 c21_9 c21_10 c21_11 c22_5 c22_6 c22_7 c22_8 c22_9 c22_10 c22_11
 clear hB3
 go_wp2_with fail
 refine (zph _ _ _ o.key ((zaa H).1.keep hA) ((zaa H).2.2.2.1.keep hA)).mono ?_
 rintro e w4 ⟨rfl,hB4⟩
 have c41_8:=cell_later hB4 c31_8
 have c41_9:=cell_later hB4 c31_9
 have c41_10:=cell_later hB4 c31_10
 have c41_11:=cell_later hB4 c31_11
 have c42_8:=cell_later hB4 c32_8
 have c42_9:=cell_later hB4 c32_9
 have c42_10:=cell_later hB4 c32_10
 have c42_11:=cell_later hB4 c32_11
 replace hA:=zad hA hB4
 clear c31_7 c31_8 c31_9 c31_10 c31_11 c32_7 c32_8 c32_9 c32_10 c32_11
 clear hB4
 go_wp2_with fail
 refine (ziX _ _ _ o.name ((zaa H).2.1.keep hA) ((zaa H).2.2.2.2.1.keep hA)).mono ?_
 rintro e w5 ⟨rfl,hB5⟩
 have c51_10:=cell_later hB5 c41_10
 have c51_11:=cell_later hB5 c41_11
 have c52_10:=cell_later hB5 c42_10
 have c52_11:=cell_later hB5 c42_11
 replace hA:=zad hA hB5
 clear c41_8 c41_9 c41_10 c41_11 c42_8 c42_9 c42_10 c42_11
 clear hB5
 go_wp2_with fail
 refine (ziX _ _ _ o.text ((zaa H).2.2.1.keep hA) ((zaa H).2.2.2.2.2.keep hA)).mono ?_
 rintro e w6 ⟨rfl,hB6⟩
 have c61_11:=cell_later hB6 c51_11
 have c62_11:=cell_later hB6 c52_11
 replace hA:=zad hA hB6
 clear c51_10 c51_11 c52_10 c52_11
 clear hB6
 go_wp2_with fail
 go_ret
 exact⟨rfl,hA⟩
theorem Tryz.info3:(Tryz.prog.info? 3).map (fun i=>(i.zero,i.size,i.bytes))=some (some (.int .i64 0),1,8):=by kernel_rfl
def zbX (l:Xa) (k:Nat):Xa:=l.take k++List.replicate (l.length-k) 0
theorem zje (l:Xa) (k:Nat) (h:k<=l.length):(zbX l k).length=l.length:=by simp [zbX];omega
theorem zfo (l:Xa):valz (zbX l 0)=(madeCells #[Value.int .i64 0] l.length).toList:=by
 rw [toList_madeCells_one]
 simp [zbX,valz]
theorem zoi (l:Xa):zbX l l.length=l:=by simp [zbX]
theorem zjV (l:Xa) (k i:Nat) (hk:k<=l.length):(zbX l k)[i]? = if i<k then l[i]? else if i<l.length then some 0 else none:=by
 have hm:min k l.length=k:=by omega
 unfold zbX
 rw [List.getElem?_append,List.length_take,hm]
 by_cases h:i<k
 ·simp [h]
 ·rw [if_neg h,if_neg h,List.getElem?_replicate]
  by_cases h2:i<l.length
  ·rw [if_pos h2,if_pos (by omega)]
  ·rw [if_neg h2,if_neg (by omega)]
theorem znD (l:Xa) (k:Nat) (h:k<l.length):(valz (zbX l k)).set k (.int .i64 (l.getD k 0))=valz (zbX l (k+1)):=by
 apply List.ext_getElem?
 intro i
 unfold valz
 rw [List.getElem?_set,List.getElem?_map,List.getElem?_map,zjV l k i (by omega),zjV l (k+1) i (by omega),List.length_map,zje l k (by omega)]
 by_cases hk:k=i
 ·subst hk;rw [if_pos rfl,if_pos h,if_pos (by omega)];simp [h]
 ·rw [if_neg hk]
  by_cases h2:i<k
  ·rw [if_pos h2,if_pos (by omega)]
  ·rw [if_neg h2,if_neg (show ¬ i<k+1 by omega)]
set_option maxHeartbeats 1600000 in
set_option maxRecDepth 1000000 in
theorem zsa (w:Xe) (v:Xf) (l:Xa) (h:Ints w v l) (hs:l.length<=2097152) :
  Calls Tryz.prog 82 #[v] w fun e w'=>∃v',e=.returned v'∧OwnZ w' w.heap.size v' l∧v'≠.slice none 0 0∧Below w.heap.size w w':=by
 obtain⟨i0,hi,hz0,hz1,hz2⟩:=info_parts Tryz.info3
 obtain⟨hok,hm,⟨rfl,rfl⟩ | ⟨x,cap,rfl,hc,rfl⟩ | ⟨b,off,cap,rfl,h1,h2,h3,h4,h5⟩⟩:=h
 ·go_enter Tryz.func82,Tryz.ntmps82
  go_wp2_with (at_make;refine wpList_make_full _ rfl _ _ 75 rfl w.heap.size 3 i0 (.int .i64 0) 1 Tryz.underlying75 hi hz0 hz1 .i64 .i64 _ _ 0 rfl rfl rfl rfl ?c1 ?c2 ?c3 ?_)
  case c1=>omega
  case c2=>exact hm
  case c3=>exact Nat.le_refl _
  intro w1 hown hgrow
  have hB1:=Below.ofGrown hgrow
  have hown1:w1.ownsRow w.heap.size 3 1 (.slice (some ⟨w.heap.size,0,none⟩) 0 0) 0 (valz []):=by have e:=zfo [];rw [show zbX [] 0=[] from rfl]at e;rw [e];exact hown
  clear hown hgrow
  go_wp2
  refine wp_loop_rounds 1 ?_
  rw [rounds_succ]
  go_wp2
  go_ret
  exact⟨_,rfl,⟨zef,hown1⟩,by simp,hB1⟩
 ·go_enter Tryz.func82,Tryz.ntmps82
  go_wp2_with (at_make;refine wpList_make_full _ rfl _ _ 75 rfl w.heap.size 3 i0 (.int .i64 0) 1 Tryz.underlying75 hi hz0 hz1 .i64 .i64 _ _ 0 rfl rfl rfl rfl ?c1 ?c2 ?c3 ?_)
  case c1=>omega
  case c2=>exact hm
  case c3=>exact Nat.le_refl _
  intro w1 hown hgrow
  have hB1:=Below.ofGrown hgrow
  have hown1:w1.ownsRow w.heap.size 3 1 (.slice (some ⟨w.heap.size,0,none⟩) 0 0) 0 (valz []):=by have e:=zfo [];rw [show zbX [] 0=[] from rfl]at e;rw [e];exact hown
  clear hown hgrow
  go_wp2
  refine wp_loop_rounds 1 ?_
  rw [rounds_succ]
  go_wp2
  go_ret
  exact⟨_,rfl,⟨zef,hown1⟩,by simp,hB1⟩
 ·go_enter Tryz.func82,Tryz.ntmps82
  go_wp2_with (at_make;refine wpList_make_full _ rfl _ _ 75 rfl w.heap.size 3 i0 (.int .i64 0) 1 Tryz.underlying75 hi hz0 hz1 .i64 .i64 _ _ l.length rfl rfl rfl rfl ?c1 ?c2 ?c3 ?_)
  case c1=>rw [hz2];omega
  case c2=>exact hm
  case c3=>exact Nat.le_refl _
  intro w1 hown hgrow
  have hB1:=Below.ofGrown hgrow
  have hown1:w1.ownsRow w.heap.size 3 1 (.slice (some ⟨w.heap.size,0,none⟩) l.length l.length) l.length (valz (zbX l 0)):=by rw [zfo];exact hown
  clear hown hgrow
  go_wp2
  go_loopw [4] (fun i wr=>∃k:Nat,k<=l.length∧i=.int .i64 k∧wr.ownsRow w.heap.size 3 1 (.slice (some ⟨w.heap.size,0,none⟩) l.length l.length) l.length (valz (zbX l k))∧Below w.heap.size w wr) (fun i _=>l.length-(intOf i).toNat)
  case atStart=>exact⟨0,Nat.zero_le _,rfl,hown1,hB1⟩
  case round=>
   obtain⟨k,hk,rfl,hw,hB⟩:=hrel
   clear hown1 hB1
   have hcx:k<l.length->wr.cell? ⟨b,off+k,none⟩=some (.int .i64 (l.getD k 0)):=fun hlt=>(hB.cell (p:=⟨b,off+k,none⟩) h4).trans (h5 k hlt)
   have hcy:k<l.length->wr.cell? ⟨w.heap.size,k,none⟩=some (.int .i64 ((zbX l k).getD k 0)):=fun hlt=>by
    rw [hw.cellAt k (by omega),zeO (by rw [zje l k hk];exact hlt)]
   have hfr:=hw.frozenAt k
   have hst:=hw.stored k (.int .i64 (l.getD k 0))
   have R:k<l.length->(wr.setCell ⟨w.heap.size,k,none⟩ (.int .i64 (l.getD k 0))).ownsRow w.heap.size 3 1 (.slice (some ⟨w.heap.size,0,none⟩) l.length l.length) l.length (valz (zbX l (k+1)))∧Below w.heap.size w (wr.setCell ⟨w.heap.size,k,none⟩ (.int .i64 (l.getD k 0))):=fun hlt=>by
    rw [<-znD l k hlt]
    exact⟨hst.1,hB.setCell (p:=⟨w.heap.size,k,none⟩) (Nat.le_refl _) _⟩
   have HR:=hide R
   clear R hst
   go_wp2
   ·have hlt:k<l.length:=by assumption
    have R:=zaa HR hlt
    rw [zcq hlt]at R
    go_roundw
    case rel=>exact⟨k+1,by omega,by go_num,R.1,R.2⟩
    case measure=>simp [intOf];omega
   ·have e:k=l.length:=by omega
    subst e
    go_ret
    rw [zoi]at hw
    exact⟨_,rfl,⟨hok,hw⟩,by simp,hB⟩
theorem OwnZ.frm {w w':Xe} {base:Nat} {v:Xf} {l:Xa} {S:Xb} (h:OwnZ w base v l) (f:Frm w w' S) (hd:∀g∈FB v,g∉S):OwnZ w' base v l:=⟨h.1,zap h.2 f hd⟩
theorem OwnZ.rng {w:Xe} {base:Nat} {v:Xf} {l:Xa} (h:OwnZ w base v l):Rng (FB v) base w.heap.size:=fun g hg=>h.lt g (by simpa [FB]using hg)
theorem Loc.be {w:Xe} {g:Nat} {cs ds:Array Xf} {T:Xg} (h:Loc w g cs T) (e:cs=ds):Loc w g ds T:=e ▸ h
set_option maxHeartbeats 6400000 in
theorem zqI (w:Xe) (v:Xf) (o:OpV) (h:RdOp w v o) (hs:o.key.length+o.name.length+o.text.length<=2097152) :
  Calls Tryz.prog 45 #[v] w fun e w'=>∃k n t,e=.returned (zaY o k n t)∧OwnZ w' w.heap.size k o.key∧Own w' w.heap.size n o.name∧Own w' w.heap.size t o.text∧(FB k++FB n++FB t).Nodup∧Below w.heap.size w w':=by
 obtain⟨k,n,t,rfl,hk,hn,ht⟩:=h
 obtain⟨pk,ck,rfl,_,_⟩:=hk.shape
 obtain⟨pn,cn,rfl,_,_⟩:=hn.shape
 obtain⟨pt,ct,rfl,_,_⟩:=ht.shape
 have H:=hide (And.intro hk (And.intro hn ht))
 clear hk hn ht
 have HS:=hide hs
 clear hs
 unfold zaY
 have l0:=(((Loc.made w #[.int .i64 o.kind,.int .i64 o.atN,.int .i64 o.atR,.int .i64 o.nodeN,.int .i64 o.nodeR,.int .i64 o.parN,.int .i64 o.parR,.slice pk o.key.length ck,.int .i64 o.elem,.slice pn o.name.length cn,.slice pt o.text.length ct,.bool o.gone] 77).alloc (.cells #[.int .i64 0,.int .i64 0,.int .i64 0,.int .i64 0,.int .i64 0,.int .i64 0,.int .i64 0,.slice none 0 0,.int .i64 0,.slice none 0 0,.slice none 0 0,.bool false] 83)).alloc (.cells #[.int .i64 o.kind,.int .i64 0,.int .i64 0,.int .i64 0,.int .i64 0,.int .i64 0,.int .i64 0,.slice none 0 0,.int .i64 0,.slice none 0 0,.slice none 0 0,.bool false] 83))
 have l1:=(Loc.made (w.alloc (.cells #[.int .i64 o.kind,.int .i64 o.atN,.int .i64 o.atR,.int .i64 o.nodeN,.int .i64 o.nodeR,.int .i64 o.parN,.int .i64 o.parR,.slice pk o.key.length ck,.int .i64 o.elem,.slice pn o.name.length cn,.slice pt o.text.length ct,.bool o.gone] 77)) #[.int .i64 0,.int .i64 0,.int .i64 0,.int .i64 0,.int .i64 0,.int .i64 0,.int .i64 0,.slice none 0 0,.int .i64 0,.slice none 0 0,.slice none 0 0,.bool false] 83).alloc (.cells #[.int .i64 o.kind,.int .i64 0,.int .i64 0,.int .i64 0,.int .i64 0,.int .i64 0,.int .i64 0,.slice none 0 0,.int .i64 0,.slice none 0 0,.slice none 0 0,.bool false] 83)
 have l2:=Loc.made ((w.alloc (.cells #[.int .i64 o.kind,.int .i64 o.atN,.int .i64 o.atR,.int .i64 o.nodeN,.int .i64 o.nodeR,.int .i64 o.parN,.int .i64 o.parR,.slice pk o.key.length ck,.int .i64 o.elem,.slice pn o.name.length cn,.slice pt o.text.length ct,.bool o.gone] 77)).alloc (.cells #[.int .i64 0,.int .i64 0,.int .i64 0,.int .i64 0,.int .i64 0,.int .i64 0,.int .i64 0,.slice none 0 0,.int .i64 0,.slice none 0 0,.slice none 0 0,.bool false] 83)) #[.int .i64 o.kind,.int .i64 0,.int .i64 0,.int .i64 0,.int .i64 0,.int .i64 0,.int .i64 0,.slice none 0 0,.int .i64 0,.slice none 0 0,.slice none 0 0,.bool false] 83
 have hA:Below w.heap.size w (((w.alloc (.cells #[.int .i64 o.kind,.int .i64 o.atN,.int .i64 o.atR,.int .i64 o.nodeN,.int .i64 o.nodeR,.int .i64 o.parN,.int .i64 o.parR,.slice pk o.key.length ck,.int .i64 o.elem,.slice pn o.name.length cn,.slice pt o.text.length ct,.bool o.gone] 77)).alloc (.cells #[.int .i64 0,.int .i64 0,.int .i64 0,.int .i64 0,.int .i64 0,.int .i64 0,.int .i64 0,.slice none 0 0,.int .i64 0,.slice none 0 0,.slice none 0 0,.bool false] 83)).alloc (.cells #[.int .i64 o.kind,.int .i64 0,.int .i64 0,.int .i64 0,.int .i64 0,.int .i64 0,.int .i64 0,.slice none 0 0,.int .i64 0,.slice none 0 0,.slice none 0 0,.bool false] 83)):=(((Below.refl _ _).alloc (Nat.le_refl _) _).alloc (by simp) _).alloc (by simp;omega) _
 simp only [World.size_alloc]at l1 l2
 have L:=hide (And.intro l0 (And.intro l1 (And.intro l2 hA)))
 clear l0 l1 l2 hA
 go_enter Tryz.func45,Tryz.ntmps45
 go_wp2_with fail
 obtain⟨l0,l1,l2,hA⟩:=zaa L
 clear L
 generalize (((w.alloc (.cells #[.int .i64 o.kind,.int .i64 o.atN,.int .i64 o.atR,.int .i64 o.nodeN,.int .i64 o.nodeR,.int .i64 o.parN,.int .i64 o.parR,.slice pk o.key.length ck,.int .i64 o.elem,.slice pn o.name.length cn,.slice pt o.text.length ct,.bool o.gone] 77)).alloc (.cells #[.int .i64 0,.int .i64 0,.int .i64 0,.int .i64 0,.int .i64 0,.int .i64 0,.int .i64 0,.slice none 0 0,.int .i64 0,.slice none 0 0,.slice none 0 0,.bool false] 83)).alloc (.cells #[.int .i64 o.kind,.int .i64 0,.int .i64 0,.int .i64 0,.int .i64 0,.int .i64 0,.int .i64 0,.slice none 0 0,.int .i64 0,.slice none 0 0,.slice none 0 0,.bool false] 83))=W at *
 refine (zfz _ o.atN o.atR).mono ?_
 rintro e w1 ⟨rfl,hB⟩
 replace l0:=l0.all hB
 replace l1:=l1.all hB
 replace l2:=l2.all hB
 replace hA:=zad hA hB
 clear hB
 have e0_3:=l0.cell 3
 have e0_4:=l0.cell 4
 have e2_1:=l2.cell 1
 have f2_1:=l2.frozen 1
 have e2_2:=l2.cell 2
 have f2_2:=l2.frozen 2
 simp at e0_3 e0_4 e2_1 e2_2
 have m0:Loc ((w1.setCell ⟨w.heap.size+1+1,1,none⟩ (.int .i64 o.atN)).setCell ⟨w.heap.size+1+1,2,none⟩ (.int .i64 o.atR)) w.heap.size #[.int .i64 o.kind,.int .i64 o.atN,.int .i64 o.atR,.int .i64 o.nodeN,.int .i64 o.nodeR,.int .i64 o.parN,.int .i64 o.parR,.slice pk o.key.length ck,.int .i64 o.elem,.slice pn o.name.length cn,.slice pt o.text.length ct,.bool o.gone] 77:=((l0.other _ _ _ (by omega)).other _ _ _ (by omega))
 have m1:Loc ((w1.setCell ⟨w.heap.size+1+1,1,none⟩ (.int .i64 o.atN)).setCell ⟨w.heap.size+1+1,2,none⟩ (.int .i64 o.atR)) (w.heap.size+1) #[.int .i64 0,.int .i64 0,.int .i64 0,.int .i64 0,.int .i64 0,.int .i64 0,.int .i64 0,.slice none 0 0,.int .i64 0,.slice none 0 0,.slice none 0 0,.bool false] 83:=((l1.other _ _ _ (by omega)).other _ _ _ (by omega))
 have m2:Loc ((w1.setCell ⟨w.heap.size+1+1,1,none⟩ (.int .i64 o.atN)).setCell ⟨w.heap.size+1+1,2,none⟩ (.int .i64 o.atR)) (w.heap.size+1+1) #[.int .i64 o.kind,.int .i64 o.atN,.int .i64 o.atR,.int .i64 0,.int .i64 0,.int .i64 0,.int .i64 0,.slice none 0 0,.int .i64 0,.slice none 0 0,.slice none 0 0,.bool false] 83:=((l2.set 1 (.int .i64 o.atN)).set 2 (.int .i64 o.atR)).be (by simp)
 have hf:Frm w1 ((w1.setCell ⟨w.heap.size+1+1,1,none⟩ (.int .i64 o.atN)).setCell ⟨w.heap.size+1+1,2,none⟩ (.int .i64 o.atR)) [w.heap.size+1+1]:=((zab _ _ _ _).trans (zab _ _ _ _))
 have hA2:Below w.heap.size w ((w1.setCell ⟨w.heap.size+1+1,1,none⟩ (.int .i64 o.atN)).setCell ⟨w.heap.size+1+1,2,none⟩ (.int .i64 o.atR)):=hA.trans (hf.below hA.size (fun g hg=>by simp at hg;omega))
 have L:=hide (And.intro m0 (And.intro m1 (And.intro m2 hA2)))
 clear m0 m1 m2 hf hA2 l0 l1 l2 hA
 go_wp2_with fail
 obtain⟨l0,l1,l2,hA⟩:=zaa L
 clear L
 clear e0_3 e0_4 e2_1 f2_1 e2_2 f2_2
 refine (zfz _ o.nodeN o.nodeR).mono ?_
 rintro e w2 ⟨rfl,hB⟩
 replace l0:=l0.all hB
 replace l1:=l1.all hB
 replace l2:=l2.all hB
 replace hA:=zad hA hB
 clear hB
 have e0_5:=l0.cell 5
 have e0_6:=l0.cell 6
 have e2_3:=l2.cell 3
 have f2_3:=l2.frozen 3
 have e2_4:=l2.cell 4
 have f2_4:=l2.frozen 4
 simp at e0_5 e0_6 e2_3 e2_4
 have m0:Loc ((w2.setCell ⟨w.heap.size+1+1,3,none⟩ (.int .i64 o.nodeN)).setCell ⟨w.heap.size+1+1,4,none⟩ (.int .i64 o.nodeR)) w.heap.size #[.int .i64 o.kind,.int .i64 o.atN,.int .i64 o.atR,.int .i64 o.nodeN,.int .i64 o.nodeR,.int .i64 o.parN,.int .i64 o.parR,.slice pk o.key.length ck,.int .i64 o.elem,.slice pn o.name.length cn,.slice pt o.text.length ct,.bool o.gone] 77:=((l0.other _ _ _ (by omega)).other _ _ _ (by omega))
 have m1:Loc ((w2.setCell ⟨w.heap.size+1+1,3,none⟩ (.int .i64 o.nodeN)).setCell ⟨w.heap.size+1+1,4,none⟩ (.int .i64 o.nodeR)) (w.heap.size+1) #[.int .i64 0,.int .i64 0,.int .i64 0,.int .i64 0,.int .i64 0,.int .i64 0,.int .i64 0,.slice none 0 0,.int .i64 0,.slice none 0 0,.slice none 0 0,.bool false] 83:=((l1.other _ _ _ (by omega)).other _ _ _ (by omega))
 have m2:Loc ((w2.setCell ⟨w.heap.size+1+1,3,none⟩ (.int .i64 o.nodeN)).setCell ⟨w.heap.size+1+1,4,none⟩ (.int .i64 o.nodeR)) (w.heap.size+1+1) #[.int .i64 o.kind,.int .i64 o.atN,.int .i64 o.atR,.int .i64 o.nodeN,.int .i64 o.nodeR,.int .i64 0,.int .i64 0,.slice none 0 0,.int .i64 0,.slice none 0 0,.slice none 0 0,.bool false] 83:=((l2.set 3 (.int .i64 o.nodeN)).set 4 (.int .i64 o.nodeR)).be (by simp)
 have hf:Frm w2 ((w2.setCell ⟨w.heap.size+1+1,3,none⟩ (.int .i64 o.nodeN)).setCell ⟨w.heap.size+1+1,4,none⟩ (.int .i64 o.nodeR)) [w.heap.size+1+1]:=((zab _ _ _ _).trans (zab _ _ _ _))
 have hA2:Below w.heap.size w ((w2.setCell ⟨w.heap.size+1+1,3,none⟩ (.int .i64 o.nodeN)).setCell ⟨w.heap.size+1+1,4,none⟩ (.int .i64 o.nodeR)):=hA.trans (hf.below hA.size (fun g hg=>by simp at hg;omega))
 have L:=hide (And.intro m0 (And.intro m1 (And.intro m2 hA2)))
 clear m0 m1 m2 hf hA2 l0 l1 l2 hA
 go_wp2_with fail
 obtain⟨l0,l1,l2,hA⟩:=zaa L
 clear L
 clear e0_5 e0_6 e2_3 f2_3 e2_4 f2_4
 refine (zfz _ o.parN o.parR).mono ?_
 rintro e w3 ⟨rfl,hB⟩
 replace l0:=l0.all hB
 replace l1:=l1.all hB
 replace l2:=l2.all hB
 replace hA:=zad hA hB
 clear hB
 have e0_7:=l0.cell 7
 have e2_5:=l2.cell 5
 have f2_5:=l2.frozen 5
 have e2_6:=l2.cell 6
 have f2_6:=l2.frozen 6
 simp at e0_7 e2_5 e2_6
 have m0:Loc ((w3.setCell ⟨w.heap.size+1+1,5,none⟩ (.int .i64 o.parN)).setCell ⟨w.heap.size+1+1,6,none⟩ (.int .i64 o.parR)) w.heap.size #[.int .i64 o.kind,.int .i64 o.atN,.int .i64 o.atR,.int .i64 o.nodeN,.int .i64 o.nodeR,.int .i64 o.parN,.int .i64 o.parR,.slice pk o.key.length ck,.int .i64 o.elem,.slice pn o.name.length cn,.slice pt o.text.length ct,.bool o.gone] 77:=((l0.other _ _ _ (by omega)).other _ _ _ (by omega))
 have m1:Loc ((w3.setCell ⟨w.heap.size+1+1,5,none⟩ (.int .i64 o.parN)).setCell ⟨w.heap.size+1+1,6,none⟩ (.int .i64 o.parR)) (w.heap.size+1) #[.int .i64 0,.int .i64 0,.int .i64 0,.int .i64 0,.int .i64 0,.int .i64 0,.int .i64 0,.slice none 0 0,.int .i64 0,.slice none 0 0,.slice none 0 0,.bool false] 83:=((l1.other _ _ _ (by omega)).other _ _ _ (by omega))
 have m2:Loc ((w3.setCell ⟨w.heap.size+1+1,5,none⟩ (.int .i64 o.parN)).setCell ⟨w.heap.size+1+1,6,none⟩ (.int .i64 o.parR)) (w.heap.size+1+1) #[.int .i64 o.kind,.int .i64 o.atN,.int .i64 o.atR,.int .i64 o.nodeN,.int .i64 o.nodeR,.int .i64 o.parN,.int .i64 o.parR,.slice none 0 0,.int .i64 0,.slice none 0 0,.slice none 0 0,.bool false] 83:=((l2.set 5 (.int .i64 o.parN)).set 6 (.int .i64 o.parR)).be (by simp)
 have hf:Frm w3 ((w3.setCell ⟨w.heap.size+1+1,5,none⟩ (.int .i64 o.parN)).setCell ⟨w.heap.size+1+1,6,none⟩ (.int .i64 o.parR)) [w.heap.size+1+1]:=((zab _ _ _ _).trans (zab _ _ _ _))
 have hA2:Below w.heap.size w ((w3.setCell ⟨w.heap.size+1+1,5,none⟩ (.int .i64 o.parN)).setCell ⟨w.heap.size+1+1,6,none⟩ (.int .i64 o.parR)):=hA.trans (hf.below hA.size (fun g hg=>by simp at hg;omega))
 have L:=hide (And.intro m0 (And.intro m1 (And.intro m2 hA2)))
 clear m0 m1 m2 hf hA2 l0 l1 l2 hA
 go_wp2_with fail
 obtain⟨l0,l1,l2,hA⟩:=zaa L
 clear L
 clear e0_7 e2_5 f2_5 e2_6 f2_6
 have zk:=l2.lt
 refine (zsa _ _ o.key ((zaa H).1.keep hA) (by have:=zaa HS;omega)).mono ?_
 rintro e w4 ⟨vk,rfl,ok,_,hB⟩
 obtain⟨ak,dk,hvk,_,_⟩:=ok.ints.shape
 subst hvk
 have rk:=ok.rng
 have sk:=hB.size
 replace l0:=l0.all hB
 replace l1:=l1.all hB
 replace l2:=l2.all hB
 replace hA:=zad hA hB
 clear hB
 have e0_8:=l0.cell 8
 have e0_9:=l0.cell 9
 have e2_7:=l2.cell 7
 have f2_7:=l2.frozen 7
 have e2_8:=l2.cell 8
 have f2_8:=l2.frozen 8
 simp at e0_8 e0_9 e2_7 e2_8
 have m0:Loc ((w4.setCell ⟨w.heap.size+1+1,7,none⟩ (.slice ak o.key.length dk)).setCell ⟨w.heap.size+1+1,8,none⟩ (.int .i64 o.elem)) w.heap.size #[.int .i64 o.kind,.int .i64 o.atN,.int .i64 o.atR,.int .i64 o.nodeN,.int .i64 o.nodeR,.int .i64 o.parN,.int .i64 o.parR,.slice pk o.key.length ck,.int .i64 o.elem,.slice pn o.name.length cn,.slice pt o.text.length ct,.bool o.gone] 77:=((l0.other _ _ _ (by omega)).other _ _ _ (by omega))
 have m1:Loc ((w4.setCell ⟨w.heap.size+1+1,7,none⟩ (.slice ak o.key.length dk)).setCell ⟨w.heap.size+1+1,8,none⟩ (.int .i64 o.elem)) (w.heap.size+1) #[.int .i64 0,.int .i64 0,.int .i64 0,.int .i64 0,.int .i64 0,.int .i64 0,.int .i64 0,.slice none 0 0,.int .i64 0,.slice none 0 0,.slice none 0 0,.bool false] 83:=((l1.other _ _ _ (by omega)).other _ _ _ (by omega))
 have m2:Loc ((w4.setCell ⟨w.heap.size+1+1,7,none⟩ (.slice ak o.key.length dk)).setCell ⟨w.heap.size+1+1,8,none⟩ (.int .i64 o.elem)) (w.heap.size+1+1) #[.int .i64 o.kind,.int .i64 o.atN,.int .i64 o.atR,.int .i64 o.nodeN,.int .i64 o.nodeR,.int .i64 o.parN,.int .i64 o.parR,.slice ak o.key.length dk,.int .i64 o.elem,.slice none 0 0,.slice none 0 0,.bool false] 83:=((l2.set 7 (.slice ak o.key.length dk)).set 8 (.int .i64 o.elem)).be (by simp)
 have hf:Frm w4 ((w4.setCell ⟨w.heap.size+1+1,7,none⟩ (.slice ak o.key.length dk)).setCell ⟨w.heap.size+1+1,8,none⟩ (.int .i64 o.elem)) [w.heap.size+1+1]:=((zab _ _ _ _).trans (zab _ _ _ _))
 have hA2:Below w.heap.size w ((w4.setCell ⟨w.heap.size+1+1,7,none⟩ (.slice ak o.key.length dk)).setCell ⟨w.heap.size+1+1,8,none⟩ (.int .i64 o.elem)):=hA.trans (hf.below hA.size (fun g hg=>by simp at hg;omega))
 have qk:=ok.frm hf (fun g hg=>by have:=rk g hg;simp;omega)
 have L:=hide (And.intro qk (And.intro m0 (And.intro m1 (And.intro m2 hA2))))
 clear m0 m1 m2 hf hA2 l0 l1 l2 hA qk ok
 go_wp2_with fail
 obtain⟨ok,l0,l1,l2,hA⟩:=zaa L
 clear L
 clear e0_8 e0_9 e2_7 f2_7 e2_8 f2_8
 have zn:=l2.lt
 refine (zee _ _ o.name ((zaa H).2.1.keep hA) (by have:=zaa HS;omega)).mono ?_
 rintro e w5 ⟨vn,rfl,on,_,hB⟩
 obtain⟨an,dn,hvn,_,_⟩:=on.byt.shape
 subst hvn
 have rn:=on.rng
 replace ok:=ok.keep hB
 have sn:=hB.size
 replace l0:=l0.all hB
 replace l1:=l1.all hB
 replace l2:=l2.all hB
 replace hA:=zad hA hB
 clear hB
 have e0_10:=l0.cell 10
 have e2_9:=l2.cell 9
 have f2_9:=l2.frozen 9
 simp at e0_10 e2_9
 have m0:Loc (w5.setCell ⟨w.heap.size+1+1,9,none⟩ (.slice an o.name.length dn)) w.heap.size #[.int .i64 o.kind,.int .i64 o.atN,.int .i64 o.atR,.int .i64 o.nodeN,.int .i64 o.nodeR,.int .i64 o.parN,.int .i64 o.parR,.slice pk o.key.length ck,.int .i64 o.elem,.slice pn o.name.length cn,.slice pt o.text.length ct,.bool o.gone] 77:=(l0.other _ _ _ (by omega))
 have m1:Loc (w5.setCell ⟨w.heap.size+1+1,9,none⟩ (.slice an o.name.length dn)) (w.heap.size+1) #[.int .i64 0,.int .i64 0,.int .i64 0,.int .i64 0,.int .i64 0,.int .i64 0,.int .i64 0,.slice none 0 0,.int .i64 0,.slice none 0 0,.slice none 0 0,.bool false] 83:=(l1.other _ _ _ (by omega))
 have m2:Loc (w5.setCell ⟨w.heap.size+1+1,9,none⟩ (.slice an o.name.length dn)) (w.heap.size+1+1) #[.int .i64 o.kind,.int .i64 o.atN,.int .i64 o.atR,.int .i64 o.nodeN,.int .i64 o.nodeR,.int .i64 o.parN,.int .i64 o.parR,.slice ak o.key.length dk,.int .i64 o.elem,.slice an o.name.length dn,.slice none 0 0,.bool false] 83:=(l2.set 9 (.slice an o.name.length dn)).be (by simp)
 have hf:Frm w5 (w5.setCell ⟨w.heap.size+1+1,9,none⟩ (.slice an o.name.length dn)) [w.heap.size+1+1]:=(zab _ _ _ _)
 have hA2:Below w.heap.size w (w5.setCell ⟨w.heap.size+1+1,9,none⟩ (.slice an o.name.length dn)):=hA.trans (hf.below hA.size (fun g hg=>by simp at hg;omega))
 have qk:=ok.frm hf (fun g hg=>by have:=rk g hg;simp;omega)
 have qn:=on.frm hf (fun g hg=>by have:=rn g hg;simp;omega)
 have L:=hide (And.intro qn (And.intro qk (And.intro m0 (And.intro m1 (And.intro m2 hA2)))))
 clear m0 m1 m2 hf hA2 l0 l1 l2 hA qk ok qn on
 go_wp2_with fail
 obtain⟨on,ok,l0,l1,l2,hA⟩:=zaa L
 clear L
 clear e0_10 e2_9 f2_9
 have zt:=l2.lt
 refine (zee _ _ o.text ((zaa H).2.2.keep hA) (by have:=zaa HS;omega)).mono ?_
 rintro e w6 ⟨vt,rfl,ot,_,hB⟩
 obtain⟨at1,dt,hvt,_,_⟩:=ot.byt.shape
 subst hvt
 have rt:=ot.rng
 replace ok:=ok.keep hB
 replace on:=on.keep hB
 have st:=hB.size
 replace l0:=l0.all hB
 replace l1:=l1.all hB
 replace l2:=l2.all hB
 replace hA:=zad hA hB
 clear hB
 have e0_11:=l0.cell 11
 have e2_10:=l2.cell 10
 have f2_10:=l2.frozen 10
 have e2_11:=l2.cell 11
 have f2_11:=l2.frozen 11
 simp at e0_11 e2_10 e2_11
 have e2_0:=l2.cell 0
 have e2_1:=l2.cell 1
 have e2_2:=l2.cell 2
 have e2_3:=l2.cell 3
 have e2_4:=l2.cell 4
 have e2_5:=l2.cell 5
 have e2_6:=l2.cell 6
 have e2_7:=l2.cell 7
 have e2_8:=l2.cell 8
 have e2_9:=l2.cell 9
 have e1_0:=l1.cell 0
 have f1_0:=l1.frozen 0
 have e1_1:=l1.cell 1
 have f1_1:=l1.frozen 1
 have e1_2:=l1.cell 2
 have f1_2:=l1.frozen 2
 have e1_3:=l1.cell 3
 have f1_3:=l1.frozen 3
 have e1_4:=l1.cell 4
 have f1_4:=l1.frozen 4
 have e1_5:=l1.cell 5
 have f1_5:=l1.frozen 5
 have e1_6:=l1.cell 6
 have f1_6:=l1.frozen 6
 have e1_7:=l1.cell 7
 have f1_7:=l1.frozen 7
 have e1_8:=l1.cell 8
 have f1_8:=l1.frozen 8
 have e1_9:=l1.cell 9
 have f1_9:=l1.frozen 9
 have e1_10:=l1.cell 10
 have f1_10:=l1.frozen 10
 have e1_11:=l1.cell 11
 have f1_11:=l1.frozen 11
 simp at e2_0 e2_1 e2_2 e2_3 e2_4 e2_5 e2_6 e2_7 e2_8 e2_9 e1_0 e1_1 e1_2 e1_3 e1_4 e1_5 e1_6 e1_7 e1_8 e1_9 e1_10 e1_11
 have hf:Frm w6 ((((((((((((((w6.setCell ⟨w.heap.size+1+1,10,none⟩ (.slice at1 o.text.length dt)).setCell ⟨w.heap.size+1+1,11,none⟩ (.bool o.gone)).setCell ⟨w.heap.size+1,0,none⟩ (.int .i64 o.kind)).setCell ⟨w.heap.size+1,1,none⟩ (.int .i64 o.atN)).setCell ⟨w.heap.size+1,2,none⟩ (.int .i64 o.atR)).setCell ⟨w.heap.size+1,3,none⟩ (.int .i64 o.nodeN)).setCell ⟨w.heap.size+1,4,none⟩ (.int .i64 o.nodeR)).setCell ⟨w.heap.size+1,5,none⟩ (.int .i64 o.parN)).setCell ⟨w.heap.size+1,6,none⟩ (.int .i64 o.parR)).setCell ⟨w.heap.size+1,7,none⟩ (.slice ak o.key.length dk)).setCell ⟨w.heap.size+1,8,none⟩ (.int .i64 o.elem)).setCell ⟨w.heap.size+1,9,none⟩ (.slice an o.name.length dn)).setCell ⟨w.heap.size+1,10,none⟩ (.slice at1 o.text.length dt)).setCell ⟨w.heap.size+1,11,none⟩ (.bool o.gone)) [w.heap.size+1+1,w.heap.size+1]:=(((((((((((((((zab _ _ _ _).mono (by simp)).trans ((zab _ _ _ _).mono (by simp))).trans ((zab _ _ _ _).mono (by simp))).trans ((zab _ _ _ _).mono (by simp))).trans ((zab _ _ _ _).mono (by simp))).trans ((zab _ _ _ _).mono (by simp))).trans ((zab _ _ _ _).mono (by simp))).trans ((zab _ _ _ _).mono (by simp))).trans ((zab _ _ _ _).mono (by simp))).trans ((zab _ _ _ _).mono (by simp))).trans ((zab _ _ _ _).mono (by simp))).trans ((zab _ _ _ _).mono (by simp))).trans ((zab _ _ _ _).mono (by simp))).trans ((zab _ _ _ _).mono (by simp)))
 have hA2:Below w.heap.size w ((((((((((((((w6.setCell ⟨w.heap.size+1+1,10,none⟩ (.slice at1 o.text.length dt)).setCell ⟨w.heap.size+1+1,11,none⟩ (.bool o.gone)).setCell ⟨w.heap.size+1,0,none⟩ (.int .i64 o.kind)).setCell ⟨w.heap.size+1,1,none⟩ (.int .i64 o.atN)).setCell ⟨w.heap.size+1,2,none⟩ (.int .i64 o.atR)).setCell ⟨w.heap.size+1,3,none⟩ (.int .i64 o.nodeN)).setCell ⟨w.heap.size+1,4,none⟩ (.int .i64 o.nodeR)).setCell ⟨w.heap.size+1,5,none⟩ (.int .i64 o.parN)).setCell ⟨w.heap.size+1,6,none⟩ (.int .i64 o.parR)).setCell ⟨w.heap.size+1,7,none⟩ (.slice ak o.key.length dk)).setCell ⟨w.heap.size+1,8,none⟩ (.int .i64 o.elem)).setCell ⟨w.heap.size+1,9,none⟩ (.slice an o.name.length dn)).setCell ⟨w.heap.size+1,10,none⟩ (.slice at1 o.text.length dt)).setCell ⟨w.heap.size+1,11,none⟩ (.bool o.gone)):=hA.trans (hf.below hA.size (fun g hg=>by simp at hg;omega))
 have qk:=(ok.frm hf (fun g hg=>by have:=rk g hg;simp;omega)).mono (show w.heap.size<=_ by omega)
 have qn:=(on.frm hf (fun g hg=>by have:=rn g hg;simp;omega)).mono (show w.heap.size<=_ by omega)
 have qt:=(ot.frm hf (fun g hg=>by have:=rt g hg;simp;omega)).mono (show w.heap.size<=_ by omega)
 have hnd:(FB (.slice ak o.key.length dk)++FB (.slice an o.name.length dn)++FB (.slice at1 o.text.length dt)).Nodup:=by
  simp at sn st zn zt
  refine zbR (lo:=0) (zbR (zaF _) (zaF _) rk (rn.mono (by simp) (Nat.le_refl _))) (zaF _) ((rk.mono (Nat.zero_le _) (by omega)).app (rn.mono (Nat.zero_le _) (Nat.le_refl _))) (rt.mono (by simp) (Nat.le_refl _))
 have L:=hide (And.intro qk (And.intro qn (And.intro qt (And.intro hnd hA2))))
 clear qk qn qt hnd hA2 hf l0 l1 l2 hA ok on ot rk rn rt H
 go_wp2_with fail
 obtain⟨qk,qn,qt,hnd,hA2⟩:=zaa L
 exact bodyPost_ret (v:=zaY o (.slice ak o.key.length dk) (.slice an o.name.length dn) (.slice at1 o.text.length dt)) (by simp [results,Tryz.results45,go_sem,zaY,e1_0,e1_1,e1_2,e1_3,e1_4,e1_5,e1_6,e1_7,e1_8,e1_9,e1_10,e1_11]) rfl ⟨_,_,_,rfl,qk,qn,qt,hnd,hA2⟩
def zri (p:PlV) (k n t a:Xf):Xf:=.agg #[.int .i64 p.idN,.int .i64 p.idR,.int .i64 p.parN,.int .i64 p.parR,k,.int .i64 p.kind,n,t,a]
def RdPlC (w:Xe) (C:Xd) (p:PlV):Prop:=∃k n t a,C=[.int .i64 p.idN,.int .i64 p.idR,.int .i64 p.parN,.int .i64 p.parR,k,.int .i64 p.kind,n,t,a]∧Ints w k p.key∧Byt w n p.name∧Byt w t p.text∧RdAttrs w a p.attrs
def RdPl (w:Xe) (v:Xf) (p:PlV):Prop:=∃k n t a,v=zri p k n t a∧Ints w k p.key∧Byt w n p.name∧Byt w t p.text∧RdAttrs w a p.attrs
def RdPls (w:Xe) (v:Xf) (l:List PlV):Prop:=Elems w 9 v l (RdPlC w)
theorem RdPlC.keep {w w':Xe} {C:Xd} {p:PlV} (h:RdPlC w C p) (hb:Below w.heap.size w w'):RdPlC w' C p:=by
 obtain⟨k,n,t,a,e,h1,h2,h3,h4⟩:=h
 exact⟨k,n,t,a,e,h1.keep hb,h2.keep hb,h3.keep hb,h4.keep hb⟩
theorem RdPls.keep {w w':Xe} {v:Xf} {l:List PlV} (h:RdPls w v l) (hb:Below w.heap.size w w'):RdPls w' v l:=Elems.keep h hb (fun C x _ hr=>hr.keep hb)
theorem RdPls.cases {w:Xe} {v:Xf} {l:List PlV} (h:RdPls w v l):(l=[]∧∃a cap,v=.slice a 0 cap)∨∃b off cap,v=.slice (some ⟨b,off,none⟩) l.length cap∧l≠[]∧b<w.heap.size∧∀i (hi:i<l.length),∃C:Xd,C.length=9∧(∀j,j<9->w.cell? ⟨b,off+i*9+j,none⟩=C[j]?)∧RdPlC w C l[i]:=by
 obtain⟨_,⟨rfl,rfl⟩ | ⟨x,cap,rfl,hc,rfl⟩ | ⟨b,off,cap,rfl,g1,g2,g3,g4,g5⟩⟩:=h
 ·exact .inl ⟨rfl,none,0,rfl⟩
 ·exact .inl ⟨rfl,_,_,rfl⟩
 ·exact .inr ⟨b,off,cap,rfl,g3,g4,g5⟩
theorem zkI {w W:Xe} {b off i:Nat} {p:PlV} (hW:Below w.heap.size w W) (hb:b<w.heap.size) (h:∃C:Xd,C.length=9∧(∀j,j<9->w.cell? ⟨b,off+i*9+j,none⟩=C[j]?)∧RdPlC w C p) :
  ∃k ck n cn t ct a ca,W.cell? ⟨b,off+i*9,none⟩=some (.int .i64 p.idN)∧W.cell? ⟨b,off+i*9+1,none⟩=some (.int .i64 p.idR)∧W.cell? ⟨b,off+i*9+2,none⟩=some (.int .i64 p.parN)∧W.cell? ⟨b,off+i*9+3,none⟩=some (.int .i64 p.parR)∧W.cell? ⟨b,off+i*9+4,none⟩=some (.slice k p.key.length ck)∧W.cell? ⟨b,off+i*9+5,none⟩=some (.int .i64 p.kind)∧W.cell? ⟨b,off+i*9+6,none⟩=some (.slice n p.name.length cn)∧W.cell? ⟨b,off+i*9+7,none⟩=some (.slice t p.text.length ct)∧W.cell? ⟨b,off+i*9+8,none⟩=some (.slice a p.attrs.length ca)∧RdPl W (zri p (.slice k p.key.length ck) (.slice n p.name.length cn) (.slice t p.text.length ct) (.slice a p.attrs.length ca)) p:=by
 obtain⟨C,_,hc,k,n,t,a,rfl,hk,hn,ht,ha⟩:=h
 obtain⟨a1,c1,rfl,_,_⟩:=hk.shape
 obtain⟨a2,c2,rfl,_,_⟩:=hn.shape
 obtain⟨a3,c3,rfl,_,_⟩:=ht.shape
 obtain⟨a4,c4,rfl,_,_⟩:=Elems.shape ha
 have cc:∀j,j<9->W.cell? ⟨b,off+i*9+j,none⟩=w.cell? ⟨b,off+i*9+j,none⟩:=fun j hj=>hW.cell (p:=⟨b,off+i*9+j,none⟩) hb
 exact⟨a1,c1,a2,c2,a3,c3,a4,c4,(cc 0 (by omega)).trans (hc 0 (by omega)),(cc 1 (by omega)).trans (hc 1 (by omega)),(cc 2 (by omega)).trans (hc 2 (by omega)),(cc 3 (by omega)).trans (hc 3 (by omega)),(cc 4 (by omega)).trans (hc 4 (by omega)),(cc 5 (by omega)).trans (hc 5 (by omega)),(cc 6 (by omega)).trans (hc 6 (by omega)),(cc 7 (by omega)).trans (hc 7 (by omega)),(cc 8 (by omega)).trans (hc 8 (by omega)),_,_,_,_,rfl,hk.keep hW,hn.keep hW,ht.keep hW,ha.keep hW⟩
theorem zgY {w:Xe} {ops:Array Oper} {rest:List Oper} {o:Oper} {a:Act} {Q:Exit->Act->Xe->Prop} (hgd:o.guard=none) (s x:Operand)
  (ho:o.op=.call { callee:=.builtin .append,args:= #[s,x],argTypes:= #[75,75] })
  (base:Nat) (v:Xf) (l:Xa) (hs:a.eval s=v) (hown:OwnZ w base v l) (u:Xf) (m:Xa) (hx:a.eval x=u) (hu:Ints w u m)
  (hlen:l.length+m.length<=134217728) (hbase:base<=w.heap.size)
  (h:∀v' w',OwnZ w' base v' (l++m)->w.grownBy w' v.ownBlock->wpList Tryz.prog ops Q rest (a.put o.dst v') w'):wpList Tryz.prog ops Q (o::rest) a w:=by
 obtain⟨i0,hi,hz0,hz1,hz2⟩:=info_parts Tryz.info3
 have hfull:∀(ad:Addr) (c:Nat),a.eval x=.slice (some ad) m.length c->(∀j,j<m.length->w.cell? (ad.add j)=some (.int .i64 (m.getD j 0)))->wpList Tryz.prog ops Q (o::rest) a w:=by
  intro ad c hx' hc
  refine wpList_append_own _ hgd s x 75 ho base 3 i0 (.int .i64 0) 1 8 Tryz.underlying75 hi hz0 hz1 hz2 rfl (by decide) v l.length (valz l) hs hown.2 ad m.length c (valz m) hx' (by rw [zkN];omega) ?_ (zqJ m) (by unfold maxLen;omega) (by omega) hbase ?_
  ·intro j y hj
   have hlt:j<m.length:=by
    by_cases hlt:j<m.length
    ·exact hlt
    ·rw [List.getElem?_eq_none (by rw [zkN];omega)]at hj;cases hj
   rw [zeO hlt]at hj
   rw [hc j hlt];exact hj
  ·intro v' w' h1 h2 _
   refine h v' w' ⟨hown.1.app hu.1,?_⟩ h2
   rw [zfl,List.length_append];exact h1
 obtain⟨hok,hm,⟨rfl,rfl⟩ | ⟨y,cap,rfl,hc,rfl⟩ | ⟨b,off,cap,rfl,h1,h2,h3,h4,h5⟩⟩:=hu
 ·refine wpList_append_own_none hgd s x 75 ho base 3 i0 1 Tryz.underlying75 hi v l.length (valz l) hs hown.2 hx ?_
  exact h v w (by rw [List.append_nil];exact hown) (World.grownBy.refl _ _)
 ·exact hfull y cap hx (fun j hj=>by simp at hj)
 ·exact hfull ⟨b,off,none⟩ cap hx (fun j hj=>by rw [zbc];exact h5 j hj)
theorem zse (w:Xe) (x:Int) (h0 : -9223372036854775808<=x) (h1:x<=9223372036854775807):Ints (w.alloc (.cells #[.int .i64 x] 3)) (.slice (some ⟨w.heap.size,0,none⟩) 1 1) [x]:=by
 refine⟨okZ.one h0 h1,by simp [maxLen],.inr (.inr ⟨w.heap.size,0,1,rfl,by simp,by simp [maxLen],by simp,by simp,fun i hi=> ?_⟩)⟩
 have e:i=0:=by simpa using hi
 subst e
 simp
theorem zfv (w:Xe) (base:Nat):OwnZ w base (.slice none 0 0) []:=⟨zef,rfl,.inl ⟨rfl,rfl⟩⟩
theorem OwnZ.alloc {w:Xe} {base:Nat} {v:Xf} {l:Xa} (h:OwnZ w base v l) (o:Obj):OwnZ (w.alloc o) base v l:=⟨h.1,h.2.alloc o⟩
def zaX (k:Int) (n:Nat):Xa:=(List.range n).map fun i:Nat=>(k+(i:Int)) % 256
theorem zcW (k:Int) (n:Nat):(zaX k n).length=n:=by simp [zaX]
theorem zkr (k:Int) (n:Nat):okB (zaX k n):=fun x hx=>by
 obtain⟨i,_,rfl⟩:=List.mem_map.1 hx
 omega
theorem zra (k:Int) (n i:Nat) (h:i<n):(zaX k n).getD i 0=(k+(i:Int)) % 256:=by simp [zaX,h]
theorem zmP (k:Int) (l:Xa) (j:Nat) (h:j<l.length):(vals (zaX k j++l.drop j)).set j (.int .u8 ((k+(j:Int)) % 256))=vals (zaX k (j+1)++l.drop (j+1)):=by
 have e:zaX k (j+1)=zaX k j++[(k+(j:Int)) % 256]:=by simp [zaX,List.range_succ]
 have hl:(vals (zaX k j)).length=j:=by simp [vals,zcW]
 rw [zcP,List.set_append_right _ _ (by omega),hl,Nat.sub_self,e,List.drop_eq_getElem_cons h,zcP,zcP,List.append_assoc]
 rfl
theorem zow (w:Xe) (a:Xc) (cap:Nat) (k:Int) :
  Calls Tryz.prog 11 #[.slice a 0 cap,.int .i64 k] w fun e w'=>e=.returned (.int .i64 k)∧w'=w:=by
 go_enter Tryz.func11,Tryz.ntmps11
 go_wp2
 refine wp_loop_rounds 1 ?_
 rw [rounds_succ]
 go_wp2
 go_ret
 exact⟨rfl,rfl⟩
set_option maxHeartbeats 1600000 in
set_option maxRecDepth 1000000 in
theorem zoZ (w:Xe) (base g cap:Nat) (l:Xa) (k:Int) (hw:w.ownsRow base 5 1 (.slice (some ⟨g,0,none⟩) l.length cap) l.length (vals l)) (hs:l.length<=16777216) (h0:0<=k) (h1:k<=1000000000) :
  Calls Tryz.prog 11 #[.slice (some ⟨g,0,none⟩) l.length cap,.int .i64 k] w fun e w'=>e=.returned (.int .i64 (k+l.length))∧
   w'.ownsRow base 5 1 (.slice (some ⟨g,0,none⟩) l.length cap) l.length (vals (zaX k l.length))∧w.grownBy w' (some g):=by
 generalize hn:l.length=n at *
 have HN:=hide hn
 clear hn
 go_enter Tryz.func11,Tryz.ntmps11
 go_wp2
 go_loopw [1,5] (fun c i wr=>∃j:Nat,j<=n∧i=.int .i64 j∧c=.int .i64 (k+(j:Int))∧wr.ownsRow base 5 1 (.slice (some ⟨g,0,none⟩) n cap) n (vals (zaX k j++l.drop j))∧w.grownBy wr (some g)) (fun _ i _=>n-(intOf i).toNat)
 case atStart=>exact⟨0,Nat.zero_le _,rfl,by simp,by simpa [zaX]using hw,World.grownBy.refl _ _⟩
 case round=>
  obtain⟨j,hj,rfl,rfl,hr,hg⟩:=hrel
  by_cases hlt:j<n
  ·have hlen:=zaa HN
   have hjl:j<l.length:=by omega
   obtain⟨y,hy⟩:∃y,wr.cell? ⟨g,j,none⟩=some (.int .u8 y):=⟨(zaX k j++l.drop j).getD j 0,by rw [hr.cellAt j (by omega),zdm (by simp [zcW];omega)]⟩
   have hfr:=hr.frozenAt j
   have hst:=hr.stored j (.int .u8 ((k+(j:Int)) % 256))
   rw [zmP k l j hjl]at hst
   have HS:=hide hst
   clear hst hr hlen
   have hlt':(j:Int)<(n:Int):=by omega
   go_wp2
   have R:=zaa HS
   go_roundw
   case rel=>exact⟨j+1,by omega,by go_num,by go_num,R.1,zhb hg R.2⟩
   case measure=>simp [intOf];omega
  ·have e:j=n:=by omega
   subst e
   have hr':wr.ownsRow base 5 1 (.slice (some ⟨g,0,none⟩) j cap) j (vals (zaX k j)):=by
    have:=zaa HN
    rw [List.drop_of_length_le (by omega),List.append_nil]at hr
    exact hr
   clear hr
   go_wp2
   go_ret
   exact⟨rfl,hr',hg⟩
theorem zbU (w:Xe) (base:Nat) (v:Xf) (l:Xa) (k:Int) (h:Own w base v l) (hs:l.length<=16777216) (h0:0<=k) (h1:k<=1000000000) :
  Calls Tryz.prog 11 #[v,.int .i64 k] w fun e w'=>e=.returned (.int .i64 (k+l.length))∧Own w' base v (zaX k l.length)∧w.grownBy w' v.ownBlock:=by
 obtain⟨hok,hlen,⟨rfl,hz⟩ | ⟨g,cap,cur,rfl,hr⟩⟩:=h
 ·have e:l=[]:=List.eq_nil_of_length_eq_zero hz
  subst e
  refine (zow w none 0 k).mono ?_
  rintro e w' ⟨rfl,rfl⟩
  exact⟨by simp,⟨zkr _ _,World.ownsRow_nil _ _ _ _⟩,World.grownBy.refl _ _⟩
 ·refine (zoZ w base g cap l k ⟨hlen,.inr ⟨g,cap,cur,rfl,hr⟩⟩ hs h0 h1).mono ?_
  rintro e w' ⟨rfl,ho,hg⟩
  refine⟨rfl,⟨zkr _ _,?_⟩,hg⟩
  rw [zcW]
  exact ho
theorem zjq (w:Xe) (a:Xc) (cap:Nat) (k:Int) :
  Calls Tryz.prog 12 #[.slice a 0 cap,.int .i64 k] w fun e w'=>e=.returned (.int .i64 k)∧w'=w:=by
 go_enter Tryz.func12,Tryz.ntmps12
 go_wp2
 refine wp_loop_rounds 1 ?_
 rw [rounds_succ]
 go_wp2
 go_ret
 exact⟨rfl,rfl⟩
set_option maxHeartbeats 1600000 in
set_option maxRecDepth 1000000 in
theorem zpu (w:Xe) (b off cap n:Nat) (k:Int) (hc:∀i,i<n->w.cell? ⟨b,off+i,none⟩=some (.int .u8 ((zaX k n).getD i 0))) (hs:n<=16777216) (h0:0<=k) (h1:k<=1000000000) :
  Calls Tryz.prog 12 #[.slice (some ⟨b,off,none⟩) n cap,.int .i64 k] w fun e w'=>e=.returned (.int .i64 (k+n))∧w'=w:=by
 go_enter Tryz.func12,Tryz.ntmps12
 go_wp2
 go_loop [1,5] (fun c i=>∃j:Nat,j<=n∧i=.int .i64 j∧c=.int .i64 (k+(j:Int))) (fun _ i=>n-(intOf i).toNat)
 case atStart=>exact⟨0,Nat.zero_le _,rfl,by simp⟩
 case round=>
  obtain⟨j,hj,rfl,rfl⟩:=hrel
  by_cases hlt:j<n
  ·have c1:=hc j hlt
   rw [zra k n j hlt]at c1
   clear hc
   have hlt':(j:Int)<(n:Int):=by omega
   go_wp2
   go_round
   case rel=>exact⟨j+1,by omega,by go_num,by go_num⟩
   case measure=>simp [intOf];omega
  ·have e:j=n:=by omega
   subst e
   clear hc
   go_wp2
   go_ret
   exact⟨rfl,rfl⟩
theorem zoh (w:Xe) (v:Xf) (n:Nat) (k:Int) (h:Byt w v (zaX k n)) (hs:n<=16777216) (h0:0<=k) (h1:k<=1000000000) :
  Calls Tryz.prog 12 #[v,.int .i64 k] w fun e w'=>e=.returned (.int .i64 (k+n))∧w'=w:=by
 obtain⟨_,_,⟨rfl,hn⟩ | ⟨x,cap,rfl,hc,hn⟩ | ⟨b,off,cap,rfl,_,_,_,_,h5⟩⟩:=h
 ·have e:n=0:=by have:=congrArg List.length hn;rw [zcW]at this;exact this
  subst e
  refine (zjq w none 0 k).mono ?_
  rintro e w' ⟨rfl,rfl⟩
  exact⟨by simp,rfl⟩
 ·have e:n=0:=by have:=congrArg List.length hn;rw [zcW]at this;exact this
  subst e
  refine (zjq w (some x) cap k).mono ?_
  rintro e w' ⟨rfl,rfl⟩
  exact⟨by simp,rfl⟩
 ·rw [zcW]at h5 ⊢
  exact zpu w b off cap n k h5 hs h0 h1
theorem zaU {w:Xe} {base g n cap size:Nat} {e:Xg} {Cs:List (Xd)} (h:w.ownsRow base e size (.slice (some ⟨g,0,none⟩) n cap) n Cs.flatten) (hC:∀i,i<Cs.length->(Cs.getD i []).length=size) (hl:Cs.length=n) (i j:Nat) (hi:i<n) (hj:j<size) :
  w.cell? ⟨g,i*size+j,none⟩=(Cs.getD i [])[j]? :=by
 have hlt:i*size+j<n*size:=by
  have:(i+1)*size<=n*size:=Nat.mul_le_mul_right _ hi
  rw [Nat.succ_mul]at this;omega
 rw [h.cellAt (i*size+j) hlt]
 exact zif Cs size hC i j (by omega) hj
theorem zda {a b:Xb} (h:(a++b).Nodup):∀g∈a,g∉b:=fun g ha hb=>by
 rw [List.nodup_append]at h
 exact h.2.2 g ha g hb rfl
theorem zbP:∀{Fs:List (Xb)} {i j:Nat},Fs.flatten.Nodup->i≠j->∀g∈Fs.getD i [],g∉Fs.getD j []
 | [],i,j,_,_,g,hg,_=>by simp at hg
 | F::Fs,i,j,h,hij,g,hg,hg'=>by
  rw [List.flatten_cons]at h
  have h2:=List.nodup_append.1 h
  cases i with
  | zero=>
   cases j with
   | zero=>exact hij rfl
   | succ j=>
    simp only [List.getD_cons_zero]at hg
    simp only [List.getD_cons_succ]at hg'
    exact h2.2.2 g hg g (zav hg') rfl
  | succ i=>
   cases j with
   | zero=>
    simp only [List.getD_cons_zero]at hg'
    simp only [List.getD_cons_succ]at hg
    exact h2.2.2 g hg' g (zav hg) rfl
   | succ j=>
    simp only [List.getD_cons_succ]at hg hg'
    exact zbP (i:=i) (j:=j) h2.2.1 (by omega) g hg hg'
theorem zdh:∀{Fs:List (Xb)} {i:Nat},Fs.flatten.Nodup->(Fs.getD i []).Nodup
 | [],i,_=>by simp
 | F::Fs,i,h=>by
  rw [List.flatten_cons]at h
  have h2:=List.nodup_append.1 h
  cases i with
  | zero=>simpa using h2.1
  | succ i=>simpa using zdh (i:=i) h2.2.1
theorem zbN {w w':Xe} {v:Xf} (h:w.grownBy w' v.ownBlock):Frm w w' (FB v):=Frm.ofGrown h
theorem zbA {w:Xe} {base:Nat} {e:Xg} {size n:Nat} {v:Xf} {xs:Xd} (h:w.ownsRow base e size v n xs):∃a cap,v=.slice a n cap:=by
 rcases h.2 with ⟨rfl,rfl⟩ | ⟨g,cap,cur,rfl,_⟩
 ·exact⟨_,_,rfl⟩
 ·exact⟨_,_,rfl⟩
theorem zkm (size:Nat) (D:Xd) (hD:D.length=size) (i:Nat) (hi:i<size) (v:Xf):∀(Ds:List (Xd)) (j:Nat),(∀i,i<Ds.length->(Ds.getD i []).length=size)->j<Ds.length->(Ds.set j (D.set i v)).flatten=(Ds.set j D).flatten.set (j*size+i) v
 | [],j,_,hj=>by simp at hj
 | C::Ds,0,_,_=>by
  simp only [List.set_cons_zero,List.flatten_cons,Nat.zero_mul,Nat.zero_add]
  rw [List.set_append_left _ _ (by omega)]
 | C::Ds,j+1,h,hj=>by
  have h0:C.length=size:=by simpa using h 0 (by simp)
  have e:(j+1)*size+i=C.length+(j*size+i):=by rw [h0,Nat.succ_mul];omega
  rw [List.set_cons_succ,List.set_cons_succ,List.flatten_cons,List.flatten_cons,e,List.set_append_right _ _ (by omega),Nat.add_sub_cancel_left]
  rw [zkm size D hD i hi v Ds j (fun k hk=>by simpa using h (k+1) (by simpa using hk)) (by simpa using hj)]
structure RowJ (w:Xe) (T:Xg) (size g n cap:Nat) (Ds:List (Xd)) (j:Nat) (D:Xd):Prop where
 lenD:D.length=size
 lenDs:Ds.length=n
 lens:∀i,i<Ds.length->(Ds.getD i []).length=size
 lt:j<n
 row:w.ownsRow 0 T size (.slice (some ⟨g,0,none⟩) n cap) n (Ds.set j D).flatten
theorem zbH {α:Type} (Ds:List (List α)) (j:Nat) (D:List α) (h:j<Ds.length):(Ds.set j D).getD j []=D:=by
 simp [List.getD_eq_getElem?_getD,h]
theorem zbw {α:Type} (Ds:List (List α)) (i j:Nat) (D:List α) (h:i≠j):(Ds.set j D).getD i []=Ds.getD i []:=by
 simp [List.getD_eq_getElem?_getD,Ne.symm h]
theorem RowJ.lens' {w:Xe} {T:Xg} {size g n cap:Nat} {Ds:List (Xd)} {j:Nat} {D:Xd} (h:RowJ w T size g n cap Ds j D):∀i,i<(Ds.set j D).length->((Ds.set j D).getD i []).length=size:=fun i hi=>by
 by_cases e:i=j
 ·subst e;rw [zbH _ _ _ (by rw [h.lenDs];exact h.lt)];exact h.lenD
 ·rw [zbw _ _ _ _ e];exact h.lens i (by simpa using hi)
theorem RowJ.cell {w:Xe} {T:Xg} {size g n cap:Nat} {Ds:List (Xd)} {j:Nat} {D:Xd} (h:RowJ w T size g n cap Ds j D) (i:Nat) (hi:i<size):w.cell? ⟨g,j*size+i,none⟩=D[i]? :=by
 have:=zaU h.row h.lens' (by simp [h.lenDs]) j i h.lt hi
 rw [zbH _ _ _ (by rw [h.lenDs];exact h.lt)]at this
 exact this
theorem RowJ.put {w:Xe} {T:Xg} {size g n cap:Nat} {Ds:List (Xd)} {j:Nat} {D:Xd} (h:RowJ w T size g n cap Ds j D) (i:Nat) (hi:i<size) (v:Xf):RowJ (w.setCell ⟨g,j*size+i,none⟩ v) T size g n cap Ds j (D.set i v):=
 ⟨by rw [List.length_set];exact h.lenD,h.lenDs,h.lens,h.lt,by
  rw [zkm size D h.lenD i hi v Ds j h.lens (by rw [h.lenDs];exact h.lt)]
  exact (h.row.stored (j*size+i) v).1⟩
theorem RowJ.frozen {w:Xe} {T:Xg} {size g n cap:Nat} {Ds:List (Xd)} {j:Nat} {D:Xd} (h:RowJ w T size g n cap Ds j D) (i:Nat):w.frozen? ⟨g,i,none⟩=false:=h.row.frozenAt i
theorem RowJ.frm {w w':Xe} {T:Xg} {size g n cap:Nat} {Ds:List (Xd)} {j:Nat} {D:Xd} {S:Xb} (h:RowJ w T size g n cap Ds j D) (f:Frm w w' S) (hg:g∉S):RowJ w' T size g n cap Ds j D:=
 ⟨h.lenD,h.lenDs,h.lens,h.lt,zap h.row f (fun p hp=>by
  have:p=g:=by simpa [FB,Value.ownBlock]using hp
  rw [this];exact hg)⟩
theorem RowJ.start {w:Xe} {T:Xg} {size g n cap:Nat} {Ds:List (Xd)} (hl:Ds.length=n) (h:∀i,i<Ds.length->(Ds.getD i []).length=size) (j:Nat) (hj:j<n) (hr:w.ownsRow 0 T size (.slice (some ⟨g,0,none⟩) n cap) n Ds.flatten):RowJ w T size g n cap Ds j (Ds.getD j []):=
 ⟨h j (by omega),hl,h,hj,by
  have e:Ds.set j (Ds.getD j [])=Ds:=by
   apply List.ext_getElem?
   intro i
   rw [List.getElem?_set]
   split
   ·rename_i e;subst e
    rw [if_pos (by omega),List.getD_eq_getElem?_getD,List.getElem?_eq_getElem (by omega)];rfl
   ·rfl
  rw [e];exact hr⟩
end Go.Proofs.YtlpnibbdmkeklaaGreatDoor
