/- Own texts joined: NameB, KeyS, IdS, OpS, SzB, SzO, EqI, EqO, Eq, EqZ, EqJ, EqP, ToZ, ToO, PlT, KlM, FoM, PlF, SetP, Mark, MarkA, MarkM, MarkN, MarkT, SetQ, SdM, PjM, LesI, PjK, CpI, KdM, StM. -/
import Derived.Test.YtgjolijncmkkhaaGreatDoorJa
import Derived.Test.YtgjolijncmkkhaaGreatDoorJb
import Derived.Test.YtgjolijncmkkhaaGreatDoorJd
import Derived.Test.YtgjolijncmkkhaaGreatDoorJe
import Derived.Test.YtgjolijncmkkhaaGreatDoorJf
import Derived.Test.YtgjolijncmkkhaaGreatDoorJn
import Derived.Test.YtgjolijncmkkhaaGreatDoorChecked
import Derived.Deep.QuietTactic
import Derived.BigQuiet
import Derived.Deep.RegionHeld3
namespace Go.Proofs.YtgjolijncmkkhaaGreatDoor
open Go.RowKit
set_option linter.unusedVariables false
def zgt (_:Nat) (x:Int):Prop:=0<=x∧x<=999
def zfv (l:Xg):Prop:=1<=l.length∧l.length<=12∧l.getD (l.length-1) 0≠0∧zdy zgt l l.length
def keyB (l:Xg):Bool:=decide (1<=l.length) && (decide (l.length<=12) && (decide (l.getD (l.length-1) 0≠0) && allB (fun _ x=>decide (0<=x∧x<=999)) l))
theorem zqb (l:Xg):keyB l=true↔zfv l:=by
 unfold keyB zfv
 rw [Bool.and_eq_true,Bool.and_eq_true,Bool.and_eq_true,decide_eq_true_eq,decide_eq_true_eq,decide_eq_true_eq,zkB (p:=zgt) (fun i x=>by unfold zgt;rw [decide_eq_true_eq])]
def idB (n r:Int):Bool:=decide (0<=n) && (decide (n<=1000000) && (decide (0<=r) && (decide (r<8) || (decide (n=0) && decide (r<122)))))
def zkO (n r:Int):Bool:=decide (n=0) && decide (r=0)
structure OpV where
 kind:Int
 atN:Int
 atR:Int
 nodeN:Int
 nodeR:Int
 parN:Int
 parR:Int
 key:Xg
 elem:Int
 name:Xg
 text:Xg
 gone:Bool
def zAh (o:OpV):Bool:=if !zkO o.nodeN o.nodeR || (!idB o.parN o.parR || (!keyB o.key || o.gone)) then false else if o.elem == 1 then (o.name.length:Int) == 0 else o.elem == 0 && (zje o.name && (o.text.length:Int) == 0)
def zyO (o:OpV):Bool:=idB o.nodeN o.nodeR && (idB o.parN o.parR && (keyB o.key && (o.elem == 0 && ((o.name.length:Int) == 0 && ((o.text.length:Int) == 0 && !o.gone)))))
def zyu (o:OpV):Bool:=if !idB o.nodeN o.nodeR || (!zkO o.parN o.parR || (decide (0<(o.key.length:Int)) || !(o.elem == 0))) then false else if o.kind == 2 then (o.name.length:Int) == 0 && !o.gone else zje o.name && (!o.gone || (o.text.length:Int) == 0)
def zzp (o:OpV):Bool:=decide (o.kind<0) || (decide (3<o.kind) || (decide (o.atN<1) || (decide (1000000<o.atN) || (decide (o.atR<0) || (decide (8<=o.atR) || !zlD o.text)))))
def opB (o:OpV):Bool:=if zzp o then false else if o.kind == 0 then zAh o else if o.kind == 1 then zyO o else zyu o
set_option maxRecDepth 100000
theorem OwnZ.frm {w w':Xk} {base:Nat} {v:Xl} {l:Xg} {S:Xh} (h:OwnZ w base v l) (f:Frm w w' S) (hd:∀g∈FB v,g∉S):OwnZ w' base v l:=⟨h.1,zeN h.2 f hd⟩
def zxO (p:PlV) (k n t a:Xl):Xl:=.agg #[.int .i64 p.idN,.int .i64 p.idR,.int .i64 p.parN,.int .i64 p.parR,k,.int .i64 p.kind,n,t,a]
def RdPlC (w:Xk) (C:Xj) (p:PlV):Prop:=∃k n t a,C=[.int .i64 p.idN,.int .i64 p.idR,.int .i64 p.parN,.int .i64 p.parR,k,.int .i64 p.kind,n,t,a]∧Ints w k p.key∧Byt w n p.name∧Byt w t p.text∧RdAttrs w a p.attrs
def RdPl (w:Xk) (v:Xl) (p:PlV):Prop:=∃k n t a,v=zxO p k n t a∧Ints w k p.key∧Byt w n p.name∧Byt w t p.text∧RdAttrs w a p.attrs
def RdPls (w:Xk) (v:Xl) (l:List PlV):Prop:=Elems w 9 v l (RdPlC w)
theorem RdPlC.keep {w w':Xk} {C:Xj} {p:PlV} (h:RdPlC w C p) (hb:Below w.heap.size w w'):RdPlC w' C p:=by
 obtain⟨k,n,t,a,e,h1,h2,h3,h4⟩:=h
 exact⟨k,n,t,a,e,h1.keep hb,h2.keep hb,h3.keep hb,h4.keep hb⟩
theorem RdPls.keep {w w':Xk} {v:Xl} {l:List PlV} (h:RdPls w v l) (hb:Below w.heap.size w w'):RdPls w' v l:=Elems.keep h hb (fun C x _ hr=>hr.keep hb)
theorem RdPls.cases {w:Xk} {v:Xl} {l:List PlV} (h:RdPls w v l):(l=[]∧∃a cap,v=.slice a 0 cap)∨∃b off cap,v=.slice (some ⟨b,off,none⟩) l.length cap∧l≠[]∧b<w.heap.size∧∀i (hi:i<l.length),∃C:Xj,C.length=9∧(∀j,j<9->w.cell? ⟨b,off+i*9+j,none⟩=C[j]?)∧RdPlC w C l[i]:=by
 obtain⟨_,⟨rfl,rfl⟩ | ⟨x,cap,rfl,hc,rfl⟩ | ⟨b,off,cap,rfl,g1,g2,g3,g4,g5⟩⟩:=h
 ·exact .inl ⟨rfl,none,0,rfl⟩
 ·exact .inl ⟨rfl,_,_,rfl⟩
 ·exact .inr ⟨b,off,cap,rfl,g3,g4,g5⟩
theorem zAi {w W:Xk} {b off i:Nat} {p:PlV} (hW:Below w.heap.size w W) (hb:b<w.heap.size) (h:∃C:Xj,C.length=9∧(∀j,j<9->w.cell? ⟨b,off+i*9+j,none⟩=C[j]?)∧RdPlC w C p) :
  ∃k ck n cn t ct a ca,W.cell? ⟨b,off+i*9,none⟩=some (.int .i64 p.idN)∧W.cell? ⟨b,off+i*9+1,none⟩=some (.int .i64 p.idR)∧W.cell? ⟨b,off+i*9+2,none⟩=some (.int .i64 p.parN)∧W.cell? ⟨b,off+i*9+3,none⟩=some (.int .i64 p.parR)∧W.cell? ⟨b,off+i*9+4,none⟩=some (.slice k p.key.length ck)∧W.cell? ⟨b,off+i*9+5,none⟩=some (.int .i64 p.kind)∧W.cell? ⟨b,off+i*9+6,none⟩=some (.slice n p.name.length cn)∧W.cell? ⟨b,off+i*9+7,none⟩=some (.slice t p.text.length ct)∧W.cell? ⟨b,off+i*9+8,none⟩=some (.slice a p.attrs.length ca)∧RdPl W (zxO p (.slice k p.key.length ck) (.slice n p.name.length cn) (.slice t p.text.length ct) (.slice a p.attrs.length ca)) p:=by
 obtain⟨C,_,hc,k,n,t,a,rfl,hk,hn,ht,ha⟩:=h
 obtain⟨a1,c1,rfl,_,_⟩:=hk.shape
 obtain⟨a2,c2,rfl,_,_⟩:=hn.shape
 obtain⟨a3,c3,rfl,_,_⟩:=ht.shape
 obtain⟨a4,c4,rfl,_,_⟩:=Elems.shape ha
 have cc:∀j,j<9->W.cell? ⟨b,off+i*9+j,none⟩=w.cell? ⟨b,off+i*9+j,none⟩:=fun j hj=>hW.cell (p:=⟨b,off+i*9+j,none⟩) hb
 exact⟨a1,c1,a2,c2,a3,c3,a4,c4,(cc 0 (by omega)).trans (hc 0 (by omega)),(cc 1 (by omega)).trans (hc 1 (by omega)),(cc 2 (by omega)).trans (hc 2 (by omega)),(cc 3 (by omega)).trans (hc 3 (by omega)),(cc 4 (by omega)).trans (hc 4 (by omega)),(cc 5 (by omega)).trans (hc 5 (by omega)),(cc 6 (by omega)).trans (hc 6 (by omega)),(cc 7 (by omega)).trans (hc 7 (by omega)),(cc 8 (by omega)).trans (hc 8 (by omega)),_,_,_,_,rfl,hk.keep hW,hn.keep hW,ht.keep hW,ha.keep hW⟩
end Go.Proofs.YtgjolijncmkkhaaGreatDoor
namespace Go.Proofs.YtgjolijncmkkhaaGreatDoor
set_option linter.unusedVariables false
def klB:Xg->Xg->Bool
 | [],[]=>false
 | [],_::_=>true
 | _::_,[]=>false
 | x::a,y::b=>if x=y then klB a b else decide (x<y)
theorem zgf {l:Xg} {k:Nat} (h:k<l.length):l.drop k=l.getD k 0::l.drop (k+1):=by
 rw [List.drop_eq_getElem_cons h,zgM h]
theorem zzq (a:Xg):klB a a=false:=by
 induction a with
 | nil=>rfl
 | cons x a ih=>rw [klB,if_pos rfl,ih]
theorem zwV (a b:Xg):(klB a b && klB b a)=false:=by
 induction a generalizing b with
 | nil=>cases b<;>rfl
 | cons x a ih=>
  cases b with
  | nil=>rfl
  | cons y b=>
   by_cases e:x=y
   ·rw [klB,if_pos e,klB,if_pos e.symm];exact ih b
   ·rw [klB,if_neg e,klB,if_neg (fun h=>e h.symm)]
    by_cases h:x<y
    ·have:¬ y<x:=by omega
     simp [this]
    ·simp [h]
theorem zjF (a b:Xg):(klB a b || klB b a) = !decide (a=b):=by
 induction a generalizing b with
 | nil=>cases b<;>simp [klB]
 | cons x a ih=>
  cases b with
  | nil=>simp [klB]
  | cons y b=>
   by_cases e:x=y
   ·rw [klB,if_pos e,klB,if_pos e.symm,ih b];simp [e]
   ·rw [klB,if_neg e,klB,if_neg (fun h=>e h.symm)]
    have:x<y∨y<x:=by omega
    simp [e,this]
end Go.Proofs.YtgjolijncmkkhaaGreatDoor
namespace Go.Proofs.YtgjolijncmkkhaaGreatDoor
open Go.RowKit
set_option linter.unusedVariables false
abbrev IdV:=Int×Int
def PlV.id (p:PlV):IdV:=(p.idN,p.idR)
def PlV.par (p:PlV):IdV:=(p.parN,p.parR)
def OpV.at' (o:OpV):IdV:=(o.atN,o.atR)
def OpV.node (o:OpV):IdV:=(o.nodeN,o.nodeR)
def OpV.par (o:OpV):IdV:=(o.parN,o.parR)
def zaH:IdV:=(0,0)
def zaw:IdV:=(0,1)
def posP (l:List PlV) (i:IdV):Option Nat:=l.findIdx? (fun p=>decide (p.id=i))
theorem posP_some {l:List PlV} {i:IdV} {k:Nat}:posP l i=some k↔∃h:k<l.length,l[k].id=i∧∀j (hj:j<k),l[j].id≠i:=by
 unfold posP
 rw [List.findIdx?_eq_some_iff_getElem]
 simp
theorem posP_none {l:List PlV} {i:IdV}:posP l i=none↔∀p∈l,p.id≠i:=by
 unfold posP
 rw [List.findIdx?_eq_none_iff]
 simp
theorem zdg {l:List PlV} {i:IdV} {k:Nat} (h:posP l i=some k):∃p,l[k]? = some p∧p.id=i:=by
 obtain⟨h1,h2,_⟩:=posP_some.1 h
 exact⟨l[k],by simp [h1],h2⟩
theorem zdf {l:List PlV} (hu:(l.map PlV.id).Nodup) {k:Nat} {p:PlV} (hk:l[k]? = some p):posP l p.id=some k:=by
 obtain⟨Aa,rfl⟩:=List.getElem?_eq_some_iff.1 hk
 refine posP_some.2 ⟨Aa,rfl,fun j hj e=> ?_⟩
 have Ba:j<l.length:=by omega
 have:=(List.pairwise_iff_getElem.1 hu) j k (by simpa using Ba) (by simpa using Aa) hj
 simp at this
 exact this e
def zlq (p:PlV):Bool:=decide (p.kind=0)
def zaG (l:List PlV) (i:IdV):Bool:=match posP l i with
 | some k=>match l[k]? with
  | some p=>zlq p && !zaz p.name
  | none=>false
 | none=>false
def zdt (l:List PlV):Nat->IdV->IdV->Bool
 | 0,_,_=>true
 | f+1,i,b=>if i=b then true else match posP l i with
  | none=>false
  | some k=>if k<2 then false else match l[k]? with
   | some p=>zdt l f p.par b
   | none=>false
def zaK (l:List PlV):Nat->IdV->IdV->Bool
 | 0,_,_=>false
 | f+1,i,b=>if i=b then true else if i=zaH∨i=zaw then false else match posP l i with
  | none=>false
  | some k=>match l[k]? with
   | some p=>zaK l f p.par b
   | none=>false
def setA (n t:Xg):Bool->List (Xg×Xg)->List (Xg×Xg)
 | put,[]=>if put then [] else [(n,t)]
 | put,a::r=>(if !put && !klB a.1 n then [(n,t)] else [])++(if a.1=n then [] else [a])++setA n t (put || !klB a.1 n) r
def zwp (l:List (Xg×Xg)) (o:OpV):List (Xg×Xg):=if (setA o.name o.text o.gone l).length<=4 then setA o.name o.text o.gone l else l
def newP (o:OpV):PlV:=⟨o.atN,o.atR,o.parN,o.parR,o.key,o.elem,o.name,o.text,[]⟩
def zAx (o:OpV) (p:PlV):PlV:={ p with parN:=o.parN,parR:=o.parR,key:=o.key }
def zAt (o:OpV) (p:PlV):PlV:={ p with text:=o.text }
def zAo (o:OpV) (p:PlV):PlV:={ p with attrs:=zwp p.attrs o }
def zzm (l:List PlV) (o:OpV) (k:Nat):Bool:=decide (2<=k) && zaG l o.par && !zdt l (l.length+1) o.par o.node
def doV (l:List PlV) (o:OpV):List PlV:=
 if o.kind=0 then (if zaG l o.par then l++[newP o] else l)
 else match posP l o.node with
  | none=>l
  | some k=>match l[k]? with
   | none=>l
   | some p=>
    if o.kind=1 then (if zzm l o k then l.set k (zAx o p) else l)
    else if o.kind=2 then (if 2<=k∧p.kind=1 then l.set k (zAt o p) else l)
    else (if k≠1∧p.kind=0 then l.set k (zAo o p) else l)
def zau:(n:Nat)->IdV->List (Tr n)->List PlV->List PlV
 | 0,_,_,acc=>acc
 | n+1,i,ks,acc=>ks.zipIdx.foldl (fun (a:List PlV) (x:Nd (Tr n)×Nat)=>zau n (0,(a.length:Int)) x.1.kids (a++[⟨0,a.length,i.1,i.2,[(x.2:Int)+1],x.1.kind,x.1.name,x.1.text,x.1.attrs⟩])) acc
def zpd:Xg:=[116,114,97,115,104]
def zde:PlV:=⟨0,1,0,0,[],0,zpd,[],[]⟩
structure Fr (l:List PlV):Prop where
 two:2<=l.length
 root:∀p,l[0]? = some p->p.id=zaH
 trash:∀p,l[1]? = some p->p.id=zaw
 uniq:(l.map PlV.id).Nodup
 par:∀i p,2<=i->l[i]? = some p->∃j,posP l p.par=some j
 rank:∃rk:IdV->Nat,∀i p,2<=i->l[i]? = some p->rk p.par<rk p.id
theorem zmM {α:Type} (p q:α->Bool):∀(l:List α),(∀x∈l,p x=true->q x=true)->(∃x∈l,q x=true∧p x=false)->l.countP p<l.countP q
 | [],_,⟨x,hx,_⟩=>by cases hx
 | a::r,h,⟨x,hx,hq,hp⟩=>by
  have Aa:r.countP p<=r.countP q:=List.countP_mono_left (fun y hy=>h y (List.mem_cons_of_mem _ hy))
  rw [List.countP_cons,List.countP_cons]
  rcases List.mem_cons.1 hx with rfl | hx
  ·simp only [hp,hq];simp;omega
  ·have:=zmM p q r (fun y hy=>h y (List.mem_cons_of_mem _ hy)) ⟨x,hx,hq,hp⟩
   have h1:=h a (List.mem_cons_self ..)
   by_cases e:p a=true
   ·rw [h1 e,e];simp;omega
   ·simp only [e];simp;omega
def cntR (l:List PlV) (rk:IdV->Nat) (r:Nat):Nat:=(l.drop 2).countP (fun p=>decide (rk p.id<=r))
theorem ztZ {l:List PlV} {k:Nat} {p:PlV} (hk:2<=k) (h:l[k]? = some p):p∈l.drop 2:=by
 refine List.mem_of_getElem? (i:=k-2) ?_
 rw [List.getElem?_drop]
 rw [show 2+(k-2)=k by omega]
 exact h
theorem zyv {l:List PlV} {rk:IdV->Nat} (hr:∀i p,2<=i->l[i]? = some p->rk p.par<rk p.id) {k:Nat} {p:PlV} (hk:2<=k) (h:l[k]? = some p):cntR l rk (rk p.par)<cntR l rk (rk p.id):=by
 have:=hr k p hk h
 exact zmM _ _ _ (fun x _ hx=>by simp at hx ⊢;omega) ⟨p,ztZ hk h,by simp,by simp;omega⟩
theorem zyt (l:List PlV) (rk:IdV->Nat) (r:Nat):cntR l rk r<=l.length-2:=by
 unfold cntR
 have:=List.countP_le_length (p:=fun p:PlV=>decide (rk p.id<=r)) (l:=l.drop 2)
 simpa using this
theorem Fr.low {l:List PlV} (h:Fr l) {i:IdV} {k:Nat} (hk:posP l i=some k):k<2↔i=zaH∨i=zaw:=by
 obtain⟨p,hp,rfl⟩:=zdg hk
 have h2:=h.two
 obtain⟨p0,h0⟩:∃p0,l[0]? = some p0:=⟨l[0],by simp [show 0<l.length by omega]⟩
 obtain⟨p1,h1⟩:∃p1,l[1]? = some p1:=⟨l[1],by simp [show 1<l.length by omega]⟩
 constructor
 ·intro Aa
  match k,Aa with
  | 0,_=>exact .inl (h.root p hp)
  | 1,_=>exact .inr (h.trash p hp)
 ·rintro (e | e)
  ·have:=zdf h.uniq h0
   rw [h.root p0 h0,<-e,hk]at this
   cases this;decide
  ·have:=zdf h.uniq h1
   rw [h.trash p1 h1,<-e,hk]at this
   cases this;decide
theorem zim {l:List PlV} (h:Fr l) (b:IdV) {rk:IdV->Nat} (hr:∀i p,2<=i->l[i]? = some p->rk p.par<rk p.id):∀(f1 f2:Nat) (i:IdV) (k:Nat),posP l i=some k->cntR l rk (rk i)<f1->cntR l rk (rk i)<f2->zdt l f1 i b=zaK l f2 i b
 | 0,_,_,_,_,h1,_=>by omega
 | f1+1,0,_,_,_,_,h2=>by omega
 | f1+1,f2+1,i,k,hk,h1,h2=>by
  unfold zdt zaK
  by_cases e:i=b
  ·simp [e]
  ·simp only [e,if_false,hk]
   by_cases hlt:k<2
   ·have:=(h.low hk).1 hlt
    simp [hlt,this]
   ·have hn:¬ (i=zaH∨i=zaw):=fun e=>hlt ((h.low hk).2 e)
    obtain⟨p,hp,rfl⟩:=zdg hk
    simp only [hlt,hn,if_false,hp]
    obtain⟨j,hj⟩:=h.par k p (by omega) hp
    have:=zyv hr (by omega) hp
    exact zim h b hr f1 f2 p.par j hj (by omega) (by omega)
theorem Fr.under {l:List PlV} (h:Fr l) (i b:IdV) (k:Nat) (hk:posP l i=some k):zdt l (l.length+1) i b=zaK l l.length i b:=by
 obtain⟨rk,hr⟩:=h.rank
 have h1:=zyt l rk (rk i)
 have h2:=h.two
 exact zim h b hr _ _ i k hk (by omega) (by omega)
set_option maxRecDepth 100000
def IntsF (w0 w:Xk) (v:Xl) (l:Xg) (F:Xh):Prop:=(Ints w0 v l∧F=[])∨(OwnZ w 0 v l∧F=FB v)
def BytF (w0 w:Xk) (v:Xl) (l:Xg) (F:Xh):Prop:=(Byt w0 v l∧F=[])∨(RowM w 0 v l∧F=FB v)
def zAn (w0:Xk) (C:Xj) (x:Xg×Xg) (G:Xh):Prop:=∃a b,C=[a,b]∧Byt w0 a x.1∧Byt w0 b x.2∧G=[]
def AttrsF (w0 w:Xk) (v:Xl) (l:List (Xg×Xg)) (F:Xh):Prop:=(RdAttrs w0 v l∧F=[])∨OwElems w 132 2 v l (zAn w0) F
def PlF (w0 w:Xk) (C:Xj) (p:PlV) (F:Xh):Prop:=∃k n t a F1 F2 F3,C=[.int .i64 p.idN,.int .i64 p.idR,.int .i64 p.parN,.int .i64 p.parR,k,.int .i64 p.kind,n,t,a]∧IntsF w0 w k p.key F1∧BytF w0 w n p.name F2∧Byt w0 t p.text∧AttrsF w0 w a p.attrs F3∧F=F1++F2++F3
def PlsF (w0 w:Xk) (v:Xl) (l:List PlV) (F:Xh):Prop:=OwElems w 146 9 v l (PlF w0 w) F
theorem IntsF.frm {w0 w w':Xk} {v:Xl} {l:Xg} {F S:Xh} (h:IntsF w0 w v l F) (f:Frm w w' S) (hd:∀g∈F,g∉S):IntsF w0 w' v l F:=by
 rcases h with h | ⟨h,rfl⟩
 ·exact .inl h
 ·exact .inr ⟨h.frm f hd,rfl⟩
theorem BytF.frm {w0 w w':Xk} {v:Xl} {l:Xg} {F S:Xh} (h:BytF w0 w v l F) (f:Frm w w' S) (hd:∀g∈F,g∉S):BytF w0 w' v l F:=by
 rcases h with h | ⟨h,rfl⟩
 ·exact .inl h
 ·exact .inr ⟨h.frm f hd,rfl⟩
theorem AttrsF.frm {w0 w w':Xk} {v:Xl} {l:List (Xg×Xg)} {F S:Xh} (h:AttrsF w0 w v l F) (f:Frm w w' S) (hd:∀g∈F,g∉S):AttrsF w0 w' v l F:=by
 rcases h with h | h
 ·exact .inl h
 ·exact .inr (OwElems.frm h f hd (fun C x G hr hG=>hr))
theorem PlF.frm {w0 w w':Xk} {C:Xj} {p:PlV} {F S:Xh} (h:PlF w0 w C p F) (f:Frm w w' S) (hd:∀g∈F,g∉S):PlF w0 w' C p F:=by
 obtain⟨k,n,t,a,F1,F2,F3,e,h1,h2,h3,h4,rfl⟩:=h
 exact⟨k,n,t,a,F1,F2,F3,e,h1.frm f (fun g hg=>hd g (by simp [hg])),h2.frm f (fun g hg=>hd g (by simp [hg])),h3,h4.frm f (fun g hg=>hd g (by simp [hg])),rfl⟩
def StB (w0 w:Xk) (sb:Nat) (a:Xi) (c:Nat) (l:List PlV) (F:Xh):Prop:=Loc w sb #[.slice a l.length c] 107∧PlsF w0 w (.slice a l.length c) l F∧F.Nodup∧(∀q∈F,w0.heap.size<=q∧q<w.heap.size∧q≠sb)∧w0.heap.size<=sb∧Below w0.heap.size w0 w
theorem zfT {Fs:List (Xh)} {G:Xh} {i q:Nat} (h:q∈(Fs.set i G).flatten):q∈Fs.flatten∨q∈G:=by
 obtain⟨F,hF,hq⟩:=List.mem_flatten.1 h
 rcases List.mem_or_eq_of_mem_set hF with hF | rfl
 ·exact .inl (List.mem_flatten.2 ⟨F,hF,hq⟩)
 ·exact .inr hq
theorem zgQ:∀{Fs:List (Xh)} {G:Xh} {i:Nat},Fs.flatten.Nodup->G.Nodup->(∀q∈G,q∈Fs.getD i []∨q∉Fs.flatten)->(Fs.set i G).flatten.Nodup
 | [],_,_,_,_,_=>by simp
 | F::Fs,G,0,h,hG,hd=>by
  rw [List.flatten_cons]at h
  have h':=List.nodup_append.1 h
  rw [List.set_cons_zero,List.flatten_cons]
  refine List.nodup_append.2 ⟨hG,h'.2.1,fun a ha b hb e=> ?_⟩
  subst e
  rcases hd a ha with h1 | h1
  ·exact h'.2.2 a (by simpa using h1) a hb rfl
  ·exact h1 (by rw [List.flatten_cons];exact List.mem_append_right _ hb)
 | F::Fs,G,i+1,h,hG,hd=>by
  rw [List.flatten_cons]at h
  have h':=List.nodup_append.1 h
  rw [List.set_cons_succ,List.flatten_cons]
  refine List.nodup_append.2 ⟨h'.1,zgQ h'.2.1 hG (fun q hq=> ?_),fun a ha b hb e=> ?_⟩
  ·rcases hd q hq with h1 | h1
   ·exact .inl (by simpa using h1)
   ·exact .inr (fun Aa=>h1 (by rw [List.flatten_cons];exact List.mem_append_right _ Aa))
  ·subst e
   rcases zfT hb with hb | hb
   ·exact h'.2.2 a ha a hb rfl
   ·rcases hd a hb with h1 | h1
    ·exact h'.2.2 a ha a (zaT (by simpa using h1)) rfl
    ·exact h1 (by rw [List.flatten_cons];exact List.mem_append_left _ ha)
theorem PlsF.one {w0 w:Xk} {g cap:Nat} {l:List PlV} {F:Xh} (h:PlsF w0 w (.slice (some ⟨g,0,none⟩) l.length cap) l F) (hN:F.Nodup) (k:Nat) (hk:k<l.length) :
  ∃Cs C G,RowJ w 146 9 g l.length cap Cs k C∧PlF w0 w C l[k] G∧G.Nodup∧(∀q∈G,q∈F)∧g∈F∧g∉G∧
   ∀(w':Xk) (D:Xj) (p':PlV) (G':Xh),RowJ w' 146 9 g l.length cap Cs k D->Frm w w' [g]->PlF w0 w' D p' G'->G'.Nodup->(∀q∈G',q∈G∨q∉F)->
    ∃F',PlsF w0 w' (.slice (some ⟨g,0,none⟩) (l.set k p').length cap) (l.set k p') F'∧F'.Nodup∧∀q∈F',q∈F∨q∈G':=by
 obtain⟨Cs,Fs,e1,e2,e3,e4,rfl⟩:=h
 have hC:∀i,i<Cs.length->(Cs.getD i []).length=9:=fun i hi=>(e3 i (by omega)).1
 have Aa:g∉Fs.flatten:=fun hq=>(List.nodup_append.1 hN).2.2 g (by simp [FB,Value.ownBlock]) g hq rfl
 have Ba:=(List.nodup_append.1 hN).2.1
 refine⟨Cs,Cs.getD k [],Fs.getD k [],RowJ.start e1 hC k hk e4,(e3 k hk).2,zha Ba,fun q hq=>List.mem_append_right _ (zaT hq),by simp [FB,Value.ownBlock],fun hq=>Aa (zaT hq),?_⟩
 intro w' D p' G' hR f hp Ga Fa
 have Ha:g∉G':=fun hq=>by
  rcases Fa g hq with h1 | h1
  ·exact Aa (zaT h1)
  ·exact h1 (by simp [FB,Value.ownBlock])
 refine⟨FB (.slice (some ⟨g,0,none⟩) l.length cap)++(Fs.set k G').flatten,⟨Cs.set k D,Fs.set k G',by simp [e1],by simp [e2],fun i hi=> ?_,?_,?_⟩,?_,?_⟩
 ·have Da:i<l.length:=by simpa using hi
  by_cases e:i=k
  ·subst e
   rw [zeO _ _ _ (by omega),zeO _ _ _ (by omega),List.getElem_set_self]
   exact⟨hR.lenD,hp⟩
  ·rw [zgy _ _ _ _ e,zgy _ _ _ _ e,List.getElem_set_ne (Ne.symm e)]
   exact⟨(e3 i Da).1,(e3 i Da).2.frm f (fun q hq Ca=>by simp at Ca;subst Ca;exact Aa (zaT hq))⟩
 ·rw [List.length_set]
  exact hR.row
 ·rw [List.length_set]
 ·refine List.nodup_append.2 ⟨zbY _,zgQ Ba Ga (fun q hq=>(Fa q hq).imp id (fun h1 h2=>h1 (List.mem_append_right _ h2))),fun a ha b hb e=> ?_⟩
  have ea:a=g:=by simpa [FB,Value.ownBlock]using ha
  subst e
  subst ea
  rcases zfT hb with hb | hb
  ·exact Aa hb
  ·exact Ha hb
 ·intro q hq
  rcases List.mem_append.1 hq with hq | hq
  ·exact .inl (List.mem_append_left _ hq)
  ·rcases zfT hq with hq | hq
   ·exact .inl (List.mem_append_right _ hq)
   ·exact .inr hq
theorem OwAttr.frm {w w':Xk} {C:Xj} {x:Xg×Xg} {G S:Xh} (h:OwAttr w C x G) (f:Frm w w' S) (hd:∀g∈G,g∉S):OwAttr w' C x G:=by
 obtain⟨a,b,e,h1,h2,rfl⟩:=h
 exact⟨a,b,e,h1.frm f (fun g hg=>hd g (by simp [hg])),h2.frm f (fun g hg=>hd g (by simp [hg])),rfl⟩
theorem OwElems.lt {α:Type} {w:Xk} {e:Xm} {size:Nat} {v:Xl} {l:List α} {R:Xj->α->Xh->Prop} {F:Xh} (h:OwElems w e size v l R F) (hR:∀C x G,R C x G->∀g∈G,g<w.heap.size):∀g∈F,g<w.heap.size:=by
 obtain⟨Cs,Fs,h1,h2,h3,h4,rfl⟩:=h
 intro g hg
 rcases List.mem_append.1 hg with h | h
 ·exact (h4.lt g (by simpa [FB]using h)).2
 ·obtain⟨G,hG,Aa⟩:=List.mem_flatten.1 h
  obtain⟨i,hi,rfl⟩:=List.getElem_of_mem hG
  have:=(h3 i (by omega)).2
  rw [show Fs.getD i []=Fs[i] by simp [hi]]at this
  exact hR _ _ _ this g Aa
theorem OwAttr.lt {w:Xk} {C:Xj} {x:Xg×Xg} {G:Xh} (h:OwAttr w C x G):∀g∈G,g<w.heap.size:=by
 obtain⟨a,b,_,h1,h2,rfl⟩:=h
 intro g hg
 rcases List.mem_append.1 hg with h | h
 ·exact (h1.lt g (by simpa [FB]using h)).2
 ·exact (h2.lt g (by simpa [FB]using h)).2
theorem OwAttrs.lt {w:Xk} {v:Xl} {l:List (Xg×Xg)} {F:Xh} (h:OwAttrs w v l F):∀g∈F,g<w.heap.size:=OwElems.lt h (fun _ _ _ hr=>hr.lt)
theorem OwNode.lt:∀{n:Nat} {w:Xk} {C:Xj} {t:Tr n} {F:Xh},OwNode n w C t F->∀g∈F,g<w.heap.size
 | 0,_,_,t,_,_=>t.elim
 | n+1,w,C,t,F,⟨a,b,c,d,Fc,Fd,_,_,_,ha,hb,hc,hd,hF⟩=>by
  subst hF
  intro g hg
  rcases List.mem_append.1 hg with h | h
  ·rcases List.mem_append.1 h with h | h
   ·rcases List.mem_append.1 h with h | h
    ·exact (ha.lt g (by simpa [FB]using h)).2
    ·exact (hb.lt g (by simpa [FB]using h)).2
   ·exact hc.lt g h
  ·exact OwElems.lt hd (fun _ _ _ hr=>OwNode.lt hr) g h
theorem StB.one {w0 w:Xk} {sb b c:Nat} {l:List PlV} {F:Xh} (h:StB w0 w sb (some ⟨b,0,none⟩) c l F) {k:Nat} {p:PlV} (hk:l[k]? = some p) :
  ∃Cs C G,RowJ w 146 9 b l.length c Cs k C∧PlF w0 w C p G∧G.Nodup∧b∉G∧b<w.heap.size∧b≠sb∧
   ∀(w':Xk) (D:Xj) (p':PlV) (G':Xh),RowJ w' 146 9 b l.length c Cs k D->Frm w w' [b]->PlF w0 w' D p' G'->G'.Nodup->(∀q∈G',q∈G)->
    ∃F',StB w0 w' sb (some ⟨b,0,none⟩) c (l.set k p') F'∧∀q∈F',q∈F:=by
 obtain⟨h1,h2,h3,h4,h5,h6⟩:=h
 obtain⟨La,rfl⟩:=List.getElem?_eq_some_iff.1 hk
 obtain⟨Cs,C,G,hR,hP,Ja,Ca,Aa,Ia,Ga⟩:=h2.one h3 k La
 have Fa:=(h4 b Aa).2.1
 have Ha:=(h4 b Aa).2.2
 refine⟨Cs,C,G,hR,hP,Ja,Ia,Fa,Ha,fun w' D p' G' Ka f Da Ma Ba=> ?_⟩
 obtain⟨F',g1,g2,g3⟩:=Ga w' D p' G' Ka f Da Ma (fun q hq=>.inl (Ba q hq))
 have g4:∀q∈F',q∈F:=fun q hq=>(g3 q hq).elim id (fun h7=>Ca q (Ba q h7))
 have Na:=f.size
 refine⟨F',⟨?_,g1,g2,fun q hq=> ?_,h5,h6.trans (f.below h6.size (fun q hq=>by simp at hq;subst hq;exact (h4 q Aa).1))⟩,g4⟩
 ·rw [List.length_set]
  exact h1.frm f (by simp;omega)
 ·have:=h4 q (g4 q hq)
  exact⟨this.1,by omega,this.2.2⟩
theorem StB.text {w0 w:Xk} {sb b c:Nat} {l:List PlV} {F:Xh} (h:StB w0 w sb (some ⟨b,0,none⟩) c l F) {k:Nat} {p:PlV} (hk:l[k]? = some p) {v:Xl} {t:Xg} (hv:Byt w0 v t) :
  (∃F',StB w0 (w.setCell ⟨b,k*9+7,none⟩ v) sb (some ⟨b,0,none⟩) c (l.set k { p with text:=t }) F'∧∀q∈F',q∈F)∧Frm w (w.setCell ⟨b,k*9+7,none⟩ v) [b]:=by
 obtain⟨Cs,C,G,hR,hP,Ba,Aa,Da,Fa,Ca⟩:=h.one hk
 have f:=zal w b (k*9+7) v
 obtain⟨kv,n,t9,a,F1,F2,F3,eC,q1,q2,q3,q4,eG⟩:=hP.frm f (fun q hq e=>by simp at e;subst e;exact Aa hq)
 refine⟨Ca _ _ { p with text:=t } G (hR.put 7 (by decide) v) f ?_ Ba (fun q hq=>hq),f⟩
 subst eC
 exact⟨kv,n,v,a,F1,F2,F3,rfl,q1,q2,hv,q4,eG⟩
def zaB {n:Nat} (m:Nat) (i:IdV) (x:Nd (Tr n)) (j:Nat):PlV:=⟨0,m,i.1,i.2,[(j:Int)+1],x.kind,x.name,x.text,x.attrs⟩
def zaV (n:Nat) (i:IdV) (a:List PlV) (x:Nd (Tr n)×Nat):List PlV:=zau n (0,(a.length:Int)) x.1.kids (a++[zaB a.length i x.1 x.2])
def zaq (n:Nat) (i:IdV) (ks:List (Nd (Tr n))) (acc:List PlV) (j:Nat):List PlV:=(ks.zipIdx.take j).foldl (zaV n i) acc
theorem zkP (n:Nat) (i:IdV) (ks:List (Nd (Tr n))) (acc:List PlV):zau (n+1) i ks acc=ks.zipIdx.foldl (zaV n i) acc:=rfl
theorem zhs (n:Nat) (i:IdV) (ks:List (Nd (Tr n))) (acc:List PlV):zaq n i ks acc 0=acc:=rfl
theorem ziJ (n:Nat) (i:IdV) (ks:List (Nd (Tr n))) (acc:List PlV) {j:Nat} (h:ks.length<=j):zaq n i ks acc j=zau (n+1) i ks acc:=by
 rw [zkP,zaq,List.take_of_length_le (by simpa using h)]
theorem zfp (n:Nat) (i:IdV) (ks:List (Nd (Tr n))) (acc:List PlV) {j:Nat} (h:j<ks.length):zaq n i ks acc (j+1)=zaV n i (zaq n i ks acc j) (ks[j],j):=by
 have h':j<ks.zipIdx.length:=by simpa using h
 rw [zaq,List.take_succ_eq_append_getElem h',List.foldl_append]
 simp [zaq]
theorem zmj {α:Type} (f:List PlV->α->List PlV) (hf:∀a x,a.length<=(f a x).length):∀(l:List α) (a:List PlV),a.length<=(l.foldl f a).length
 | [],a=>Nat.le_refl _
 | x::r,a=>Nat.le_trans (hf a x) (zmj f hf r (f a x))
theorem zpQ:∀(n:Nat) (i:IdV) (ks:List (Tr n)) (acc:List PlV),acc.length<=(zau n i ks acc).length
 | 0,_,_,_=>Nat.le_refl _
 | n+1,i,ks,acc=>zmj (zaV n i) (fun a x=>Nat.le_trans (by simp) (zpQ n (0,(a.length:Int)) x.1.kids (a++[zaB a.length i x.1 x.2]))) (List.zipIdx (α:=Nd (Tr n)) ks) acc
theorem zhl (n:Nat) (i:IdV) (a:List PlV) (x:Nd (Tr n)×Nat):a.length+1<=(zaV n i a x).length:=Nat.le_trans (by simp) (zpQ n (0,(a.length:Int)) x.1.kids (a++[zaB a.length i x.1 x.2]))
theorem zwC (n:Nat) (i:IdV) (ks:List (Nd (Tr n))) (acc:List PlV) (j:Nat):(zaq n i ks acc j).length<=(zau (n+1) i ks acc).length:=by
 rw [zkP,zaq]
 conv=>rhs;rw [<-List.take_append_drop j ks.zipIdx,List.foldl_append]
 exact zmj _ (fun a x=>Nat.le_of_succ_le (zhl n i a x)) _ _
def SdR (w0 w:Xk) (sb:Nat) (F:Xh) (m:List PlV) (w':Xk):Prop:=∃a' c' F',StB w0 w' sb a' c' m F'∧Frm w w' (sb::F)∧∀q∈F',q∈F∨w.heap.size<=q
theorem Frm.moreS {a b c:Xk} {S S':Xh} (h:Frm a b S) (k:Frm b c S') (hs:∀q∈S',q∈S∨a.heap.size<=q):Frm a c S:=
 ⟨k.os.trans h.os,k.tape.trans h.tape,k.output.trans h.output,Nat.le_trans h.size k.size,fun i hi hn=>(k.block i (Nat.lt_of_lt_of_le hi h.size) (fun e=>(hs i e).elim hn (fun h'=>by omega))).trans (h.block i hi hn)⟩
theorem SdR.trans {w0 w w1 w2:Xk} {sb:Nat} {F F1:Xh} {m:List PlV} (f:Frm w w1 (sb::F)) (hF:∀q∈F1,q∈F∨w.heap.size<=q) (h:SdR w0 w1 sb F1 m w2):SdR w0 w sb F m w2:=by
 obtain⟨a',c',F',h1,h2,h3⟩:=h
 refine⟨a',c',F',h1,f.moreS h2 (fun q hq=> ?_),fun q hq=> ?_⟩
 ·rcases List.mem_cons.1 hq with rfl | hq
  ·exact .inl (List.mem_cons_self ..)
  ·exact (hF q hq).imp (fun h=>List.mem_cons_of_mem _ h) id
 ·rcases h3 q hq with h | h
  ·exact hF q h
  ·exact .inr (Nat.le_trans f.size h)
end Go.Proofs.YtgjolijncmkkhaaGreatDoor
namespace Go.Proofs.YtgjolijncmkkhaaGreatDoor
set_option linter.unusedVariables false
structure FrW (l:List PlV):Prop where
 two:2<=l.length
 root:∀p,l[0]? = some p->p.id=zaH
 trash:∀p,l[1]? = some p->p.id=zaw
 uniq:(l.map PlV.id).Nodup
 par:∀i p,2<=i->l[i]? = some p->∃j,posP l p.par=some j
theorem FrW.low {l:List PlV} (h:FrW l) {i:IdV} {k:Nat} (hk:posP l i=some k):k<2↔i=zaH∨i=zaw:=by
 obtain⟨p,hp,rfl⟩:=zdg hk
 have h2:=h.two
 obtain⟨p0,h0⟩:∃p0,l[0]? = some p0:=⟨l[0],by simp [show 0<l.length by omega]⟩
 obtain⟨p1,h1⟩:∃p1,l[1]? = some p1:=⟨l[1],by simp [show 1<l.length by omega]⟩
 constructor
 ·intro Aa
  match k,Aa with
  | 0,_=>exact .inl (h.root p hp)
  | 1,_=>exact .inr (h.trash p hp)
 ·rintro (e | e)
  ·have:=zdf h.uniq h0
   rw [h.root p0 h0,<-e,hk]at this
   cases this;decide
  ·have:=zdf h.uniq h1
   rw [h.trash p1 h1,<-e,hk]at this
   cases this;decide
theorem php:∀(n:Nat) (l:Xh),l.Nodup->(∀x∈l,x<n)->l.length<=n
 | 0,l,_,h=>by
  cases l with
  | nil=>simp
  | cons a r=>exact absurd (h a (List.mem_cons_self ..)) (by omega)
 | n+1,l,hn,h=>by
  by_cases e:n∈l
  ·have h1:=php n (l.erase n) (hn.erase n) (fun x hx=>by
    have h2:=h x (List.mem_of_mem_erase hx)
    have h3:x≠n:=fun e'=>by
     subst e'
     exact (List.Nodup.not_mem_erase hn) hx
    omega)
   rw [List.length_erase_of_mem e]at h1
   omega
  ·have h1:=php n l hn (fun x hx=>by
    have h2:=h x hx
    have h3:x≠n:=fun e'=>e (e' ▸ hx)
    omega)
   omega
theorem zyh (n:Nat) (f:Nat->Nat) (h:∀i,i<=n->f i<n):∃a b,a<b∧b<=n∧f a=f b:=by
 by_cases hd:((List.range (n+1)).map f).Nodup
 ·have:=php n _ hd (fun x hx=>by
   obtain⟨i,hi,rfl⟩:=List.mem_map.1 hx
   exact h i (by have:=List.mem_range.1 hi;omega))
  simp at this
  omega
 ·have Aa:¬ ∀i j (hi:i<((List.range (n+1)).map f).length) (hj:j<((List.range (n+1)).map f).length),i<j->((List.range (n+1)).map f)[i]≠((List.range (n+1)).map f)[j]:=fun h'=>hd (List.pairwise_iff_getElem.2 h')
  apply Classical.byContradiction
  intro hc
  apply Aa
  intro i j hi hj Ba e
  simp at hi hj e
  exact hc ⟨i,j,Ba,by omega,e⟩
def upP (l:List PlV) (i:Nat):Nat:=match l[i]? with
 | some p=>(posP l p.par).getD 0
 | none=>0
def upN (l:List PlV):Nat->Nat->Nat
 | 0,i=>i
 | m+1,i=>upN l m (upP l i)
theorem zjq (l:List PlV):∀(a b i:Nat),upN l (a+b) i=upN l b (upN l a i)
 | 0,b,i=>by simp [upN]
 | a+1,b,i=>by rw [show a+1+b=(a+b)+1 by omega,upN,upN,zjq l a b]
theorem zwT (l:List PlV) (m i:Nat):upN l (m+1) i=upP l (upN l m i):=by rw [zjq l m 1];rfl
theorem FrW.up {l:List PlV} (h:FrW l) {i:Nat} {p:PlV} (hi:2<=i) (hp:l[i]? = some p):posP l p.par=some (upP l i):=by
 obtain⟨j,hj⟩:=h.par i p hi hp
 unfold upP
 rw [hp]
 simp [hj]
theorem FrW.upLt {l:List PlV} (h:FrW l) (i:Nat):upP l i<l.length:=by
 have h2:=h.two
 unfold upP
 cases hp:l[i]? with
 | none=>simp;omega
 | some p=>
  simp only
  cases hq:posP l p.par with
  | none=>simp;omega
  | some k=>simp;exact (posP_some.1 hq).1
theorem ziE {l:List PlV} (h:FrW l) {b:Nat} {q:PlV} (hq:l[b]? = some q):∀(m i f:Nat) (p:PlV),l[i]? = some p->(∀j,j<m->2<=upN l j i)->upN l m i=b->m<f->zaK l f p.id q.id=true
 | 0,i,f,p,hp,_,he,hf=>by
  obtain⟨f',rfl⟩:∃f',f=f' + 1:=⟨f-1,by omega⟩
  have e:i=b:=he
  subst e
  rw [hp]at hq
  cases hq
  unfold zaK
  rw [if_pos rfl]
 | m+1,i,f,p,hp,hj,he,hf=>by
  obtain⟨f',rfl⟩:∃f',f=f' + 1:=⟨f-1,by omega⟩
  have hi:2<=i:=hj 0 (by omega)
  have hk:=zdf h.uniq hp
  have hn:¬ (p.id=zaH∨p.id=zaw):=fun e=>by have:=(h.low hk).2 e;omega
  have hu:=h.up hi hp
  obtain⟨r,hr,er⟩:=zdg hu
  have ih:=ziE h hq m (upP l i) f' r hr (fun j Aa=>hj (j+1) (by omega)) he (by omega)
  by_cases e:p.id=q.id
  ·unfold zaK
   rw [if_pos e]
  ·unfold zaK
   rw [if_neg e,if_neg hn,hk]
   simp only [hp]
   rw [<-er]
   exact ih
theorem FrW.tops {l:List PlV} (h:FrW l) (hc:∀i p,2<=i->l[i]? = some p->zaK l l.length p.par p.id=false) (i:Nat) (hi:i<l.length):∃m,m<=l.length∧upN l m i<2:=by
 apply Classical.byContradiction
 intro Ca
 have Aa:∀m,m<=l.length->2<=upN l m i:=fun m hm=>by
  rcases Nat.lt_or_ge (upN l m i) 2 with h' | h'
  ·exact absurd ⟨m,hm,h'⟩ Ca
  ·exact h'
 have Ba:∀m,m<=l.length->upN l m i<l.length:=fun m hm=>by
  cases m with
  | zero=>exact hi
  | succ m=>rw [zwT];exact h.upLt _
 obtain⟨a,b,Fa,hb,e⟩:=zyh l.length (fun m=>upN l m i) Ba
 have e:upN l a i=upN l b i:=e
 have Da:=Ba a (by omega)
 obtain⟨q,hq⟩:∃q,l[upN l a i]? = some q:=⟨l[upN l a i],by simp [Da]⟩
 have h2:=Aa a (by omega)
 have hu:=h.up h2 hq
 obtain⟨r,hr,er⟩:=zdg hu
 have hm:upN l (b-a-1) (upP l (upN l a i))=upN l a i:=by
  have h3:=zjq l a (b-a) i
  rw [show a+(b-a)=b by omega]at h3
  rw [show b-a=(b-a-1)+1 by omega,upN]at h3
  rw [<-h3,<-e]
 have:=ziE h hq (b-a-1) (upP l (upN l a i)) l.length r hr (fun j hj=>by
  have h3:=zjq l a (j+1) i
  rw [upN]at h3
  rw [<-h3]
  exact Aa _ (by omega)) hm (by omega)
 rw [er,hc _ q h2 hq]at this
 cases this
def depP (l:List PlV):Nat->Nat->Nat
 | 0,_=>0
 | f+1,i=>if i<2 then 0 else 1+depP l f (upP l i)
theorem zmY {l:List PlV}:∀(m f f' i:Nat),upN l m i<2->m<=f->m<=f'->depP l f i=depP l f' i
 | 0,f,f',i,h,_,_=>by
  have h:i<2:=h
  have:∀f,depP l f i=0:=fun f=>by
   cases f with
   | zero=>rfl
   | succ f=>unfold depP;rw [if_pos h]
  rw [this,this]
 | m+1,f,f',i,h,h1,h2=>by
  obtain⟨g,rfl⟩:∃g,f=g+1:=⟨f-1,by omega⟩
  obtain⟨g',rfl⟩:∃g',f'=g' + 1:=⟨f' - 1,by omega⟩
  unfold depP
  by_cases hi:i<2
  ·rw [if_pos hi,if_pos hi]
  ·rw [if_neg hi,if_neg hi,zmY m g g' (upP l i) h (by omega) (by omega)]
theorem FrW.fr {l:List PlV} (h:FrW l) (hc:∀i p,2<=i->l[i]? = some p->zaK l l.length p.par p.id=false):Fr l:=by
 refine⟨h.two,h.root,h.trash,h.uniq,h.par,fun i=>depP l l.length ((posP l i).getD 0),fun i p hi hp=> ?_⟩
 have Ba:i<l.length:=(List.getElem?_eq_some_iff.1 hp).1
 simp only [zdf h.uniq hp,h.up hi hp,Option.getD_some]
 obtain⟨m,hm,ht⟩:=h.tops hc i Ba
 obtain⟨m',rfl⟩:∃m',m=m' + 1:=⟨m-1,by
  rcases Nat.eq_zero_or_pos m with e | e
  ·subst e
   have:i<2:=ht
   omega
  ·omega⟩
 have Aa:upN l m' (upP l i)<2:=ht
 obtain⟨n,hn⟩:∃n,l.length=n+1:=⟨l.length-1,by omega⟩
 have e1:depP l l.length i=1+depP l n (upP l i):=by
  rw [hn]
  conv=>lhs;unfold depP
  rw [if_neg (by omega)]
 rw [e1,zmY m' n l.length (upP l i) Aa (by omega) (by omega)]
 omega
theorem FrW.within_under {l:List PlV} (h:FrW l) (b:IdV):∀(f g:Nat) (i:IdV) (k:Nat),posP l i=some k->f<=g->zaK l f i b=true->zdt l g i b=true
 | 0,_,_,_,_,_,h'=>by unfold zaK at h';cases h'
 | f+1,0,_,_,_,h1,_=>by omega
 | f+1,g+1,i,k,hk,h1,h'=>by
  unfold zaK at h'
  unfold zdt
  by_cases e:i=b
  ·rw [if_pos e]
  ·rw [if_neg e]at h' ⊢
   by_cases hn:i=zaH∨i=zaw
   ·rw [if_pos hn]at h';cases h'
   ·rw [if_neg hn]at h'
    have Aa:¬ k<2:=fun e'=>hn ((h.low hk).1 e')
    obtain⟨p,hp,rfl⟩:=zdg hk
    obtain⟨j,hj⟩:=h.par k p (by omega) hp
    simp only [hk,hp]at h' ⊢
    rw [if_neg Aa]
    exact FrW.within_under h b f g p.par j hj (by omega) h'
theorem FrW.free {l:List PlV} (h:FrW l):(∀i p,2<=i->l[i]? = some p->zaK l l.length p.par p.id=false)↔(∀i p,2<=i->l[i]? = some p->zdt l (l.length+1) p.par p.id=false):=by
 constructor
 ·intro hc i p hi hp
  rw [(h.fr hc).under _ _ _ (h.up hi hp)]
  exact hc i p hi hp
 ·intro hc i p hi hp
  have h1:=hc i p hi hp
  rw [Bool.eq_false_iff]
  intro h2
  rw [h.within_under p.id l.length (l.length+1) p.par _ (h.up hi hp) (by omega) h2]at h1
  cases h1
end Go.Proofs.YtgjolijncmkkhaaGreatDoor
namespace Go.Proofs.YtgjolijncmkkhaaGreatDoor
open Go.RowKit
set_option linter.unusedVariables false
set_option maxRecDepth 100000
def zbH (n r n' r':Int):Bool:=decide (n<n') || (n == n' && decide (r<r'))
theorem Loc.two {w:Xk} {g:Nat} {v0 v1:Xl} {T:Xm} (h:Loc w g #[v0,v1] T):w.cell? ⟨g,0,none⟩=some v0∧w.cell? ⟨g,1,none⟩=some v1:=⟨h.cell 0,h.cell 1⟩
def ordI (n r n' r':Int):Int:=if n=n'∧r=r' then 0 else if zbH n r n' r' then -1 else 1
theorem zyK (n r n' r':Int):decide (ordI n r n' r' < 0)=zbH n r n' r':=by
 unfold ordI
 split
 ·rename_i h
  obtain⟨rfl,rfl⟩:=h
  unfold zbH
  simp
 ·split<;>simp [*]
end Go.Proofs.YtgjolijncmkkhaaGreatDoor
namespace Go.Proofs.YtgjolijncmkkhaaGreatDoor
set_option linter.unusedVariables false
theorem zpR:∀{a b c:Xg},klB a b=true->klB b c=true->klB a c=true
 | [],[],_,h,_=>by cases h
 | [],_::_,[],_,h=>by cases h
 | [],_::_,_::_,_,_=>rfl
 | _::_,[],_,h,_=>by cases h
 | _::_,_::_,[],_,h=>by cases h
 | x::a,y::b,z::c,h,k=>by
  rw [klB]at h k ⊢
  by_cases e1:x=y
  ·rw [if_pos e1]at h
   by_cases e2:y=z
   ·rw [if_pos e2]at k
    rw [if_pos (e1.trans e2)]
    exact zpR h k
   ·rw [if_neg e2]at k
    rw [if_neg (by rw [e1];exact e2),e1]
    exact k
  ·rw [if_neg e1]at h
   have h:=of_decide_eq_true h
   by_cases e2:y=z
   ·rw [<-e2,if_neg e1]
    exact decide_eq_true h
   ·rw [if_neg e2]at k
    have k:=of_decide_eq_true k
    rw [if_neg (by omega)]
    exact decide_eq_true (by omega)
def zaJ (a b:PlV):Bool:=klB a.key b.key || (!klB b.key a.key && zbH a.idN a.idR b.idN b.idR)
theorem zgd (a b:PlV):zaJ a b=true↔klB a.key b.key=true∨(a.key=b.key∧zbH a.idN a.idR b.idN b.idR=true):=by
 have h1:=zjF a.key b.key
 have h2:=zwV a.key b.key
 unfold zaJ
 cases e1:klB a.key b.key
 ·cases e2:klB b.key a.key
  ·rw [e1,e2]at h1
   have h3:a.key=b.key:=by simpa using h1
   simp [h3]
  ·rw [e1,e2]at h1
   have h3:a.key≠b.key:=by simpa using h1
   simp [h3]
 ·simp
theorem zno (a:PlV):zaJ a a=false:=by
 rw [Bool.eq_false_iff]
 intro h
 rcases (zgd a a).1 h with h | ⟨_,h⟩
 ·rw [zzq]at h;cases h
 ·unfold zbH at h;simp at h
theorem zeF {a b c:PlV} (h:zaJ a b=true) (k:zaJ b c=true):zaJ a c=true:=by
 rw [zgd]at *
 rcases h with h | ⟨e,h⟩
 ·rcases k with k | ⟨e',_⟩
  ·exact .inl (zpR h k)
  ·exact .inl (e' ▸ h)
 ·rcases k with k | ⟨e',k⟩
  ·exact .inl (e ▸ k)
  ·refine .inr ⟨e.trans e',?_⟩
   unfold zbH at *
   simp only [Bool.or_eq_true,decide_eq_true_eq,Bool.and_eq_true,beq_iff_eq]at *
   omega
theorem ztl {a b:PlV} (h:zaJ a b=true) (k:zaJ b a=true):False:=by
 have:=zeF h k
 rw [zno]at this
 cases this
theorem znn {a b:PlV} (h:a.id≠b.id):zaJ a b=true∨zaJ b a=true:=by
 rw [zgd,zgd]
 have h1:=zjF a.key b.key
 by_cases e:a.key=b.key
 ·have h2:zbH a.idN a.idR b.idN b.idR=true∨zbH b.idN b.idR a.idN a.idR=true:=by
   unfold zbH
   simp only [Bool.or_eq_true,decide_eq_true_eq,Bool.and_eq_true,beq_iff_eq]
   have h3:¬ (a.idN=b.idN∧a.idR=b.idR):=fun ⟨e1,e2⟩=>h (show (a.idN,a.idR)=(b.idN,b.idR) by rw [e1,e2])
   omega
  rcases h2 with h2 | h2
  ·exact .inl (.inr ⟨e,h2⟩)
  ·exact .inr (.inr ⟨e.symm,h2⟩)
 ·have h2:(klB a.key b.key || klB b.key a.key)=true:=by rw [h1];simp [e]
  rw [Bool.or_eq_true]at h2
  rcases h2 with h2 | h2
  ·exact .inl (.inl h2)
  ·exact .inr (.inl h2)
theorem ziM {α:Type} {R:α->α->Prop} (asym:∀a b,R a b->R b a->False):∀{l1 l2:List α},l1.Perm l2->l1.Pairwise R->l2.Pairwise R->l1=l2
 | [],l2,hp,_,_=>by rw [List.Perm.nil_eq hp]
 | a::l1,[],hp,_,_=>by exact absurd hp.length_eq (by simp)
 | a::l1,b::l2,hp,h1,h2=>by
  have e:a=b:=by
   rcases List.mem_cons.1 (hp.mem_iff.1 (List.mem_cons_self ..))with h | h
   ·exact h
   ·rcases List.mem_cons.1 (hp.mem_iff.2 (List.mem_cons_self ..))with k | k
    ·exact k.symm
    ·exact absurd ((List.pairwise_cons.1 h2).1 a h) (fun h3=>asym _ _ ((List.pairwise_cons.1 h1).1 b k) h3)
  subst e
  rw [ziM asym ((List.perm_cons a).1 hp) (List.pairwise_cons.1 h1).2 (List.pairwise_cons.1 h2).2]
def cutK (lt:Nat->Nat->Bool) (i:Nat) (out:Xh):Nat->Nat
 | 0=>0
 | k+1=>if lt i (out.getD k 0)=true then cutK lt i out k else k+1
theorem zrV (lt:Nat->Nat->Bool) (i:Nat) (out:Xh):∀k,cutK lt i out k<=k
 | 0=>Nat.le_refl _
 | k+1=>by
  unfold cutK
  by_cases h:lt i (out.getD k 0)=true
  ·rw [if_pos h];have:=zrV lt i out k;omega
  ·rw [if_neg h];exact Nat.le_refl _
theorem zki (lt:Nat->Nat->Bool) (i:Nat) (out:Xh):∀k j,cutK lt i out k<=j->j<k->lt i (out.getD j 0)=true
 | 0,j,_,h=>by omega
 | k+1,j,h,h'=>by
  unfold cutK at h
  by_cases e:lt i (out.getD k 0)=true
  ·rw [if_pos e]at h
   by_cases ej:j=k
   ·rw [ej];exact e
   ·exact zki lt i out k j h (by omega)
  ·rw [if_neg e]at h;omega
theorem zsp (lt:Nat->Nat->Bool) (i:Nat) (out:Xh):∀k,0<cutK lt i out k->lt i (out.getD (cutK lt i out k-1) 0)≠true
 | 0,h=>by exact absurd h (by simp [cutK])
 | k+1,h=>by
  unfold cutK at h ⊢
  by_cases e:lt i (out.getD k 0)=true
  ·rw [if_pos e]at h ⊢
   exact zsp lt i out k h
  ·rw [if_neg e]
   simpa using e
def insR (lt:Nat->Nat->Bool) (i:Nat) (out:Xh):Xh:=out.take (cutK lt i out out.length)++i::out.drop (cutK lt i out out.length)
theorem zmJ (lt:Nat->Nat->Bool) (i:Nat) (out:Xh):(insR lt i out).Perm (i::out):=by
 unfold insR
 have h:=List.perm_middle (a:=i) (l₁ :=out.take (cutK lt i out out.length)) (l₂ :=out.drop (cutK lt i out out.length))
 rw [List.take_append_drop]at h
 exact h
theorem zso {out:Xh} {j:Nat} (h:j<out.length):out.getD j 0=out[j]:=by simp [h]
theorem zqG {lt:Nat->Nat->Bool} (tr:∀a b c,lt a b=true->lt b c=true->lt a c=true) {i:Nat} {out:Xh} (tot:∀x∈out,lt i x=true∨lt x i=true) (h:out.Pairwise (fun a b=>lt a b=true)):(insR lt i out).Pairwise (fun a b=>lt a b=true):=by
 have hc:=zrV lt i out out.length
 have hb:=zki lt i out out.length
 have ha:=zsp lt i out out.length
 unfold insR
 generalize cutK lt i out out.length=c at *
 have Ha:=List.pairwise_iff_getElem.1 h
 have Ca:∀x∈out.take c,lt x i=true:=fun x hx=>by
  obtain⟨j,hj,rfl⟩:=List.getElem_of_mem hx
  have Fa:j<c:=by rw [List.length_take]at hj;omega
  have Ia:j<out.length:=by omega
  rw [List.getElem_take]
  have Ba:lt (out[c-1]'(by omega)) i=true:=by
   have h1:=ha (by omega)
   rw [zso (by omega)]at h1
   rcases tot _ (List.getElem_mem (show c-1<out.length by omega))with h2 | h2
   ·exact absurd h2 h1
   ·exact h2
  by_cases e:j=c-1
  ·subst e;exact Ba
  ·exact tr _ _ _ (Ha j (c-1) Ia (by omega) (by omega)) Ba
 have Aa:∀x∈out.drop c,lt i x=true:=fun x hx=>by
  obtain⟨j,hj,rfl⟩:=List.getElem_of_mem hx
  have Fa:c+j<out.length:=by rw [List.length_drop]at hj;omega
  rw [List.getElem_drop]
  have:=hb (c+j) (by omega) Fa
  rwa [zso Fa]at this
 rw [List.pairwise_append]
 refine⟨h.sublist (List.take_sublist _ _),List.pairwise_cons.2 ⟨Aa,h.sublist (List.drop_sublist _ _)⟩,fun a Ga b Da=> ?_⟩
 rcases List.mem_cons.1 Da with rfl | Da
 ·exact Ca a Ga
 ·exact tr _ _ _ (Ca a Ga) (Aa b Da)
def zbP (l:List PlV) (i j:Nat):Bool:=match l[i]?,l[j]? with
 | some a,some b=>zaJ a b
 | _,_=>false
theorem zpZ (l:List PlV) (a b c:Nat) (h:zbP l a b=true) (k:zbP l b c=true):zbP l a c=true:=by
 unfold zbP at *
 cases ha:l[a]? with
 | none=>rw [ha]at h;cases h
 | some x=>
  cases hb:l[b]? with
  | none=>rw [ha,hb]at h;cases h
  | some y=>
   cases hc:l[c]? with
   | none=>rw [hb,hc]at k;cases k
   | some z=>
    rw [ha,hb]at h
    rw [hb,hc]at k
    exact zeF h k
theorem znG {l:List PlV} {i j:Nat} (hi:i<l.length) (hj:j<l.length):zbP l i j=zaJ l[i] l[j]:=by
 unfold zbP
 simp [hi,hj]
def zcs (l:List PlV) (id:IdV) (i:Nat):Bool:=match l[i]? with
 | some p=>decide (p.par=id)
 | none=>false
def zjt (l:List PlV) (id:IdV) (out:Xh) (i:Nat):Xh:=if zcs l id i=true then insR (zbP l) i out else out
def zdd (l:List PlV) (id:IdV) (n:Nat):Xh:=(List.range' 2 (n-2)).foldl (zjt l id) []
theorem zjL (l:List PlV) (id:IdV) {n:Nat} (hn:2<=n):zdd l id (n+1)=zjt l id (zdd l id n) n:=by
 unfold zdd
 rw [show n+1-2=(n-2)+1 by omega,List.range'_concat,List.foldl_append]
 simp only [List.foldl_cons,List.foldl_nil]
 rw [show 2+1*(n-2)=n by omega]
def zay (l:List PlV) (id:IdV):Xh:=zdd l id l.length
theorem zfZ {l:List PlV} (hu:(l.map PlV.id).Nodup) (id:IdV):∀n,n<=l.length->(zdd l id n).Perm ((List.range' 2 (n-2)).filter (zcs l id))∧(zdd l id n).Pairwise (fun a b=>zbP l a b=true)
 | 0,_=>⟨List.Perm.refl _,List.Pairwise.nil⟩
 | n+1,hn=>by
  by_cases h2:2<=n
  ·obtain⟨hp,hs⟩:=zfZ hu id n (by omega)
   rw [zjL l id h2,show n+1-2=(n-2)+1 by omega,List.range'_concat,List.filter_append,show 2+1*(n-2)=n by omega]
   unfold zjt
   by_cases hk:zcs l id n=true
   ·rw [if_pos hk]
    refine⟨?_,zqG (zpZ l) (fun x hx=> ?_) hs⟩
    ·refine (zmJ _ _ _).trans ?_
     have e:List.filter (zcs l id) [n]=[n]:=by simp [hk]
     rw [e]
     exact ((List.Perm.cons n hp)).trans (List.perm_append_singleton n _).symm
    ·have Ca:=List.mem_filter.1 (hp.mem_iff.1 hx)
     have Ba:=List.mem_range'.1 Ca.1
     obtain⟨j,hj,rfl⟩:=Ba
     have Aa:2+1*j<n:=by omega
     rw [znG (by omega) (by omega),znG (by omega) (by omega)]
     refine znn (fun e=> ?_)
     have:=(List.pairwise_iff_getElem.1 hu) (2+1*j) n (by simp;omega) (by simp;omega) Aa
     simp at this
     exact this (by simpa using e.symm)
   ·rw [if_neg hk]
    have e:List.filter (zcs l id) [n]=[]:=by simp [hk]
    rw [e,List.append_nil]
    exact⟨hp,hs⟩
  ·have e:zdd l id (n+1)=[]:=by
    unfold zdd
    rw [show n+1-2=0 by omega]
    rfl
   rw [e,show n+1-2=0 by omega]
   exact⟨List.Perm.refl _,List.Pairwise.nil⟩
theorem zpA {l:List PlV} (hu:(l.map PlV.id).Nodup) {id:IdV} {k:Nat} (h:k∈zay l id):2<=k∧k<l.length∧zcs l id k=true:=by
 have h1:=List.mem_filter.1 ((zfZ hu id l.length (Nat.le_refl _)).1.mem_iff.1 h)
 obtain⟨j,hj,rfl⟩:=List.mem_range'.1 h1.1
 exact⟨by omega,by omega,h1.2⟩
def prjK {α:Type} (f:Nat->Int->α×Int):Xh->List α->Int->List α×Int
 | [],acc,left=>(acc,left)
 | k::ks,acc,left=>if left<=0 then (acc,left) else prjK f ks (acc++[(f k left).1]) (f k left).2
def prj (l:List PlV):(m:Nat)->Nat->Int->Tr (m+1)×Int
 | 0=>fun k left=>match l[k]? with
  | some p=>((⟨p.kind,p.name,p.text,p.attrs,[]⟩:Nd (Tr 0)),left-1)
  | none=>((⟨0,[],[],[],[]⟩:Nd (Tr 0)),left-1)
 | m+1=>fun k left=>match l[k]? with
  | some p=>((⟨p.kind,p.name,p.text,p.attrs,(prjK (prj l m) (zay l p.id) [] (left-1)).1⟩:Nd (Tr (m+1))),(prjK (prj l m) (zay l p.id) [] (left-1)).2)
  | none=>((⟨0,[],[],[],[]⟩:Nd (Tr (m+1))),left-1)
end Go.Proofs.YtgjolijncmkkhaaGreatDoor
namespace Go.Proofs.YtgjolijncmkkhaaGreatDoor
open Go.RowKit
set_option linter.unusedVariables false
set_option maxRecDepth 100000
def cmpZ (x y:Int):Int:=if x<y then -1 else if y<x then 1 else 0
set_option maxHeartbeats 1600000 in
theorem zmZ (w:Xk) (x:Int):Calls Tryz.prog 214 #[.int .i64 x] w fun e w'=>e=.returned (.bool false)∧w'=w:=by
 go_enter Tryz.func214,Tryz.ntmps214
 go_wp2_with fail
 go_ret
 exact⟨by simp,rfl⟩
set_option maxHeartbeats 1600000 in
theorem zxb (w:Xk) (x y:Int):Calls Tryz.prog 186 #[.int .i64 x,.int .i64 y] w fun e w'=>e=.returned (.int .i64 (cmpZ x y))∧w'=w:=by
 have H1:=hide (zmZ w x)
 have H2:=hide (zmZ w y)
 by_cases h1:x<y
 ·have d1:decide (x<y)=true:=decide_eq_true h1
  have HE:=hide (show cmpZ x y = -1 by unfold cmpZ;rw [if_pos h1])
  clear h1
  go_enter Tryz.func186,Tryz.ntmps186
  go_wp2_with fail
  refine (zaa H1).mono ?_
  rintro e w' ⟨rfl,rfl⟩
  go_wp2_with fail
  refine (zaa H2).mono ?_
  rintro e w' ⟨rfl,rfl⟩
  go_wp2_with fail
  go_ret
  exact⟨by rw [zaa HE];rfl,rfl⟩
 ·have d1:decide (x<y)=false:=decide_eq_false h1
  by_cases h2:y<x
  ·have d2:decide (y<x)=true:=decide_eq_true h2
   have HE:=hide (show cmpZ x y=1 by unfold cmpZ;rw [if_neg h1,if_pos h2])
   clear h1 h2
   go_enter Tryz.func186,Tryz.ntmps186
   go_wp2_with fail
   refine (zaa H1).mono ?_
   rintro e w' ⟨rfl,rfl⟩
   go_wp2_with fail
   refine (zaa H2).mono ?_
   rintro e w' ⟨rfl,rfl⟩
   go_wp2_with fail
   go_ret
   exact⟨by rw [zaa HE];rfl,rfl⟩
  ·have d2:decide (y<x)=false:=decide_eq_false h2
   have HE:=hide (show cmpZ x y=0 by unfold cmpZ;rw [if_neg h1,if_neg h2])
   clear h1 h2
   go_enter Tryz.func186,Tryz.ntmps186
   go_wp2_with fail
   refine (zaa H1).mono ?_
   rintro e w' ⟨rfl,rfl⟩
   go_wp2_with fail
   refine (zaa H2).mono ?_
   rintro e w' ⟨rfl,rfl⟩
   go_wp2_with fail
   go_ret
   exact⟨by rw [zaa HE];rfl,rfl⟩
def cmpK:Xg->Xg->Int
 | [],[]=>0
 | [],_::_=> -1
 | _::_,[]=>1
 | x::a,y::b=>if cmpZ x y=0 then cmpK a b else cmpZ x y
theorem zeV (x y:Int):cmpZ x y=0↔x=y:=by
 unfold cmpZ
 by_cases h1:x<y
 ·rw [if_pos h1];omega
 ·rw [if_neg h1]
  by_cases h2:y<x
  ·rw [if_pos h2];omega
  ·rw [if_neg h2];omega
theorem zjI:∀(a b:Xg),decide (cmpK a b<0)=klB a b
 | [],[]=>rfl
 | [],_::_=>rfl
 | _::_,[]=>rfl
 | x::a,y::b=>by
  rw [cmpK,klB]
  by_cases h:x=y
  ·rw [if_pos ((zeV x y).2 h),if_pos h]
   exact zjI a b
  ·rw [if_neg (fun e=>h ((zeV x y).1 e)),if_neg h]
   unfold cmpZ
   by_cases h1:x<y
   ·simp [h1]
   ·have h2:y<x:=by omega
    simp [h1,h2]
theorem zgs:∀(a b:Xg),cmpK a b=0↔a=b
 | [],[]=>by simp [cmpK]
 | [],_::_=>by simp [cmpK]
 | _::_,[]=>by simp [cmpK]
 | x::a,y::b=>by
  rw [cmpK]
  by_cases h:x=y
  ·rw [if_pos ((zeV x y).2 h),zgs a b]
   simp [h]
  ·rw [if_neg (fun e=>h ((zeV x y).1 e))]
   constructor
   ·intro e;exact absurd ((zeV x y).1 e) h
   ·intro e;exact absurd (List.cons.inj e).1 h
end Go.Proofs.YtgjolijncmkkhaaGreatDoor
namespace Go.Proofs.YtgjolijncmkkhaaGreatDoor
set_option linter.unusedVariables false
def cmpP (p q:PlV):Int:=if cmpK p.key q.key=0 then ordI p.idN p.idR q.idN q.idR else cmpK p.key q.key
theorem zzo (p q:PlV):decide (cmpP p q<0)=zaJ p q:=by
 unfold cmpP zaJ
 by_cases h:cmpK p.key q.key=0
 ·rw [if_pos h,zyK]
  have e:=(zgs _ _).1 h
  have k1:klB p.key q.key=false:=by rw [<-zjI,h];rfl
  have k2:klB q.key p.key=false:=by rw [<-zjI,<-e,(zgs _ _).2 rfl];rfl
  rw [k1,k2]
  simp
 ·rw [if_neg h,zjI]
  have Aa:p.key≠q.key:=fun e=>h ((zgs _ _).2 e)
  have ht:=zjF p.key q.key
  rw [decide_eq_false Aa]at ht
  cases h1:klB p.key q.key with
  | true=>rfl
  | false=>
   rw [h1]at ht
   simp at ht
   rw [ht]
   rfl
theorem zuP {n r n' r':Int} (h:zbH n r n' r'=false) (h':zbH n' r' n r=false):n=n'∧r=r':=by
 unfold zbH at *
 simp only [Bool.or_eq_false_iff,decide_eq_false_iff_not,Bool.and_eq_false_iff,beq_eq_false_iff_ne]at h h'
 omega
theorem ztq {a b:PlV} (h:zaJ a b=false) (h':zaJ b a=false):a.key=b.key∧a.idN=b.idN∧a.idR=b.idR:=by
 unfold zaJ at h h'
 simp only [Bool.or_eq_false_iff,Bool.and_eq_false_iff,Bool.not_eq_false']at h h'
 have ht:=zjF a.key b.key
 rw [h.1,h'.1]at ht
 have e:a.key=b.key:=by simpa using ht
 have l1:zbH a.idN a.idR b.idN b.idR=false:=by
  rcases h.2 with k | k
  ·rw [h'.1]at k;cases k
  ·exact k
 have l2:zbH b.idN b.idR a.idN a.idR=false:=by
  rcases h'.2 with k | k
  ·rw [h.1]at k;cases k
  ·exact k
 exact⟨e,zuP l1 l2⟩
theorem ztA {a b c:PlV} (h:a.key=b.key∧a.idN=b.idN∧a.idR=b.idR):zaJ a c=zaJ b c∧zaJ c a=zaJ c b:=by
 unfold zaJ
 rw [h.1,h.2.1,h.2.2]
 exact⟨rfl,rfl⟩
theorem zoJ {a b c:PlV} (h:zaJ a b=false) (k:zaJ b c=false):zaJ a c=false:=by
 cases hac:zaJ a c with
 | false=>rfl
 | true=>
  cases hcb:zaJ c b with
  | true=>rw [zeF hac hcb]at h;cases h
  | false=>rw [<-(ztA (ztq k hcb)).2,h]at hac;cases hac
def zoZ:Option PlV->Option PlV->Prop
 | some a,some b=>zaJ a b=true
 | _,_=>False
theorem zjT (a b:Option PlV) (h:zoZ a b) (k:zoZ b a):False:=by
 cases a with
 | none=>exact h
 | some a=>
  cases b with
  | none=>exact h
  | some b=>exact ztl h k
theorem zin {l:List PlV} {i j:Nat} (h:zbP l i j=true):zoZ l[i]? l[j]? :=by
 unfold zbP at h
 cases ha:l[i]? with
 | none=>rw [ha]at h;cases h
 | some x=>
  cases hb:l[j]? with
  | none=>rw [ha,hb]at h;cases h
  | some y=>rw [ha,hb]at h;exact h
def zaA (l:List PlV) (id:IdV) (n:Nat):List PlV:=((l.take n).drop 2).filter (fun p=>decide (p.par=id))
theorem zcZ (l:List PlV) (id:IdV) {n:Nat} (h:n<=2):zaA l id n=[]:=by
 unfold zaA
 rw [List.drop_eq_nil_of_le (by rw [List.length_take];omega)]
 rfl
theorem zkb (l:List PlV) (id:IdV) {n:Nat} (h2:2<=n) (hn:n<l.length):zaA l id (n+1)=zaA l id n++(if l[n].par=id then [l[n]] else []):=by
 unfold zaA
 rw [List.take_succ_eq_append_getElem hn,List.drop_append_of_le_length (by rw [List.length_take];omega),List.filter_append]
 by_cases h:l[n].par=id
 ·rw [if_pos h];simp [h]
 ·rw [if_neg h];simp [h]
theorem znL (l:List PlV) (id:IdV):∀n,n<=l.length->((List.range' 2 (n-2)).filter (zcs l id)).map (fun k=>l[k]?)=(zaA l id n).map some
 | 0,_=>by rw [zcZ l id (by omega)];rfl
 | n+1,hn=>by
  by_cases h2:2<=n
  ·rw [show n+1-2=(n-2)+1 by omega,List.range'_concat,List.filter_append,List.map_append,znL l id n (by omega),zkb l id h2 (by omega),List.map_append,show 2+1*(n-2)=n by omega]
   congr 1
   have hp:l[n]? = some l[n]:=by simp [show n<l.length by omega]
   have hk:zcs l id n=decide (l[n].par=id):=by unfold zcs;rw [hp]
   by_cases h:l[n].par=id
   ·rw [if_pos h];simp [hk,h,hp]
   ·rw [if_neg h];simp [hk,h]
  ·rw [show n+1-2=0 by omega,zcZ l id (by omega)]
   rfl
theorem zkf {l:List PlV} (hu:(l.map PlV.id).Nodup) (id:IdV) {ks:List PlV} (hp:ks.Perm (zaA l id l.length)) (hs:∀i j (hi:i<ks.length) (hj:j<ks.length),i<j->zaJ ks[j] ks[i]=false):ks.map some=(zay l id).map (fun k=>l[k]?):=by
 obtain⟨h1,h2⟩:=zfZ hu id l.length (Nat.le_refl _)
 refine ziM zjT ?_ ?_ ?_
 ·refine (hp.map some).trans ?_
  rw [<-znL l id l.length (Nat.le_refl _)]
  exact (h1.map _).symm
 ·have Ca:(ks.map PlV.id).Nodup:=by
   refine (List.Perm.nodup_iff (hp.map PlV.id)).2 ?_
   unfold zaA
   rw [List.take_length]
   exact List.Nodup.sublist (List.Sublist.map _ ((List.filter_sublist).trans (List.drop_sublist _ _))) hu
  rw [List.pairwise_map]
  refine List.pairwise_iff_getElem.2 (fun i j hi hj Aa=> ?_)
  have Ba:ks[i].id≠ks[j].id:=by
   have:=(List.pairwise_iff_getElem.1 Ca) i j (by simpa using hi) (by simpa using hj) Aa
   simpa using this
  rcases znn Ba with h | h
  ·exact h
  ·rw [hs i j hi hj Aa]at h;cases h
 ·rw [List.pairwise_map]
  exact h2.imp (fun h=>zin h)
end Go.Proofs.YtgjolijncmkkhaaGreatDoor
namespace Go.Proofs.YtgjolijncmkkhaaGreatDoor
open Go.RowKit
set_option linter.unusedVariables false
set_option maxRecDepth 100000
theorem zko {α:Type} (f:List PlV->α->List PlV) (hf:∀a x,∃p,f a x=a++p):∀(l:List α) (a:List PlV),∃p,l.foldl f a=a++p
 | [],a=>⟨[],by simp⟩
 | x::r,a=>by
  obtain⟨p,e⟩:=hf a x
  obtain⟨q,e2⟩:=zko f hf r (f a x)
  exact⟨p++q,by rw [List.foldl_cons,e2,e,List.append_assoc]⟩
theorem zeW:∀(n:Nat) (i:IdV) (ks:List (Tr n)) (acc:List PlV),∃p,zau n i ks acc=acc++p
 | 0,_,_,acc=>⟨[],by simp [zau]⟩
 | n+1,i,ks,acc=>zko (zaV n i) (fun a x=>by
   obtain⟨p,e⟩:=zeW n (0,(a.length:Int)) x.1.kids (a++[zaB a.length i x.1 x.2])
   exact⟨[zaB a.length i x.1 x.2]++p,by unfold zaV;rw [e,List.append_assoc]⟩) (List.zipIdx (α:=Nd (Tr n)) ks) acc
theorem zvW (n:Nat) (i:IdV) (a:List PlV) (x:Nd (Tr n)×Nat):∃p,zaV n i a x=a++p:=by
 obtain⟨p,e⟩:=zeW n (0,(a.length:Int)) x.1.kids (a++[zaB a.length i x.1 x.2])
 exact⟨[zaB a.length i x.1 x.2]++p,by unfold zaV;rw [e,List.append_assoc]⟩
theorem zfs (n:Nat) (i:IdV) (ks:List (Nd (Tr n))) (acc:List PlV) (j k:Nat) (h:j<=k):∃p,zaq n i ks acc k=zaq n i ks acc j++p:=by
 have e:ks.zipIdx.take k=ks.zipIdx.take j++(ks.zipIdx.take k).drop j:=by
  conv=>lhs;rw [<-List.take_append_drop j (ks.zipIdx.take k)]
  rw [List.take_take,Nat.min_eq_left h]
 unfold zaq
 rw [e,List.foldl_append]
 exact zko _ (zvW n i) _ _
theorem zfu (n:Nat) (H:∀(i:IdV) (ks:List (Tr n)) (acc:List PlV) (q:Nat) (p:PlV),acc.length<=q->(zau n i ks acc)[q]? = some p->p.par=i∨∃r:Nat,acc.length<=r∧r<q∧p.par=(0,(r:Int))) (i:IdV) (ks:List (Nd (Tr n))) (acc:List PlV) (j0:Nat) :
  ∀(d:Nat),j0+d<=ks.length->∀(q:Nat) (p:PlV),(zaq n i ks acc j0).length<=q->(zaq n i ks acc (j0+d))[q]? = some p->(∃(k:Nat) (x:Nd (Tr n)),k<j0+d∧ks[k]? = some x∧q=(zaq n i ks acc k).length∧p=zaB q i x k)∨∃r:Nat,(zaq n i ks acc j0).length<=r∧r<q∧p.par=(0,(r:Int))
 | 0,_,q,p,hq,h=>by
  rw [Nat.add_zero,List.getElem?_eq_none hq]at h;cases h
 | d+1,hj,q,p,hq,h=>by
  have ih:=zfu n H i ks acc j0 d (by omega) q p hq
  rw [show j0+(d+1)=(j0+d)+1 by omega]at h ⊢
  have Aa:j0+d<ks.length:=by omega
  have Ba:(zaq n i ks acc j0).length<=(zaq n i ks acc (j0+d)).length:=by
   obtain⟨p,e⟩:=zfs n i ks acc j0 (j0+d) (by omega)
   rw [e];simp
  generalize j0+d=j at *
  rw [zfp n i ks acc Aa]at h
  unfold zaV at h
  simp only []at h
  obtain⟨Ca,e⟩:=zeW n (0,((zaq n i ks acc j).length:Int)) ks[j].kids (zaq n i ks acc j++[zaB (zaq n i ks acc j).length i ks[j] j])
  rcases Nat.lt_trichotomy q (zaq n i ks acc j).length with hlt | heq | hgt
  ·rw [e,List.append_assoc,List.getElem?_append_left hlt]at h
   rcases ih h with ⟨k,x,h1,h2,h3,h4⟩ | hr
   ·exact .inl ⟨k,x,by omega,h2,h3,h4⟩
   ·exact .inr hr
  ·rw [e,List.append_assoc,List.getElem?_append_right (by omega),heq,Nat.sub_self]at h
   have h:some (zaB (zaq n i ks acc j).length i ks[j] j)=some p:=h
   exact .inl ⟨j,ks[j],by omega,List.getElem?_eq_getElem (by omega),heq,by rw [heq];exact (Option.some.inj h).symm⟩
  ·rcases H _ _ _ q p (by simp;omega) h with hp | ⟨r,h1,h2,h3⟩
   ·exact .inr ⟨_,Ba,hgt,hp⟩
   ·exact .inr ⟨r,by simp at h1;omega,h2,h3⟩
theorem zhx:∀(n:Nat) (i:IdV) (ks:List (Tr n)) (acc:List PlV) (q:Nat) (p:PlV),acc.length<=q->(zau n i ks acc)[q]? = some p->p.par=i∨∃r:Nat,acc.length<=r∧r<q∧p.par=(0,(r:Int))
 | 0,i,ks,acc,q,p,hq,h=>by
  have h:acc[q]? = some p:=h
  rw [List.getElem?_eq_none hq]at h;cases h
 | n+1,i,ks,acc,q,p,hq,h=>by
  rw [<-ziJ n i ks acc (Nat.le_refl _),<-Nat.zero_add (List.length (α:=Nd (Tr n)) ks)]at h
  rcases zfu n (zhx n) i ks acc 0 _ (by omega) q p hq h with ⟨k,x,_,_,_,rfl⟩ | hr
  ·exact .inl rfl
  ·exact .inr hr
theorem zrt {L:List PlV} (hu:(L.map PlV.id).Nodup) {id:IdV} {idx:Xh} (hmem:∀q,q∈idx↔(2<=q∧q<L.length∧zcs L id q=true)) (hs:idx.Pairwise (fun a b=>zbP L a b=true)):zay L id=idx:=by
 have Aa:∀a b,zbP L a b=true->zbP L b a=true->False:=fun a b h k=>zjT _ _ (zin h) (zin k)
 obtain⟨h1,h2⟩:=zfZ hu id L.length (Nat.le_refl _)
 refine ziM (R:=fun a b=>zbP L a b=true) Aa (h1.trans ?_) h2 hs
 refine (List.perm_ext_iff_of_nodup (List.Pairwise.filter _ List.nodup_range') (hs.imp fun h e=>by subst e;exact Aa _ _ h h)).2 fun q=> ?_
 rw [hmem,List.mem_filter,List.mem_range']
 constructor
 ·rintro⟨⟨j,hj,rfl⟩,h⟩
  exact⟨by omega,by omega,h⟩
 ·rintro⟨h3,h4,h5⟩
  exact⟨⟨q-2,by omega,by omega⟩,h5⟩
def Hang (L:List PlV):(n:Nat)->Nat->List (Tr n)->Prop
 | 0,s,_=>zay L (0,(s:Int))=[]
 | n+1,s,ks=>∃idx:Xh,zay L (0,(s:Int))=idx∧idx.length=ks.length∧∀(j:Nat) (x:Nd (Tr n)) (s':Nat),(ks:List (Nd (Tr n)))[j]? = some x->idx[j]? = some s'->(∃p,L[s']? = some p∧p.id=(0,(s':Int))∧p.kind=x.kind∧p.name=x.name∧p.text=x.text∧p.attrs=x.attrs)∧Hang L n s' x.kids
theorem zwe (L:List PlV) (hu:(L.map PlV.id).Nodup) (hlow:∀q p,2<=q->L[q]? = some p->∃r:Nat,r<q∧p.par=(0,(r:Int))) (n:Nat)
  (H:∀(s:Nat) (ks:List (Tr n)) (acc post:List PlV),L=zau n (0,(s:Int)) ks acc++post->s<acc.length->2<=acc.length->(∀q p,2<=q->q<acc.length->L[q]? = some p->p.par≠(0,(s:Int)))->
   (∀q p (r:Nat),(zau n (0,(s:Int)) ks acc).length<=q->L[q]? = some p->s<=r->r<(zau n (0,(s:Int)) ks acc).length->p.par≠(0,(r:Int)))->Hang L n s ks)
  (s:Nat) (ks:List (Nd (Tr n))) (acc post E:List PlV) (hks:E=zaq n (0,(s:Int)) ks acc ks.length) (hL:L=E++post) (hs:s<acc.length) (h2:2<=acc.length) (hacc:∀q p,2<=q->q<acc.length->L[q]? = some p->p.par≠(0,(s:Int)))
  (hpost:∀q p (r:Nat),E.length<=q->L[q]? = some p->s<=r->r<E.length->p.par≠(0,(r:Int))):Hang L (n+1) s ks:=by
 have Na:acc.length<=E.length:=by
  obtain⟨p2,e2⟩:=zfs n (0,(s:Int)) ks acc 0 ks.length (Nat.zero_le _)
  rw [hks,e2,zhs];simp
 have Ca:∀k x,ks[k]? = some x->∃po,L=zau n (0,((zaq n (0,(s:Int)) ks acc k).length:Int)) x.kids (zaq n (0,(s:Int)) ks acc k++[zaB (zaq n (0,(s:Int)) ks acc k).length (0,(s:Int)) x k])++po∧acc.length<=(zaq n (0,(s:Int)) ks acc k).length∧(zaq n (0,(s:Int)) ks acc (k+1)).length<=E.length:=fun k x hx=>by
  obtain⟨hk,rfl⟩:=List.getElem?_eq_some_iff.1 hx
  obtain⟨p1,e1⟩:=zfs n (0,(s:Int)) ks acc (k+1) _ hk
  obtain⟨p2,e2⟩:=zfs n (0,(s:Int)) ks acc 0 k (Nat.zero_le _)
  have e3:=zfp n (0,(s:Int)) ks acc hk
  refine⟨p1++post,?_,by rw [e2,zhs];simp,by rw [hks,e1];simp⟩
  rw [hL,hks,e1,e3,List.append_assoc]
  rfl
 have Ba:∀k x,ks[k]? = some x->L[(zaq n (0,(s:Int)) ks acc k).length]? = some (zaB (zaq n (0,(s:Int)) ks acc k).length (0,(s:Int)) x k):=fun k x hx=>by
  obtain⟨po,e,_⟩:=Ca k x hx
  obtain⟨p3,e3⟩:=zeW n (0,((zaq n (0,(s:Int)) ks acc k).length:Int)) x.kids (zaq n (0,(s:Int)) ks acc k++[zaB (zaq n (0,(s:Int)) ks acc k).length (0,(s:Int)) x k])
  rw [e,e3,List.append_assoc,List.append_assoc,List.getElem?_append_right (Nat.le_refl _),Nat.sub_self]
  rfl
 have Da:zay L (0,(s:Int))=(List.range ks.length).map fun j=>(zaq n (0,(s:Int)) ks acc j).length:=by
  refine zrt hu (fun q=>⟨fun h=> ?_,fun ⟨h3,h4,h5⟩=> ?_⟩) ?_
  ·obtain⟨j,hj,rfl⟩:=List.mem_map.1 h
   have hj:=List.mem_range.1 hj
   have hx:=List.getElem?_eq_getElem hj
   have ha:=Ba j _ hx
   obtain⟨_,_,h6,_⟩:=Ca j _ hx
   refine⟨by omega,?_,?_⟩
   ·rcases Nat.lt_or_ge (zaq n (0,(s:Int)) ks acc j).length L.length with h | h
    ·exact h
    ·rw [List.getElem?_eq_none h]at ha;cases ha
   ·unfold zcs
    rw [ha]
    exact decide_eq_true rfl
  ·unfold zcs at h5
   rw [List.getElem?_eq_getElem h4]at h5
   have h5:=of_decide_eq_true h5
   rcases Nat.lt_or_ge q acc.length with h | h
   ·exact (hacc q _ h3 h (List.getElem?_eq_getElem h4) h5).elim
   ·rcases Nat.lt_or_ge q E.length with h' | h'
    ·have hq:(zaq n (0,(s:Int)) ks acc (0+ks.length))[q]? = some L[q]:=by
      rw [Nat.zero_add,<-hks,<-List.getElem?_eq_getElem h4]
      conv=>rhs;rw [hL]
      rw [List.getElem?_append_left h']
     rcases zfu n (zhx n) (0,(s:Int)) ks acc 0 _ (by omega) q _ h hq with ⟨k,x,hk,_,e,_⟩ | ⟨r,h6,h7,h8⟩
     ·exact List.mem_map.2 ⟨k,List.mem_range.2 (by omega),e.symm⟩
     ·rw [h5]at h8
      have:(s:Int)=(r:Int):=congrArg Prod.snd h8
      rw [zhs]at h6
      omega
    ·exact (hpost q _ s h' (List.getElem?_eq_getElem h4) (Nat.le_refl _) (by omega) h5).elim
  ·rw [List.pairwise_map]
   refine List.pairwise_iff_getElem.2 fun j k hj hk Ma=> ?_
   simp only [List.length_range]at hj hk
   simp only [List.getElem_range]
   have a1:=Ba j _ (List.getElem?_eq_getElem hj)
   have a2:=Ba k _ (List.getElem?_eq_getElem hk)
   unfold zbP
   rw [a1,a2]
   show (klB [(j:Int)+1] [(k:Int)+1] || _)=true
   rw [show klB [(j:Int)+1] [(k:Int)+1]=true by
    rw [klB,if_neg (by omega)]
    exact decide_eq_true (by omega)]
   rfl
 have Fa:((List.range ks.length).map fun j=>(zaq n (0,(s:Int)) ks acc j).length).length=ks.length:=by simp
 refine⟨_,Da,Fa,fun j x s' hx Aa=> ?_⟩
 have hj:j<ks.length:=(List.getElem?_eq_some_iff.1 hx).1
 have Aa:((List.range ks.length).map fun j=>(zaq n (0,(s:Int)) ks acc j).length)[j]? = some s':=Aa
 rw [List.getElem?_map,List.getElem?_range hj]at Aa
 have Aa:(zaq n (0,(s:Int)) ks acc j).length=s':=Option.some.inj Aa
 subst Aa
 obtain⟨po,e,h6,h7⟩:=Ca j x hx
 refine⟨⟨_,Ba j x hx,rfl,rfl,rfl,rfl,rfl⟩,?_⟩
 have Ka:zau n (0,((zaq n (0,(s:Int)) ks acc j).length:Int)) x.kids (zaq n (0,(s:Int)) ks acc j++[zaB (zaq n (0,(s:Int)) ks acc j).length (0,(s:Int)) x j])=zaq n (0,(s:Int)) ks acc (j+1):=by
  obtain⟨_,rfl⟩:=List.getElem?_eq_some_iff.1 hx
  exact (zfp n (0,(s:Int)) ks acc hj).symm
 refine H _ x.kids _ po e (by simp) (by simp;omega) (fun q p Ja Ha hp=> ?_) (fun q p r hq hp Oa Ia=> ?_)
 ·obtain⟨r,hr,e⟩:=hlow q p Ja hp
  rw [e]
  intro hc
  have:(r:Int)=((zaq n (0,(s:Int)) ks acc j).length:Int):=congrArg Prod.snd hc
  simp at Ha
  omega
 ·rw [Ka]at hq Ia
  rcases Nat.lt_or_ge q E.length with h' | h'
  ·have Ga:(zaq n (0,(s:Int)) ks acc ((j+1)+(ks.length-(j+1))))[q]? = some p:=by
    rw [show (j+1)+(ks.length-(j+1))=ks.length by omega,<-hks,<-hp]
    conv=>rhs;rw [hL]
    rw [List.getElem?_append_left h']
   rcases zfu n (zhx n) (0,(s:Int)) ks acc (j+1) _ (by omega) q p hq Ga with ⟨k,y,hk,_,e2,rfl⟩ | ⟨r',h8,h9,La⟩
   ·intro hc
    have:(s:Int)=(r:Int):=congrArg Prod.snd hc
    omega
   ·rw [La]
    intro hc
    have:(r':Int)=(r:Int):=congrArg Prod.snd hc
    omega
  ·exact hpost q p r h' hp (by omega) (by omega)
theorem znd (L:List PlV) (hu:(L.map PlV.id).Nodup) (hlow:∀q p,2<=q->L[q]? = some p->∃r:Nat,r<q∧p.par=(0,(r:Int))) :
  ∀(n s:Nat) (ks:List (Tr n)) (acc post:List PlV),L=zau n (0,(s:Int)) ks acc++post->s<acc.length->2<=acc.length->(∀q p,2<=q->q<acc.length->L[q]? = some p->p.par≠(0,(s:Int)))->
   (∀q p (r:Nat),(zau n (0,(s:Int)) ks acc).length<=q->L[q]? = some p->s<=r->r<(zau n (0,(s:Int)) ks acc).length->p.par≠(0,(r:Int)))->Hang L n s ks
 | 0,s,ks,acc,post,hL,hs,h2,hacc,hpost=>by
  refine zrt hu (fun q=>⟨(fun h=>by cases h),fun ⟨h3,h4,h5⟩=> ?_⟩) List.Pairwise.nil
  unfold zcs at h5
  rw [List.getElem?_eq_getElem h4]at h5
  have h5:=of_decide_eq_true h5
  rcases Nat.lt_or_ge q acc.length with h | h
  ·exact (hacc q _ h3 h (List.getElem?_eq_getElem h4) h5).elim
  ·exact (hpost q _ s h (List.getElem?_eq_getElem h4) (Nat.le_refl _) hs h5).elim
 | n+1,s,ks,acc,post,hL,hs,h2,hacc,hpost=>zwe L hu hlow n (znd L hu hlow n) s ks acc post _ (ziJ n _ ks acc (Nat.le_refl _)).symm hL hs h2 hacc hpost
def ztJ (L:List PlV) (s:Nat) {α:Type} (x:Nd α):Prop:=∃p,L[s]? = some p∧p.id=(0,(s:Int))∧p.kind=x.kind∧p.name=x.name∧p.text=x.text∧p.attrs=x.attrs
theorem znC {L:List PlV}:∀{n s:Nat} {ks:List (Tr n)},Hang L n s ks->ks=[]->zay L (0,(s:Int))=[]
 | 0,s,ks,h,_=>h
 | n+1,s,ks,h,e=>by
  obtain⟨Aa,h1,h2,_⟩:=h
  subst e
  have:Aa=[]:=List.length_eq_zero_iff.1 h2
  rw [h1,this]
theorem zqz (n:Nat) (deep:Int) (t:Nd (Tr n)) (left:Int):okT (n+1) deep t left=if left-1<0∨20<deep then (false,left-1) else if t.kind=1 then (zaY t,left-1) else if zaM t=true then okK (okT n (deep+1)) t.kids (left-1) else (false,left-1):=rfl
def zjy (L:List PlV) (n:Nat):Prop:=∀(m s:Nat) (x:Nd (Tr n)) (left:Int),m<=19->ztJ L s x->Hang L n s x.kids->(okT (n+1) (20-(m:Int)) x left).1=true->
 mkup (m+1) (prj L m s left).1=mkup (n+1) x∧(prj L m s left).2=(okT (n+1) (20-(m:Int)) x left).2
theorem znV {L:List PlV} {n m:Nat} (hm:m<=19) (H:zjy L n):∀(ks:List (Nd (Tr n))) (idx:Xh) (acc:List (Tr (m+1))) (left:Int),idx.length=ks.length->(∀(j:Nat) (x:Nd (Tr n)) (s:Nat),ks[j]? = some x->idx[j]? = some s->ztJ L s x∧Hang L n s x.kids)->
  (okK (okT (n+1) (20-(m:Int))) ks left).1=true->∃R,prjK (prj L m) idx acc left=(acc++R,(okK (okT (n+1) (20-(m:Int))) ks left).2)∧R.map (mkup (m+1))=ks.map (mkup (n+1))
 | [],idx,acc,left,hl,_,_=>by
  have:idx=[]:=List.length_eq_zero_iff.1 hl
  subst this
  exact⟨[],by simp [prjK,okK],rfl⟩
 | x::ks,[],acc,left,hl,_,_=>by simp at hl
 | x::ks,s::idx,acc,left,hl,hk,ho=>by
  have ek:okK (okT (n+1) (20-(m:Int))) (x::ks:List (Nd (Tr n))) left=if (okT (n+1) (20-(m:Int)) x left).1=true then okK (okT (n+1) (20-(m:Int))) ks (okT (n+1) (20-(m:Int)) x left).2 else (false,(okT (n+1) (20-(m:Int)) x left).2):=rfl
  rw [ek]at ho ⊢
  obtain⟨b1,b2⟩:=hk 0 x s rfl rfl
  by_cases hx:(okT (n+1) (20-(m:Int)) x left).1=true
  ·rw [if_pos hx]at ho ⊢
   have Aa:¬ left<=0:=fun hc=>by
    rw [zqz,if_pos (.inl (by omega))]at hx
    cases hx
   obtain⟨e1,e2⟩:=H m s x left hm b1 b2 hx
   obtain⟨R,e3,e4⟩:=znV hm H ks idx (acc++[(prj L m s left).1]) (okT (n+1) (20-(m:Int)) x left).2 (by simpa using hl) (fun j y s' h1 h2=>hk (j+1) y s' (by simpa using h1) (by simpa using h2)) ho
   refine⟨(prj L m s left).1::R,?_,?_⟩
   ·rw [prjK,if_neg Aa,e2,e3,List.append_assoc]
    rfl
   ·show mkup (m+1) (prj L m s left).1::R.map (mkup (m+1))=mkup (n+1) x::ks.map (mkup (n+1))
    rw [e1,e4]
  ·rw [if_neg hx]at ho;cases ho
theorem zxw {n:Nat} {d left:Int} {ks:List (Tr n)} (hd:20<d) (h:(okK (okT n d) ks left).1=true):ks=[]:=by
 cases n with
 | zero=>cases ks with
  | nil=>rfl
  | cons x r=>exact x.elim
 | succ n=>cases ks with
  | nil=>rfl
  | cons x r=>
   have ek:okK (okT (n+1) d) (x::r) left=if (okT (n+1) d x left).1=true then okK (okT (n+1) d) r (okT (n+1) d x left).2 else (false,(okT (n+1) d x left).2):=rfl
   have hx:(okT (n+1) d x left).1=false:=by rw [zbl,if_pos (Or.inr hd)]
   rw [ek,if_neg (by rw [hx];simp)]at h
   cases h
theorem zpF {L:List PlV} {m s:Nat} {p:PlV} (h:L[s]? = some p) (left:Int):prj L (m+1) s left=((⟨p.kind,p.name,p.text,p.attrs,(prjK (prj L m) (zay L p.id) [] (left-1)).1⟩:Nd (Tr (m+1))),(prjK (prj L m) (zay L p.id) [] (left-1)).2):=by
 show (match L[s]? with | some p=>_ | none=>_)=_
 rw [h]
 rfl
theorem zrE {L:List PlV} {s:Nat} {p:PlV} (h:L[s]? = some p) (left:Int):prj L 0 s left=((⟨p.kind,p.name,p.text,p.attrs,[]⟩:Nd (Tr 0)),left-1):=by
 show (match L[s]? with | some p=>_ | none=>_)=_
 rw [h]
 rfl
theorem zsn (n:Nat) (t:Nd (Tr n)):mkup (n+1) t=if t.kind=1 then say false t.text else [60]++t.name++zav t.attrs++[62]++(if zaz t.name=true then [] else (t.kids.map (mkup n)).flatten++[60,47]++t.name++[62]):=rfl
theorem zwm (L:List PlV):∀n,zjy L n:=by
 intro n
 have Ca:∀(n:Nat),(∀k,n=k+1->zjy L k)->zjy L n:=by
  intro n ih m s x left hm hb hh ho
  obtain⟨p,hp,Da,hk,hn,ht,ha⟩:=hb
  rw [zqz]at ho ⊢
  by_cases hc:left-1<0∨20<20-(m:Int)
  ·rw [if_pos hc]at ho;cases ho
  rw [if_neg hc]at ho ⊢
  have Ba:∃K:List (Tr m),(prj L m s left)=((⟨x.kind,x.name,x.text,x.attrs,K⟩:Nd (Tr m)),(if x.kind=1 then (zaY x,left-1) else if zaM x=true then okK (okT n (20-(m:Int)+1)) x.kids (left-1) else (false,left-1)).2)∧(x.kind≠1->K.map (mkup m)=x.kids.map (mkup n)):=by
   by_cases h1:x.kind=1
   ·rw [if_pos h1]at ho ⊢
    have hl:=(zaX x).1 ho
    have Aa:x.kids=[]:=List.length_eq_zero_iff.1 hl.2.2.1
    have hv:=znC hh Aa
    cases m with
    | zero=>exact⟨[],by rw [zrE hp,hk,hn,ht,ha],fun h=>absurd h1 h⟩
    | succ m=>exact⟨[],by rw [zpF hp,Da,hv,hk,hn,ht,ha];rfl,fun h=>absurd h1 h⟩
   ·rw [if_neg h1]at ho ⊢
    by_cases h2:zaM x=true
    ·rw [if_pos h2]at ho ⊢
     cases m with
     | zero=>
      have Aa:=zxw (by omega) ho
      refine⟨[],?_,fun _=>by rw [Aa];rfl⟩
      rw [zrE hp,hk,hn,ht,ha,Aa]
      rfl
     | succ m=>
      cases n with
      | zero=>
       have Aa:x.kids=[]:=by
        cases hx:x.kids with
        | nil=>rfl
        | cons y r=>exact (y:Empty).elim
       have hv:=znC hh Aa
       refine⟨[],?_,fun _=>by rw [Aa];rfl⟩
       rw [zpF hp,Da,hv,hk,hn,ht,ha,Aa]
       rfl
      | succ n=>
       obtain⟨Fa,i1,i2,i3⟩:=hh
       have hd:(20-((m+1:Nat):Int)+1)=20-(m:Int):=by omega
       rw [hd]at ho ⊢
       obtain⟨R,e1,e2⟩:=znV (L:=L) (n:=n) (m:=m) (by omega) (ih n rfl) x.kids Fa [] (left-1) i2 (fun j y s' h1 h2=>i3 j y s' h1 h2) ho
       refine⟨R,?_,fun _=>e2⟩
       rw [zpF hp,Da,i1,e1,hk,hn,ht,ha]
       rfl
    ·rw [if_neg h2]at ho;cases ho
  obtain⟨K,e1,e2⟩:=Ba
  rw [e1]
  refine⟨?_,rfl⟩
  rw [zsn,zsn]
  by_cases h1:x.kind=1
  ·rw [if_pos h1,if_pos h1]
  ·rw [if_neg h1,if_neg h1,e2 h1]
 induction n with
 | zero=>exact Ca 0 (fun k h=>by omega)
 | succ n ih=>exact Ca (n+1) (fun k h=>by cases h;exact ih)
def zfh {n:Nat} (t:Nd (Tr n)):List PlV:=[⟨0,0,0,0,[],0,t.name,[],t.attrs⟩,zde]
theorem zwl {n:Nat} (t:Nd (Tr n)) (q:Nat) (p:PlV) (hq:2<=q) (h:(zau n (0,0) t.kids (zfh t))[q]? = some p):∃r:Nat,r<q∧p.par=(0,(r:Int)):=by
 rcases zhx n (0,0) t.kids (zfh t) q p hq h with e | ⟨r,_,h2,e⟩
 ·exact⟨0,by omega,e⟩
 ·exact⟨r,h2,e⟩
theorem zvH {n:Nat} {t:Nd (Tr n)} (hu:((zau n (0,0) t.kids (zfh t)).map PlV.id).Nodup) (hok:okN n t=true):mkup 20 (prj (zau n (0,0) t.kids (zfh t)) 19 0 120).1=mkup (n+1) t:=by
 unfold okN at hok
 rw [Bool.and_eq_true,decide_eq_true_eq]at hok
 obtain⟨h0,h1⟩:=hok
 have Ba:zaM t=true:=by
  have h1:(okT (n+1) 1 (t:Nd (Tr n)) 120).1=true:=h1
  rw [zqz,if_neg (by omega),if_neg (by omega)]at h1
  by_cases h2:zaM t=true
  ·exact h2
  ·rw [if_neg h2]at h1;cases h1
 have Aa:t.text=[]:=by
  have:=((zba t).1 Ba).2.2.1
  exact List.length_eq_zero_iff.1 this
 obtain⟨po,Ca⟩:=zeW n (0,0) t.kids (zfh t)
 have hb:ztJ (zau n (0,0) t.kids (zfh t)) 0 t:=by
  refine⟨⟨0,0,0,0,[],0,t.name,[],t.attrs⟩,by rw [Ca];rfl,rfl,h0.symm,rfl,Aa.symm,rfl⟩
 have hh:Hang (zau n (0,0) t.kids (zfh t)) n 0 t.kids:=by
  refine znd _ hu (fun q p hq hp=>zwl t q p hq hp) n 0 t.kids (zfh t) [] (by simp) (by show 0<2;omega) (by show 2<=2;omega) (fun q p h2 h3=> ?_) (fun q p r h2 h3=> ?_)
  ·have h3:q<2:=h3
   omega
  ·have h2:(zau n (0,0) t.kids (zfh t)).length<=q:=h2
   rw [List.getElem?_eq_none h2]at h3
   cases h3
 exact (zwm _ n 19 0 t 120 (by omega) hb hh h1).1
end Go.Proofs.YtgjolijncmkkhaaGreatDoor
