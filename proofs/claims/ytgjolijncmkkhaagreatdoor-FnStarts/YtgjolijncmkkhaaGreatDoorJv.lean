/- Own texts joined: PjS, PjN, PjZ. -/
import Derived.Test.YtgjolijncmkkhaaGreatDoorJa
import Derived.Test.YtgjolijncmkkhaaGreatDoorJb
import Derived.Test.YtgjolijncmkkhaaGreatDoorJo
namespace Go.Proofs.YtgjolijncmkkhaaGreatDoor
set_option linter.unusedVariables false
def zaN (p:PlV):Tr 1:=(⟨p.kind,p.name,p.text,p.attrs,[]⟩:Nd (Tr 0))
def zbi (p:PlV):Bool:=(okT 1 1 (zaN p) 2).1
def topB (p:PlV):Bool:=decide (p.kind=0) && !zaz p.name && zkO p.parN p.parR && decide (p.key.length=0)
def zjc (l:List PlV) (p:PlV):Bool:=keyB p.key && zaG l p.par && !zdt l (l.length+1) p.par p.id
def zcY (l:List PlV) (i:Nat) (p:PlV):Bool:=zbi p && idB p.idN p.idR && decide (posP l p.id=some i) && (if i<2 then topB p else zjc l p)
def idAt (l:List PlV) (i:Nat) (id:IdV):Bool:=match l[i]? with
 | some p=>decide (p.id=id)
 | none=>false
def zbj (l:List PlV) (f:Nat->PlV->Bool):Bool:=(List.range l.length).all (fun i=>match l[i]? with
 | some p=>f i p
 | none=>false)
theorem zaZ (l:List PlV) (f:Nat->PlV->Bool):zbj l f=true↔∀i p,l[i]? = some p->f i p=true:=by
 unfold zbj
 rw [List.all_eq_true]
 constructor
 ·intro h i p hp
  have Aa:i<l.length:=(List.getElem?_eq_some_iff.1 hp).1
  have:=h i (List.mem_range.2 Aa)
  rw [hp]at this
  exact this
 ·intro h i hi
  have Aa:=List.mem_range.1 hi
  have hp:l[i]? = some l[i]:=by simp [Aa]
  rw [hp]
  exact h i _ hp
theorem zeD {l:List PlV} {i:Nat} {id:IdV} (hi:i<l.length):idAt l i id=true↔∀p,l[i]? = some p->p.id=id:=by
 unfold idAt
 have hp:l[i]? = some l[i]:=by simp [hi]
 rw [hp]
 simp
def stB (l:List PlV):Bool:=decide (2<=l.length) && decide (l.length<=272) && idAt l 0 zaH && idAt l 1 zaw && zbj l (zcY l)
def newB (l:List PlV) (i:Nat) (p:PlV):Bool:=decide (posP (l.take i) p.id=none) && idB p.idN p.idR && zbi p
def topI (l:List PlV) (i:Nat) (id:IdV):Bool:=match l[i]? with
 | some p=>decide (p.id=id) && decide (p.par=(0,0)) && decide (p.key.length=0) && zaG l id
 | none=>false
def zbv (l:List PlV) (i:Nat) (p:PlV):Bool:=decide (i<2) || (keyB p.key && zaG l p.par)
def zbz (l:List PlV) (i:Nat) (p:PlV):Bool:=decide (i<2) || !zaK l l.length p.par p.id
def stI (l:List PlV):Bool:=decide (2<=l.length) && decide (l.length<=272) && zbj l (newB l) && topI l 0 zaH && topI l 1 zaw && zbj l (zbv l) && zbj l (zbz l)
theorem zho (p:PlV):zkO p.parN p.parR=true↔p.par=(0,0):=by
 unfold zkO
 simp only [Bool.and_eq_true,decide_eq_true_eq]
 constructor
 ·rintro⟨h1,h2⟩
  show (p.parN,p.parR)=(0,0)
  rw [h1,h2]
 ·intro h
  exact Prod.mk.inj h
theorem zdI {l:List PlV} {id:IdV} {i:Nat} {p:PlV} (hk:posP l id=some i) (hp:l[i]? = some p):zaG l id=(zlq p && !zaz p.name):=by
 unfold zaG
 rw [hk]
 simp only [hp]
theorem zdk {l:List PlV} {id:IdV} (h:zaG l id=true):∃j,posP l id=some j:=by
 unfold zaG at h
 cases hk:posP l id with
 | none=>rw [hk]at h;cases h
 | some j=>exact⟨j,rfl⟩
theorem zdv {l:List PlV} (h:∀i p,l[i]? = some p->posP l p.id=some i):(l.map PlV.id).Nodup:=by
 refine List.pairwise_iff_getElem.2 (fun i j hi hj Aa e=> ?_)
 simp at hi hj e
 have h1:=h i l[i] (by simp [hi])
 have h2:=h j l[j] (by simp [hj])
 rw [e,h2]at h1
 have:=Option.some.inj h1
 omega
theorem ztn {l:List PlV} {i:Nat} {p:PlV} (hp:l[i]? = some p) (h:posP l p.id=some i):posP (l.take i) p.id=none:=by
 refine posP_none.2 (fun q hq e=> ?_)
 obtain⟨j,hj,rfl⟩:=List.getElem_of_mem hq
 have Aa:j<i:=by rw [List.length_take]at hj;omega
 obtain⟨h1,_,h3⟩:=posP_some.1 h
 rw [List.getElem_take]at e
 exact h3 j Aa e
theorem zkG {l:List PlV} (h:∀i p,l[i]? = some p->posP (l.take i) p.id=none) {i:Nat} {p:PlV} (hp:l[i]? = some p):posP l p.id=some i:=by
 obtain⟨Aa,rfl⟩:=List.getElem?_eq_some_iff.1 hp
 refine posP_some.2 ⟨Aa,rfl,fun j hj e=> ?_⟩
 have h1:=posP_none.1 (h i l[i] hp) l[j] (by
  have:(l.take i)[j]'(by rw [List.length_take];omega)=l[j]:=List.getElem_take
  rw [<-this]
  exact List.getElem_mem _)
 exact h1 e
theorem zjs (l:List PlV):stB l=stI l:=by
 rw [Bool.eq_iff_iff]
 unfold stB stI
 simp only [Bool.and_eq_true,decide_eq_true_eq,zaZ]
 constructor
 ·rintro⟨⟨⟨⟨h2,hm⟩,h0⟩,h1⟩,he⟩
  rw [zeD (by omega)]at h0 h1
  have Ha:∀i p,l[i]? = some p->zbi p=true∧idB p.idN p.idR=true∧posP l p.id=some i∧(if i<2 then topB p else zjc l p)=true:=fun i p hp=>by
   have:=he i p hp
   unfold zcY at this
   simp only [Bool.and_eq_true,decide_eq_true_eq]at this
   exact⟨this.1.1.1,this.1.1.2,this.1.2,this.2⟩
  have Aa:=fun i p hp=>(Ha i p hp).2.2.1
  have Ca:∀i p,2<=i->l[i]? = some p->keyB p.key=true∧zaG l p.par=true∧zdt l (l.length+1) p.par p.id=false:=fun i p hi hp=>by
   have:=(Ha i p hp).2.2.2
   rw [if_neg (by omega)]at this
   unfold zjc at this
   simp only [Bool.and_eq_true,Bool.not_eq_true']at this
   exact⟨this.1.1,this.1.2,this.2⟩
  have hF:FrW l:=⟨h2,h0,h1,zdv Aa,fun i p hi hp=>zdk (Ca i p hi hp).2.1⟩
  have Da:=hF.free.2 (fun i p hi hp=>(Ca i p hi hp).2.2)
  have Ba:∀i id,i<2->(∀p,l[i]? = some p->p.id=id)->topI l i id=true:=fun i id hi Ma=>by
   have Na:i<l.length:=by omega
   have hp:l[i]? = some l[i]:=by simp [Na]
   have ht:=(Ha i _ hp).2.2.2
   rw [if_pos hi]at ht
   unfold topB at ht
   simp only [Bool.and_eq_true,decide_eq_true_eq]at ht
   have Ka:=Ma _ hp
   have hk:=Aa i _ hp
   rw [Ka]at hk
   unfold topI
   rw [hp]
   simp only [Bool.and_eq_true,decide_eq_true_eq]
   refine⟨⟨⟨Ka,(zho _).1 ht.1.2⟩,ht.2⟩,?_⟩
   rw [zdI hk hp]
   unfold zlq
   simp only [Bool.and_eq_true,decide_eq_true_eq]
   exact⟨ht.1.1.1,ht.1.1.2⟩
  refine⟨⟨⟨⟨⟨⟨h2,hm⟩,fun i p hp=> ?_⟩,Ba 0 _ (by omega) h0⟩,Ba 1 _ (by omega) h1⟩,fun i p hp=> ?_⟩,fun i p hp=> ?_⟩
  ·unfold newB
   simp only [Bool.and_eq_true,decide_eq_true_eq]
   exact⟨⟨ztn hp (Aa i p hp),(Ha i p hp).2.1⟩,(Ha i p hp).1⟩
  ·unfold zbv
   rw [Bool.or_eq_true,decide_eq_true_eq]
   by_cases hi:i<2
   ·exact .inl hi
   ·refine .inr ?_
    rw [Bool.and_eq_true]
    exact⟨(Ca i p (by omega) hp).1,(Ca i p (by omega) hp).2.1⟩
  ·unfold zbz
   rw [Bool.or_eq_true,decide_eq_true_eq]
   by_cases hi:i<2
   ·exact .inl hi
   ·refine .inr ?_
    rw [Da i p (by omega) hp]
    rfl
 ·rintro⟨⟨⟨⟨⟨⟨h2,hm⟩,hn⟩,Ja⟩,La⟩,hk⟩,hf⟩
  have Ga:∀i p,l[i]? = some p->posP (l.take i) p.id=none∧idB p.idN p.idR=true∧zbi p=true:=fun i p hp=>by
   have:=hn i p hp
   unfold newB at this
   simp only [Bool.and_eq_true,decide_eq_true_eq]at this
   exact⟨this.1.1,this.1.2,this.2⟩
  have Aa:=fun i p (hp:l[i]? = some p)=>zkG (fun i p hp=>(Ga i p hp).1) hp
  have Ba:∀i id,i<2->topI l i id=true->∀p,l[i]? = some p->p.id=id∧topB p=true:=fun i id hi ht p hp=>by
   unfold topI at ht
   rw [hp]at ht
   simp only [Bool.and_eq_true,decide_eq_true_eq]at ht
   obtain⟨⟨⟨e1,e2⟩,e3⟩,e4⟩:=ht
   have hk:=Aa i p hp
   rw [e1]at hk
   rw [zdI hk hp]at e4
   unfold zlq at e4
   simp only [Bool.and_eq_true,decide_eq_true_eq]at e4
   refine⟨e1,?_⟩
   unfold topB
   simp only [Bool.and_eq_true,decide_eq_true_eq]
   exact⟨⟨⟨e4.1,e4.2⟩,(zho p).2 e2⟩,e3⟩
  have Fa:∀i p,2<=i->l[i]? = some p->keyB p.key=true∧zaG l p.par=true:=fun i p hi hp=>by
   have:=hk i p hp
   unfold zbv at this
   rw [Bool.or_eq_true,decide_eq_true_eq,Bool.and_eq_true]at this
   rcases this with h | h
   ·omega
   ·exact h
  have Da:∀i p,2<=i->l[i]? = some p->zaK l l.length p.par p.id=false:=fun i p hi hp=>by
   have:=hf i p hp
   unfold zbz at this
   rw [Bool.or_eq_true,decide_eq_true_eq]at this
   rcases this with h | h
   ·omega
   ·simpa using h
  have hF:FrW l:=⟨h2,fun p hp=>(Ba 0 _ (by omega) Ja p hp).1,fun p hp=>(Ba 1 _ (by omega) La p hp).1,zdv Aa,fun i p hi hp=>zdk (Fa i p hi hp).2⟩
  have Ia:=hF.free.1 Da
  refine⟨⟨⟨⟨h2,hm⟩,(zeD (by omega)).2 hF.root⟩,(zeD (by omega)).2 hF.trash⟩,fun i p hp=> ?_⟩
  unfold zcY
  simp only [Bool.and_eq_true,decide_eq_true_eq]
  refine⟨⟨⟨(Ga i p hp).2.2,(Ga i p hp).2.1⟩,Aa i p hp⟩,?_⟩
  by_cases hi:i<2
  ·rw [if_pos hi]
   have:i=0∨i=1:=by omega
   rcases this with rfl | rfl
   ·exact (Ba 0 _ (by omega) Ja p hp).2
   ·exact (Ba 1 _ (by omega) La p hp).2
  ·rw [if_neg hi]
   unfold zjc
   simp only [Bool.and_eq_true,Bool.not_eq_true']
   exact⟨⟨(Fa i p (by omega) hp).1,(Fa i p (by omega) hp).2⟩,Ia i p (by omega) hp⟩
theorem ztI {l:List PlV} (h:stB l=true):Fr l∧l.length<=272:=by
 have h':=h
 rw [zjs]at h'
 unfold stB at h
 unfold stI at h'
 simp only [Bool.and_eq_true,decide_eq_true_eq,zaZ]at h h'
 obtain⟨⟨⟨⟨h2,hm⟩,h0⟩,h1⟩,he⟩:=h
 rw [zeD (by omega)]at h0 h1
 have Aa:∀i p,l[i]? = some p->posP l p.id=some i:=fun i p hp=>by
  have:=he i p hp
  unfold zcY at this
  simp only [Bool.and_eq_true,decide_eq_true_eq]at this
  exact this.1.2
 have hF:FrW l:=⟨h2,h0,h1,zdv Aa,fun i p hi hp=>by
  have:=h'.1.2 i p hp
  unfold zbv at this
  rw [Bool.or_eq_true,decide_eq_true_eq,Bool.and_eq_true]at this
  rcases this with h | h
  ·omega
  ·exact zdk h.2⟩
 exact⟨hF.fr (fun i p hi hp=>by
  have:=h'.2 i p hp
  unfold zbz at this
  rw [Bool.or_eq_true,decide_eq_true_eq]at this
  rcases this with h | h
  ·omega
  ·simpa using h),hm⟩
end Go.Proofs.YtgjolijncmkkhaaGreatDoor
namespace Go.Proofs.YtgjolijncmkkhaaGreatDoor
open Go.RowKit
set_option linter.unusedVariables false
set_option maxRecDepth 100000
theorem zuX {α:Type} (f:Nat->Int->α×Int) (ks:Xh) (acc:List α) (left:Int) (h:left<=0):prjK f ks acc left=(acc,left):=by
 cases ks with
 | nil=>rfl
 | cons k ks=>unfold prjK;rw [if_pos h]
theorem zuW {α:Type} (f:Nat->Int->α×Int) (ks:Xh) (i:Nat) (hi:i<ks.length) (acc:List α) (left:Int) (h:¬ left<=0):prjK f (ks.drop i) acc left=prjK f (ks.drop (i+1)) (acc++[(f ks[i] left).1]) (f ks[i] left).2:=by
 rw [List.drop_eq_getElem_cons hi]
 conv=>lhs;unfold prjK
 rw [if_neg h]
theorem zoE {l:List PlV} {k:Nat} {p:PlV} (hp:l[k]? = some p) (left:Int):prj l 0 k left=((⟨p.kind,p.name,p.text,p.attrs,[]⟩:Nd (Tr 0)),left-1):=by
 unfold prj
 rw [hp]
 rfl
theorem zfI {l:List PlV} {k m:Nat} {p:PlV} (hp:l[k]? = some p) (left:Int):prj l (m+1) k left=((⟨p.kind,p.name,p.text,p.attrs,(prjK (prj l m) (zay l p.id) [] (left-1)).1⟩:Nd (Tr (m+1))),(prjK (prj l m) (zay l p.id) [] (left-1)).2):=by
 conv=>lhs;unfold prj
 rw [hp]
 rfl
end Go.Proofs.YtgjolijncmkkhaaGreatDoor
namespace Go.Proofs.YtgjolijncmkkhaaGreatDoor
set_option linter.unusedVariables false
theorem zlj {α:Type} (f:α->Nat) (c:Nat):∀(l:List α),(∀x∈l,f x<=c)->(l.map f).sum<=c*l.length
 | [],_=>Nat.le_refl _
 | x::r,h=>by
  have h1:=h x (by simp)
  have h2:=zlj f c r (fun y hy=>h y (by simp [hy]))
  rw [List.map_cons,List.sum_cons,List.length_cons,Nat.mul_succ]
  omega
theorem zwH {l:List (Xg×Xg)} (h:zat l):szA l<=156:=by
 unfold szA
 have h1:=zlj (fun x:Xg×Xg=>x.1.length+x.2.length) 38 l (fun x hx=>by
  obtain⟨i,hi,rfl⟩:=List.getElem_of_mem hx
  have:=h.2 i hi
  unfold zdb at this
  have e:l.getD i ([],[])=l[i]:=by simp [hi]
  rw [e]at this
  have a1:=this.1.2.1
  have a2:=this.2.1.1
  omega)
 have:=h.1
 omega
def zeb (p:PlV):Prop:=p.name.length+p.text.length+szA p.attrs<=200
theorem ztr {p:PlV} (h:zbi p=true):zeb p:=by
 unfold zbi at h
 rw [zbl,if_neg (by omega)]at h
 unfold zeb
 by_cases h1:(zaN p).kind=1
 ·rw [if_pos h1]at h
  have h2:=(zaX _).1 h
  have e1:p.name.length=0:=h2.1
  have e2:p.attrs.length=0:=h2.2.1
  have e3:p.text.length<=30:=h2.2.2.2.1
  have e4:szA p.attrs=0:=by rw [List.length_eq_zero_iff.1 e2];rfl
  omega
 ·rw [if_neg h1]at h
  by_cases h2:zaM (zaN p)=true
  ·have h3:=(zba _).1 h2
   have e1:p.name.length<=8:=h3.2.1.2.1
   have e2:p.text.length=0:=h3.2.2.1
   have e3:zat p.attrs:=h3.2.2.2.1
   have:=zwH e3
   omega
  ·rw [if_neg h2]at h;cases h
theorem zoQ {l:List PlV} (h:stB l=true):∀p∈l,zeb p:=by
 intro p hp
 obtain⟨i,hi,rfl⟩:=List.getElem_of_mem hp
 unfold stB at h
 simp only [Bool.and_eq_true,zaZ]at h
 have:=h.2 i l[i] (by simp [hi])
 unfold zcY at this
 simp only [Bool.and_eq_true]at this
 exact ztr this.1.1.1
theorem zrG {α:Type} (f:Nat->Int->α×Int) (sz:α->Nat) (hf:∀k left,0<left->0<=(f k left).2∧((sz (f k left).1:Nat):Int)+1<=201*(left-(f k left).2)):∀(ks:Xh) (acc:List α) (left:Int),0<=left->0<=(prjK f ks acc left).2∧(((prjK f ks acc left).1.length+((prjK f ks acc left).1.map sz).sum:Nat):Int)<=((acc.length+(acc.map sz).sum:Nat):Int)+201*(left-(prjK f ks acc left).2)
 | [],acc,left,h=>⟨h,by simp [prjK]⟩
 | k::ks,acc,left,h=>by
  unfold prjK
  by_cases h0:left<=0
  ·rw [if_pos h0];exact⟨h,by simp⟩
  ·rw [if_neg h0]
   obtain⟨h1,h2⟩:=hf k left (by omega)
   obtain⟨h3,h4⟩:=zrG f sz hf ks (acc++[(f k left).1]) (f k left).2 h1
   refine⟨h3,?_⟩
   rw [List.length_append,List.map_append,List.sum_append]at h4
   simp only [List.length_singleton,List.map_cons,List.map_nil,List.sum_cons,List.sum_nil,Nat.add_zero]at h4
   omega
theorem zqq {l:List PlV} (H:∀p∈l,zeb p):∀(m k:Nat) (left:Int),0<left->0<=(prj l m k left).2∧((szT (m+1) (prj l m k left).1:Nat):Int)+1<=201*(left-(prj l m k left).2)
 | 0,k,left,h=>by
  unfold prj
  cases hp:l[k]? with
  | none=>
   simp only
   refine⟨by omega,?_⟩
   have e:szT 1 ((⟨0,[],[],[],[]⟩:Nd (Tr 0)):Tr 1)=0:=rfl
   rw [e]
   omega
  | some p=>
   simp only
   refine⟨by omega,?_⟩
   have hs:=H p (List.mem_of_getElem? hp)
   unfold zeb at hs
   have e:szT 1 ((⟨p.kind,p.name,p.text,p.attrs,[]⟩:Nd (Tr 0)):Tr 1)=p.name.length+p.text.length+szA p.attrs+(([]:List (Tr 0)).length+(([]:List (Tr 0)).map (szT 0)).sum):=rfl
   rw [e]
   simp only [List.length_nil,List.map_nil,List.sum_nil]
   omega
 | m+1,k,left,h=>by
  cases hp:l[k]? with
  | none=>
   have e0:prj l (m+1) k left=((⟨0,[],[],[],[]⟩:Nd (Tr (m+1))),left-1):=by
    conv=>lhs;unfold prj
    rw [hp]
    rfl
   have e1:(prj l (m+1) k left).2=left-1:=congrArg Prod.snd e0
   have e2:szT (m+2) (prj l (m+1) k left).1=0:=by
    have:(prj l (m+1) k left).1=((⟨0,[],[],[],[]⟩:Nd (Tr (m+1))):Tr (m+2)):=congrArg Prod.fst e0
    rw [this]
    rfl
   rw [e1,e2]
   exact⟨by omega,by omega⟩
  | some p=>
   have hs:=H p (List.mem_of_getElem? hp)
   unfold zeb at hs
   have e0:=zfI (m:=m) hp left
   obtain⟨h1,h2⟩:=zrG (prj l m) (szT (m+1)) (fun k left h=>zqq H m k left h) (zay l p.id) [] (left-1) (by omega)
   have e1:(prj l (m+1) k left).2=(prjK (prj l m) (zay l p.id) [] (left-1)).2:=congrArg Prod.snd e0
   have e2:szT (m+2) (prj l (m+1) k left).1=p.name.length+p.text.length+szA p.attrs+((prjK (prj l m) (zay l p.id) [] (left-1)).1.length+((prjK (prj l m) (zay l p.id) [] (left-1)).1.map (szT (m+1))).sum):=by
    have:(prj l (m+1) k left).1=((⟨p.kind,p.name,p.text,p.attrs,(prjK (prj l m) (zay l p.id) [] (left-1)).1⟩:Nd (Tr (m+1))):Tr (m+2)):=congrArg Prod.fst e0
    rw [this]
    rfl
   rw [e1,e2]
   simp only [List.length_nil,List.map_nil,List.sum_nil]at h2
   exact⟨h1,by omega⟩
def pjR (l:List PlV):Tr 20:=if stB l=true then (prj l 19 0 120).1 else (⟨0,[],[],[],[]⟩:Nd (Tr 19))
theorem zjH {l:List PlV} (h:stB l=true):pjR l=(prj l 19 0 120).1:=if_pos h
theorem zuy {l:List PlV} (h:stB l=false):pjR l=(⟨0,[],[],[],[]⟩:Nd (Tr 19)):=if_neg (by rw [h];simp)
theorem zAl (l:List PlV):szT 20 (pjR l)<=24120:=by
 by_cases h:stB l=true
 ·rw [zjH h]
  obtain⟨h1,h2⟩:=zqq (zoQ h) 19 0 120 (by omega)
  have h3:((szT 20 (prj l 19 0 120).1:Nat):Int)+1<=201*(120-(prj l 19 0 120).2):=h2
  omega
 ·rw [zuy (by simpa using h)]
  have:szT 20 ((⟨0,[],[],[],[]⟩:Nd (Tr 19)):Tr 20)=0:=rfl
  omega
end Go.Proofs.YtgjolijncmkkhaaGreatDoor
