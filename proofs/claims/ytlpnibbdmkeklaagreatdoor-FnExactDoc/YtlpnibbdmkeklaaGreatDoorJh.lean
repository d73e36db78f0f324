/- Own texts joined: FoldM, PjM, PjK, PjS, FoY, PjN, PjZ, PjO, HalfT, IdsT, OwOs, RootB, RepT, MkupT, DcM, CpI, CpS, CpO, OrdI. -/
import Derived.Test.YtlpnibbdmkeklaaGreatDoorJa
import Derived.Test.YtlpnibbdmkeklaaGreatDoorJb
import Derived.Test.YtlpnibbdmkeklaaGreatDoorJc
import Derived.Test.YtlpnibbdmkeklaaGreatDoorJd
import Derived.Test.YtlpnibbdmkeklaaGreatDoorJe
import Derived.Test.YtlpnibbdmkeklaaGreatDoorJf
import Derived.Test.YtlpnibbdmkeklaaGreatDoorJg
import Derived.Test.YtlpnibbdmkeklaaGreatDoorChecked
namespace Go.Proofs.YtlpnibbdmkeklaaGreatDoor
open Go.RowKit
set_option linter.unusedVariables false
set_option maxRecDepth 100000
def GdA (x:AtV):Prop:=x.1.length<=100∧x.2.length<=100
def Gd (p:PlV):Prop:=p.key.length<=100∧p.name.length<=100∧p.text.length<=100∧SrtA p.attrs∧p.attrs.length<=4∧∀x∈p.attrs,GdA x
theorem zfs {l:Xa} (h:zah l):okB l:=fun x hx=>by
 obtain⟨i,hi,rfl⟩:=List.getElem_of_mem hx
 have h1:=h.2.2 i hi
 rw [zcq hi]at h1
 unfold zcK at h1
 omega
theorem znS {l:List AtV} (h:zal l):SrtA l:=by
 have hn:∀i (hi:i<l.length),zah l[i].1:=fun i hi=>by
  have h1:=(h.2 i hi).1
  rw [List.getD_eq_getElem?_getD,List.getElem?_eq_getElem hi]at h1
  exact h1
 have hs:∀i (hi:i+1<l.length),klB l[i].1 l[i+1].1=true:=fun i hi=>by
  have h1:=(h.2 (i+1) hi).2.2 (by omega)
  rw [show i+1-1=i by omega,List.getD_eq_getElem?_getD,List.getElem?_eq_getElem (show i<l.length by omega),List.getD_eq_getElem?_getD,List.getElem?_eq_getElem hi]at h1
  rw [<-zff (zfs (hn i (by omega))) (zfs (hn (i+1) hi))]
  exact h1
 refine List.pairwise_iff_getElem.2 (fun i j hi hj hij=> ?_)
 obtain⟨d,rfl⟩:∃d,j=i+1+d:=⟨j-i-1,by omega⟩
 induction d with
 | zero=>exact hs i hj
 | succ d ih=>exact zdB (ih (by omega) (by omega)) (hs (i+1+d) hj)
theorem zmD {l:List AtV} (h:zal l):SrtA l∧l.length<=4∧∀x∈l,GdA x:=by
 refine⟨znS h,h.1,fun x hx=> ?_⟩
 obtain⟨i,hi,rfl⟩:=List.getElem_of_mem hx
 have h1:=h.2 i hi
 unfold zcc at h1
 rw [List.getD_eq_getElem?_getD,List.getElem?_eq_getElem hi]at h1
 have a1:=h1.1.2.1
 have a2:=h1.2.1.1
 simp only [Option.getD_some]at a1 a2
 exact⟨by omega,by omega⟩
theorem zkz {n:Nat} {deep:Int} {t:Tr (n+1)} {left:Int} (h:(okT (n+1) deep t left).1=true):t.name.length<=100∧t.text.length<=100∧SrtA t.attrs∧t.attrs.length<=4∧∀x∈t.attrs,GdA x:=by
 rw [zbo]at h
 by_cases h1:left-1<0∨20<deep
 ·rw [if_pos h1]at h;cases h
 ·rw [if_neg h1]at h
  by_cases h2:t.kind=1
  ·rw [if_pos h2]at h
   obtain⟨a1,a2,_,a4⟩:=(zbb t).1 h
   have e:t.attrs=[]:=List.eq_nil_of_length_eq_zero a2
   rw [e]
   have:=a4.1
   exact⟨by omega,by omega,List.Pairwise.nil,by simp,fun x hx=>by cases hx⟩
  ·rw [if_neg h2]at h
   by_cases h3:zaT t=true
   ·obtain⟨_,a2,a3,a4,_⟩:=(zbh t).1 h3
    have:=a2.2.1
    exact⟨by omega,by omega,zmD a4⟩
   ·rw [if_neg h3]at h;cases h
theorem zjs:∀(n:Nat) (deep:Int) (ks:List (Tr n)) (left:Int) (i:IdV) (acc:List PlV),0<=left->(okK (okT n deep) ks left).1=true->∀p∈zaB n i ks acc,p∈acc∨Gd p
 | 0,deep,ks,left,i,acc,h0,h=>fun p hp=>.inl hp
 | n+1,deep,ks,left,i,acc,h0,h=>by
  have key:∀(f:Nd (Tr n)->Int->Bool×Int),(∀x left,f x left=okT (n+1) deep x left)->∀(ks:List (Nd (Tr n))) (k:Nat) (acc:List PlV) (left:Int),0<=left->(okK f ks left).1=true->
    ∀p∈(ks.zipIdx k).foldl (zaZ n i) acc,p∈acc∨Gd p:=by
   intro f hf ks
   induction ks with
   | nil=>intro k acc left _ _ p hp;exact .inl hp
   | cons x r ih=>
    intro k acc left h0 h
    have h1':(f x left).1=true:=by
     cases hb:(f x left).1 with
     | true=>rfl
     | false=>simp [okK,hb]at h
    have e1:okK f (x::r) left=okK f r (f x left).2:=by simp [okK,h1']
    rw [e1]at h
    have h1:(okT (n+1) deep x left).1=true:=by rw [<-hf];exact h1'
    have e3:=hf x left
    rw [e3]at h
    have hb:=zdH (n+1) deep x left h0
    obtain⟨p1,p2,p3,p4⟩:=zcz h1
    have hk:=zjs n (deep+1) x.kids (left-1) (0,(acc.length:Int)) (acc++[zaO acc.length i x k]) p2 p3
    have hr:=ih (k+1) (zaZ n i acc (x,k)) _ (hb.2.2 h1) h
    rw [List.zipIdx_cons,List.foldl_cons]
    intro p hp
    rcases hr p hp with h7 | h7
    ·rcases hk p h7 with h8 | h8
     ·rcases List.mem_append.1 h8 with h9 | h9
      ·exact .inl h9
      ·have e:p=zaO acc.length i x k:=by simpa using h9
       subst e
       obtain⟨g1,g2,g3⟩:=zkz h1
       exact .inr ⟨by simp [zaO],g1,g2,g3⟩
     ·exact .inr h8
    ·exact .inr h7
  exact key (okT (n+1) deep) (fun _ _=>rfl) ks 0 acc left h0 h
theorem zmB:∀(n:Nat) (i:IdV) (ks:List (Tr n)) (acc:List PlV),Fr acc->SeedIds acc->(∃j,posP acc i=some j)->Fr (zaB n i ks acc)∧(∀id j,posP acc id=some j->posP (zaB n i ks acc) id=some j)∧∀k,k<acc.length->(zaB n i ks acc)[k]? = acc[k]?
 | 0,i,ks,acc,h,hs,hp=>⟨h,fun _ _ h=>h,fun _ _=>rfl⟩
 | n+1,i,ks,acc,h,hs,hp=>by
  have key:∀(ks:List (Nd (Tr n))) (k:Nat) (acc:List PlV),Fr acc->SeedIds acc->(∃j,posP acc i=some j)->Fr ((ks.zipIdx k).foldl (zaZ n i) acc)∧(∀id j,posP acc id=some j->posP ((ks.zipIdx k).foldl (zaZ n i) acc) id=some j)∧∀m,m<acc.length->((ks.zipIdx k).foldl (zaZ n i) acc)[m]? = acc[m]? :=by
   intro ks
   induction ks with
   | nil=>intro k acc h _ _;exact⟨h,fun _ _ h=>h,fun _ _=>rfl⟩
   | cons x r ih=>
    intro k acc h hs hp
    obtain⟨j,hj⟩:=hp
    rw [List.zipIdx_cons,List.foldl_cons]
    have hn:posP acc (zaO acc.length i x k).id=none:=hs.new
    have h1:Fr (acc++[zaO acc.length i x k]):=h.add hn (show posP acc (zaO acc.length i x k).par=some j from hj)
    have hs1:SeedIds (acc++[zaO acc.length i x k]):=hs.snoc rfl rfl
    have hp1:posP (acc++[zaO acc.length i x k]) (0,(acc.length:Int))=some acc.length:=by
     have:=zfP (i:=(zaO acc.length i x k).id) hn
     rw [if_pos rfl]at this
     exact this
    obtain⟨a1,a2,a3⟩:=zmB n (0,(acc.length:Int)) x.kids (acc++[zaO acc.length i x k]) h1 hs1 ⟨_,hp1⟩
    have hs2:SeedIds (zaZ n i acc (x,k)):=SeedIds.K n _ _ _ hs1
    obtain⟨b1,b2,b3⟩:=ih (k+1) (zaZ n i acc (x,k)) a1 hs2 ⟨j,a2 i j (zdq hj)⟩
    have hle:acc.length+1<=(zaZ n i acc (x,k)).length:=zfq n i acc (x,k)
    refine⟨b1,fun id m hm=>b2 id m (a2 id m (zdq hm)),fun m hm=> ?_⟩
    rw [b3 m (by omega)]
    have:=a3 m (by simp;omega)
    rw [List.getElem?_append_left hm]at this
    exact this
  exact key ks 0 acc h hs hp
def zeD {n:Nat} (t:Nd (Tr n)):PlV:=⟨0,0,0,0,[],0,t.name,[],t.attrs⟩
def zaG {n:Nat} (t:Nd (Tr n)):List PlV:=[zeD t,zaP]
def zhF {n:Nat} (t:Nd (Tr n)):List PlV:=zaB n (0,0) t.kids (zaG t)
theorem zrl {n:Nat} (t:Nd (Tr n)):Fr (zaG t):=by
 refine⟨by simp [zaG],fun p h=> ?_,fun p h=> ?_,?_,fun i p hi h=> ?_,⟨fun _=>0,fun i p hi h=> ?_⟩⟩
 ·simp [zaG]at h;rw [<-h];rfl
 ·simp [zaG]at h;rw [<-h];rfl
 ·simp [zaG,zeD,zaP,PlV.id]
 ·have:=(List.getElem?_eq_some_iff.1 h).1
  simp [zaG]at this
  omega
 ·have:=(List.getElem?_eq_some_iff.1 h).1
  simp [zaG]at this
  omega
theorem zfx {n:Nat} (t:Nd (Tr n)):SeedIds (zaG t):=fun p hp=>by
 simp [zaG]at hp
 rcases hp with rfl | rfl
 ·exact⟨rfl,(show (0:Int)<=0 by decide),by simp [zaG,zeD]⟩
 ·exact⟨rfl,(show (0:Int)<=1 by decide),by simp [zaG,zaP]⟩
structure Alg (l:List PlV) (done:List OpV):Prop where
 fr:Fr l
 gd:∀p∈l,Gd p
 kd:Kd2 l
 ids:∀p∈l,p.idN=0∨∃o∈done,p.id=o.at'
 len:l.length<=121+done.length
theorem Alg.at {l:List PlV} {done:List OpV} (h:Alg l done):AtI l:=fun p hp=>⟨(h.gd p hp).2.2.2.1,(h.gd p hp).2.2.2.2.1⟩
theorem zkf {n:Nat} {t:Tr (n+1)} (h:okN n t=true):Alg (zhF t) []:=by
 obtain⟨hk,ho⟩:=Bool.and_eq_true_iff.1 (show (decide (t.kind=0) && (okT (n+1) 1 t 120).1)=true from h)
 obtain⟨p1,p2,p3,p4⟩:=zcz ho
 obtain⟨g1,g2,g3⟩:=zkz ho
 have hbase:∀p∈zaG t,Gd p:=fun p hp=>by
  simp [zaG]at hp
  rcases hp with rfl | rfl
  ·exact⟨by simp [zeD],g1,by simp [zeD],g3⟩
  ·exact⟨by simp [zaP],by decide,by simp [zaP],List.Pairwise.nil,by simp [zaP],fun x hx=>by cases hx⟩
 obtain⟨f1,f2,f3⟩:=zmB n (0,0) t.kids (zaG t) (zrl t) (zfx t) ⟨0,posP_some.2 ⟨by simp [zaG],rfl,fun j hj=>by omega⟩⟩
 refine⟨f1,fun p hp=> ?_,fun k p hk2 hp=> ?_,fun p hp=>.inl ((zfx t).K n (0,0) t.kids (zaG t) p hp).1,?_⟩
 ·rcases zjs n 2 t.kids (120-1) (0,0) (zaG t) p2 p3 p hp with e | e
  ·exact hbase p e
  ·exact e
 ·rw [show zhF t=zaB n (0,0) t.kids (zaG t) from rfl,f3 k (by simpa [zaG]using hk2)]at hp
  match k,hk2 with
  | 0,_=>simp [zaG]at hp;rw [<-hp];rfl
  | 1,_=>simp [zaG]at hp;rw [<-hp];rfl
 ·have h9:(zhF t).length<=(zaG t).length+119:=(zlQ h (zaG t) (fun p hp=>(hbase p hp).2.2.2.2.1)).1
  have e2:(zaG t).length=2:=rfl
  rw [e2]at h9
  exact h9
theorem zso {l:List AtV} (h:∀x∈l,GdA x) (o:OpV) (hn:o.name.length<=100) (ht:o.text.length<=100):∀x∈chgI l o,GdA x:=by
 have hx:GdA (o.name,o.text):=⟨hn,ht⟩
 unfold chgI
 intro x hx'
 split at hx'
 ·split at hx'
  ·rcases List.mem_append.1 hx' with e | e
   ·exact h x (List.mem_of_mem_take e)
   ·exact h x (List.mem_of_mem_drop e)
  ·rcases List.mem_or_eq_of_mem_set hx' with e | e
   ·exact h x e
   ·rw [e];exact hx
 ·split at hx'
  ·exact h x hx'
  ·split at hx'
   ·exact h x hx'
   ·rcases List.mem_append.1 hx' with e | e
    ·exact h x (List.mem_of_mem_take e)
    ·rcases List.mem_cons.1 e with e | e
     ·rw [e];exact hx
     ·exact h x (List.mem_of_mem_drop e)
theorem ztf {l:List PlV} (h:∀p∈l,Gd p) (o:OpV) (hk:o.key.length<=100) (hn:o.name.length<=100) (ht:o.text.length<=100):∀p∈doV l o,Gd p:=by
 unfold doV
 split
 ·split
  ·intro p hp
   rcases List.mem_append.1 hp with hp | hp
   ·exact h p hp
   ·have e:p=newP o:=by simpa using hp
    rw [e]
    exact⟨hk,hn,ht,List.Pairwise.nil,by simp [newP],fun x hx=>by cases hx⟩
  ·exact h
 ·split
  ·exact h
  ·split
   ·exact h
   ·rename_i p hp
    obtain⟨a1,a2,a3,a4,a5,a6⟩:=h p (List.mem_of_getElem? hp)
    split
    ·split
     ·intro q hq
      rcases zem hq with hq | rfl
      ·exact h q hq
      ·exact⟨hk,a2,a3,a4,a5,a6⟩
     ·exact h
    ·split
     ·split
      ·intro q hq
       rcases zem hq with hq | rfl
       ·exact h q hq
       ·exact⟨a1,a2,ht,a4,a5,a6⟩
      ·exact h
     ·split
      ·intro q hq
       rcases zem hq with hq | rfl
       ·exact h q hq
       ·refine⟨a1,a2,a3,?_⟩
        show SrtA (zbg p.attrs o)∧(zbg p.attrs o).length<=4∧∀x∈zbg p.attrs o,GdA x
        rw [zhz a4 a5]
        exact⟨zlW a4 o,zmi a5 o,zso a6 o hn ht⟩
      ·exact h
theorem zsL {l:List PlV} (o:OpV):∀p∈doV l o,(∃q∈l,p.id=q.id)∨p.id=o.at':=by
 unfold doV
 split
 ·split
  ·intro p hp
   rcases List.mem_append.1 hp with hp | hp
   ·exact .inl ⟨p,hp,rfl⟩
   ·have e:p=newP o:=by simpa using hp
    rw [e];exact .inr rfl
  ·exact fun p hp=>.inl ⟨p,hp,rfl⟩
 ·split
  ·exact fun p hp=>.inl ⟨p,hp,rfl⟩
  ·split
   ·exact fun p hp=>.inl ⟨p,hp,rfl⟩
   ·rename_i p hp
    have hm:=List.mem_of_getElem? hp
    split
    ·split
     ·intro q hq
      rcases zem hq with hq | rfl
      ·exact .inl ⟨q,hq,rfl⟩
      ·exact .inl ⟨p,hm,rfl⟩
     ·exact fun p hp=>.inl ⟨p,hp,rfl⟩
    ·split
     ·split
      ·intro q hq
       rcases zem hq with hq | rfl
       ·exact .inl ⟨q,hq,rfl⟩
       ·exact .inl ⟨p,hm,rfl⟩
      ·exact fun p hp=>.inl ⟨p,hp,rfl⟩
     ·split
      ·intro q hq
       rcases zem hq with hq | rfl
       ·exact .inl ⟨q,hq,rfl⟩
       ·exact .inl ⟨p,hm,rfl⟩
      ·exact fun p hp=>.inl ⟨p,hp,rfl⟩
theorem zsF (l:List PlV) (o:OpV):(doV l o).length<=l.length+1:=by
 unfold doV
 split
 ·split
  ·simp
  ·omega
 ·split
  ·omega
  ·split
   ·omega
   ·split
    ·split
     ·simp
     ·omega
    ·split
     ·split
      ·simp
      ·omega
     ·split
      ·simp
      ·omega
theorem zop {x:OpV} (h:zbq x=true):x.key.length=0∧x.name.length=0∧x.text.length=0:=by
 unfold zbq at h
 simp only [Bool.and_eq_true]at h
 obtain⟨_,_,_,_,h5,_,h7,h8,_⟩:=h
 have hz:∀{t:Xa},((t.length:Int) == 0)=true->t.length=0:=fun h=>by simpa using h
 exact⟨hz h5,hz h7,hz h8⟩
theorem zlR {o:OpV} (h:opB o=true):o.key.length<=100∧o.name.length<=100∧o.text.length<=100:=by
 have htx:∀{t:Xa},zbt t=true->t.length<=30:=fun h=>((zbE _).1 h).1
 have hnm:∀{t:Xa},zbD t=true->t.length<=8:=fun h=>((zby _).1 h).2.1
 have hky:∀{t:Xa},keyB t=true->t.length<=12:=fun h=>((zeo _).1 h).2.1
 have hz:∀{t:Xa},((t.length:Int) == 0)=true->t.length=0:=fun h=>by simpa using h
 rcases zis h with hk | hk | hk | hk
 ·rw [zjE hk]at h
  simp only [Bool.and_eq_true]at h
  have h1:=hky h.2.1.2.1
  have h2:=h.2.1.2.2
  unfold zcF at h2
  by_cases e0:o.elem=0
  ·rw [if_pos e0,Bool.and_eq_true]at h2
   have:=hnm h2.1
   have:=hz h2.2
   omega
  ·rw [if_neg e0]at h2
   by_cases e1:o.elem=1
   ·rw [if_pos e1,Bool.and_eq_true]at h2
    have:=hz h2.1
    have:=htx h2.2
    omega
   ·rw [if_neg e1]at h2;cases h2
 ·rw [zjA hk]at h
  simp only [Bool.and_eq_true]at h
  have h1:=hky h.2.1.2.2
  have h2:=zop h.2.2
  have e1:o.name.length=0:=h2.2.1
  have e2:o.text.length=0:=h2.2.2
  omega
 ·rw [zjC hk]at h
  simp only [Bool.and_eq_true]at h
  have h1:=htx h.2.1.2
  have h2:=zop h.2.2
  have e1:o.key.length=0:=h2.1
  have e2:o.name.length=0:=h2.2.1
  omega
 ·rw [zjF hk]at h
  simp only [Bool.and_eq_true]at h
  have h1:=hnm h.2.1.2.1
  have h3:=h.2.1.2.2
  have h2:=zop h.2.2
  have e1:o.key.length=0:=h2.1
  unfold valB at h3
  by_cases eg:o.gone=true
  ·rw [if_pos eg]at h3
   have:=hz h3
   omega
  ·rw [if_neg eg]at h3
   have:=htx h3
   omega
theorem Alg.new {l:List PlV} {ops:List OpV} (ho:opsB ops=true) {j:Nat} (hj:j<ops.length) (h:Alg l (ops.take j)) (h0:ops[j].kind=0):posP l ops[j].at'=none:=posP_none.2 (fun p hp e=>by
 obtain⟨hst,_⟩:=znY (zdI ho hj) h0
 have h1:1<=ops[j].atN:=by unfold zam at hst;simp only [Bool.and_eq_true,decide_eq_true_eq]at hst;exact hst.1
 have eN:p.idN=ops[j].atN:=(Prod.mk.inj e).1
 rcases h.ids p hp with h9 | ⟨o,hom,h9⟩
 ·omega
 ·obtain⟨i,hi,rfl⟩:=List.getElem_of_mem hom
  have hi':i<j:=by rw [List.length_take]at hi;omega
  have hs:=zll ho hi' hj
  have e2:(ops.take j)[i]=ops[i]'(by omega):=List.getElem_take ..
  rw [e2]at h9
  have e3:(ops[i]'(by omega)).at'=ops[j].at':=h9.symm.trans e
  have eA:(ops[i]'(by omega)).atN=ops[j].atN:=(Prod.mk.inj e3).1
  have eB:(ops[i]'(by omega)).atR=ops[j].atR:=(Prod.mk.inj e3).2
  rw [eA,eB,zqs]at hs
  cases hs)
theorem Alg.step {l:List PlV} {ops:List OpV} (ho:opsB ops=true) {j:Nat} (hj:j<ops.length) (h:Alg l (ops.take j)):Alg (doV l ops[j]) (ops.take (j+1)):=by
 obtain⟨k1,k2,k3⟩:=zlR (zdI ho hj)
 have e:ops.take (j+1)=ops.take j++[ops[j]]:=List.take_succ_eq_append_getElem hj
 refine⟨h.fr.do _ (fun h0=>h.new ho hj h0),ztf h.gd _ k1 k2 k3,h.kd.do h.fr.two _,fun p hp=> ?_,?_⟩
 ·rw [e]
  rcases zsL _ p hp with ⟨q,hq,e1⟩ | e1
  ·rcases h.ids q hq with e2 | ⟨o,hom,e2⟩
   ·exact .inl (by have:=(Prod.mk.inj e1).1;omega)
   ·exact .inr ⟨o,List.mem_append_left _ hom,e1.trans e2⟩
  ·exact .inr ⟨ops[j],List.mem_append_right _ (List.mem_singleton.2 rfl),e1⟩
 ·have:=zsF l ops[j]
  have:=h.len
  rw [e,List.length_append,List.length_singleton]
  omega
def zdu {n:Nat} (t:Nd (Tr n)) (ops:List OpV) (j:Nat):List PlV:=(ops.take j).foldl doV (zhF t)
theorem zfy {n:Nat} (t:Nd (Tr n)) (ops:List OpV) {j:Nat} (hj:j<ops.length):zdu t ops (j+1)=doV (zdu t ops j) ops[j]:=by
 unfold zdu
 rw [List.take_succ_eq_append_getElem hj,List.foldl_append]
 rfl
theorem zge {n:Nat} (t:Nd (Tr n)) (ops:List OpV):zdu t ops ops.length=zaK t ops:=by unfold zdu;rw [List.take_length];rfl
theorem zew {n:Nat} {t:Tr (n+1)} (h:okN n t=true) {ops:List OpV} (ho:opsB ops=true):∀j,j<=ops.length->Alg (zdu t ops j) (ops.take j)
 | 0,_=>by rw [List.take_zero];exact zkf h
 | j+1,hj=>by rw [zfy t ops (by omega)];exact (zew h ho j (by omega)).step ho (by omega)
theorem zrk {n:Nat} {t:Tr (n+1)} (h:okN n t=true) {ops:List OpV} (ho:opsB ops=true):BdO (zaK t ops)∧(zaK t ops).length<=271:=by
 have ha0:=zew h ho ops.length (Nat.le_refl _)
 rw [List.take_length]at ha0
 have ha:Alg (zaK t ops) ops:=by
  have e:=zge (n:=n) t ops
  rw [<-e]
  exact ha0
 have h1:=(zdb ho).1
 have h2:=ha.len
 refine⟨⟨by omega,fun p hp=> ?_⟩,by omega⟩
 obtain⟨a1,a2,a3,a4,a5,a6⟩:=ha.gd p hp
 exact⟨by omega,by omega,by omega,by omega,fun x hx=>⟨by have:=(a6 x hx).1;omega,by have:=(a6 x hx).2;omega⟩⟩
end Go.Proofs.YtlpnibbdmkeklaaGreatDoor
namespace Go.Proofs.YtlpnibbdmkeklaaGreatDoor
set_option linter.unusedVariables false
structure FrW (l:List PlV):Prop where
 two:2<=l.length
 root:∀p,l[0]? = some p->p.id=zak
 trash:∀p,l[1]? = some p->p.id=zag
 uniq:(l.map PlV.id).Nodup
 par:∀i p,2<=i->l[i]? = some p->∃j,posP l p.par=some j
theorem FrW.low {l:List PlV} (h:FrW l) {i:IdV} {k:Nat} (hk:posP l i=some k):k<2↔i=zak∨i=zag:=by
 obtain⟨p,hp,rfl⟩:=zbp hk
 have h2:=h.two
 obtain⟨p0,h0⟩:∃p0,l[0]? = some p0:=⟨l[0],by simp [show 0<l.length by omega]⟩
 obtain⟨p1,h1⟩:∃p1,l[1]? = some p1:=⟨l[1],by simp [show 1<l.length by omega]⟩
 constructor
 ·intro hlt
  match k,hlt with
  | 0,_=>exact .inl (h.root p hp)
  | 1,_=>exact .inr (h.trash p hp)
 ·rintro (e | e)
  ·have:=zbr h.uniq h0
   rw [h.root p0 h0,<-e,hk]at this
   cases this;decide
  ·have:=zbr h.uniq h1
   rw [h.trash p1 h1,<-e,hk]at this
   cases this;decide
theorem php:∀(n:Nat) (l:Xb),l.Nodup->(∀x∈l,x<n)->l.length<=n
 | 0,l,_,h=>by
  cases l with
  | nil=>simp
  | cons a r=>exact absurd (h a (List.mem_cons_self ..)) (by omega)
 | n+1,l,hn,h=>by
  by_cases e:n∈l
  ·have h1:=php n (l.erase n) (hn.erase n) (fun x hx=>by
    have h2:=h x (List.mem_of_mem_erase hx)
    have h3:x≠n:=fun e'=>by
     subst e'
     exact (List.Nodup.not_mem_erase hn) hx
    omega)
   rw [List.length_erase_of_mem e]at h1
   omega
  ·have h1:=php n l hn (fun x hx=>by
    have h2:=h x hx
    have h3:x≠n:=fun e'=>e (e' ▸ hx)
    omega)
   omega
theorem zsb (n:Nat) (f:Nat->Nat) (h:∀i,i<=n->f i<n):∃a b,a<b∧b<=n∧f a=f b:=by
 by_cases hd:((List.range (n+1)).map f).Nodup
 ·have:=php n _ hd (fun x hx=>by
   obtain⟨i,hi,rfl⟩:=List.mem_map.1 hx
   exact h i (by have:=List.mem_range.1 hi;omega))
  simp at this
  omega
 ·have hd':¬ ∀i j (hi:i<((List.range (n+1)).map f).length) (hj:j<((List.range (n+1)).map f).length),i<j->((List.range (n+1)).map f)[i]≠((List.range (n+1)).map f)[j]:=fun h'=>hd (List.pairwise_iff_getElem.2 h')
  apply Classical.byContradiction
  intro hc
  apply hd'
  intro i j hi hj hij e
  simp at hi hj e
  exact hc ⟨i,j,hij,by omega,e⟩
def upP (l:List PlV) (i:Nat):Nat:=match l[i]? with
 | some p=>(posP l p.par).getD 0
 | none=>0
def upN (l:List PlV):Nat->Nat->Nat
 | 0,i=>i
 | m+1,i=>upN l m (upP l i)
theorem zgB (l:List PlV):∀(a b i:Nat),upN l (a+b) i=upN l b (upN l a i)
 | 0,b,i=>by simp [upN]
 | a+1,b,i=>by rw [show a+1+b=(a+b)+1 by omega,upN,upN,zgB l a b]
theorem zqY (l:List PlV) (m i:Nat):upN l (m+1) i=upP l (upN l m i):=by rw [zgB l m 1];rfl
theorem FrW.up {l:List PlV} (h:FrW l) {i:Nat} {p:PlV} (hi:2<=i) (hp:l[i]? = some p):posP l p.par=some (upP l i):=by
 obtain⟨j,hj⟩:=h.par i p hi hp
 unfold upP
 rw [hp]
 simp [hj]
theorem FrW.upLt {l:List PlV} (h:FrW l) (i:Nat):upP l i<l.length:=by
 have h2:=h.two
 unfold upP
 cases hp:l[i]? with
 | none=>simp;omega
 | some p=>
  simp only
  cases hq:posP l p.par with
  | none=>simp;omega
  | some k=>simp;exact (posP_some.1 hq).1
theorem zfZ {l:List PlV} (h:FrW l) {b:Nat} {q:PlV} (hq:l[b]? = some q):∀(m i f:Nat) (p:PlV),l[i]? = some p->(∀j,j<m->2<=upN l j i)->upN l m i=b->m<f->zaw l f p.id q.id=true
 | 0,i,f,p,hp,_,he,hf=>by
  obtain⟨f',rfl⟩:∃f',f=f' + 1:=⟨f-1,by omega⟩
  have e:i=b:=he
  subst e
  rw [hp]at hq
  cases hq
  unfold zaw
  rw [if_pos rfl]
 | m+1,i,f,p,hp,hj,he,hf=>by
  obtain⟨f',rfl⟩:∃f',f=f' + 1:=⟨f-1,by omega⟩
  have hi:2<=i:=hj 0 (by omega)
  have hk:=zbr h.uniq hp
  have hn:¬ (p.id=zak∨p.id=zag):=fun e=>by have:=(h.low hk).2 e;omega
  have hu:=h.up hi hp
  obtain⟨r,hr,er⟩:=zbp hu
  have ih:=zfZ h hq m (upP l i) f' r hr (fun j hj'=>hj (j+1) (by omega)) he (by omega)
  by_cases e:p.id=q.id
  ·unfold zaw
   rw [if_pos e]
  ·unfold zaw
   rw [if_neg e,if_neg hn,hk]
   simp only [hp]
   rw [<-er]
   exact ih
theorem FrW.tops {l:List PlV} (h:FrW l) (hc:∀i p,2<=i->l[i]? = some p->zaw l l.length p.par p.id=false) (i:Nat) (hi:i<l.length):∃m,m<=l.length∧upN l m i<2:=by
 apply Classical.byContradiction
 intro hno
 have hge:∀m,m<=l.length->2<=upN l m i:=fun m hm=>by
  rcases Nat.lt_or_ge (upN l m i) 2 with h' | h'
  ·exact absurd ⟨m,hm,h'⟩ hno
  ·exact h'
 have hlt:∀m,m<=l.length->upN l m i<l.length:=fun m hm=>by
  cases m with
  | zero=>exact hi
  | succ m=>rw [zqY];exact h.upLt _
 obtain⟨a,b,hab,hb,e⟩:=zsb l.length (fun m=>upN l m i) hlt
 have e:upN l a i=upN l b i:=e
 have hla:=hlt a (by omega)
 obtain⟨q,hq⟩:∃q,l[upN l a i]? = some q:=⟨l[upN l a i],by simp [hla]⟩
 have h2:=hge a (by omega)
 have hu:=h.up h2 hq
 obtain⟨r,hr,er⟩:=zbp hu
 have hm:upN l (b-a-1) (upP l (upN l a i))=upN l a i:=by
  have h3:=zgB l a (b-a) i
  rw [show a+(b-a)=b by omega]at h3
  rw [show b-a=(b-a-1)+1 by omega,upN]at h3
  rw [<-h3,<-e]
 have:=zfZ h hq (b-a-1) (upP l (upN l a i)) l.length r hr (fun j hj=>by
  have h3:=zgB l a (j+1) i
  rw [upN]at h3
  rw [<-h3]
  exact hge _ (by omega)) hm (by omega)
 rw [er,hc _ q h2 hq]at this
 cases this
def depP (l:List PlV):Nat->Nat->Nat
 | 0,_=>0
 | f+1,i=>if i<2 then 0 else 1+depP l f (upP l i)
theorem ziu {l:List PlV}:∀(m f f' i:Nat),upN l m i<2->m<=f->m<=f'->depP l f i=depP l f' i
 | 0,f,f',i,h,_,_=>by
  have h:i<2:=h
  have:∀f,depP l f i=0:=fun f=>by
   cases f with
   | zero=>rfl
   | succ f=>unfold depP;rw [if_pos h]
  rw [this,this]
 | m+1,f,f',i,h,h1,h2=>by
  obtain⟨g,rfl⟩:∃g,f=g+1:=⟨f-1,by omega⟩
  obtain⟨g',rfl⟩:∃g',f'=g' + 1:=⟨f' - 1,by omega⟩
  unfold depP
  by_cases hi:i<2
  ·rw [if_pos hi,if_pos hi]
  ·rw [if_neg hi,if_neg hi,ziu m g g' (upP l i) h (by omega) (by omega)]
theorem FrW.fr {l:List PlV} (h:FrW l) (hc:∀i p,2<=i->l[i]? = some p->zaw l l.length p.par p.id=false):Fr l:=by
 refine⟨h.two,h.root,h.trash,h.uniq,h.par,fun i=>depP l l.length ((posP l i).getD 0),fun i p hi hp=> ?_⟩
 have hlt:i<l.length:=(List.getElem?_eq_some_iff.1 hp).1
 simp only [zbr h.uniq hp,h.up hi hp,Option.getD_some]
 obtain⟨m,hm,ht⟩:=h.tops hc i hlt
 obtain⟨m',rfl⟩:∃m',m=m' + 1:=⟨m-1,by
  rcases Nat.eq_zero_or_pos m with e | e
  ·subst e
   have:i<2:=ht
   omega
  ·omega⟩
 have ht':upN l m' (upP l i)<2:=ht
 obtain⟨n,hn⟩:∃n,l.length=n+1:=⟨l.length-1,by omega⟩
 have e1:depP l l.length i=1+depP l n (upP l i):=by
  rw [hn]
  conv=>lhs;unfold depP
  rw [if_neg (by omega)]
 rw [e1,ziu m' n l.length (upP l i) ht' (by omega) (by omega)]
 omega
theorem FrW.within_under {l:List PlV} (h:FrW l) (b:IdV):∀(f g:Nat) (i:IdV) (k:Nat),posP l i=some k->f<=g->zaw l f i b=true->zaz l g i b=true
 | 0,_,_,_,_,_,h'=>by unfold zaw at h';cases h'
 | f+1,0,_,_,_,h1,_=>by omega
 | f+1,g+1,i,k,hk,h1,h'=>by
  unfold zaw at h'
  unfold zaz
  by_cases e:i=b
  ·rw [if_pos e]
  ·rw [if_neg e]at h' ⊢
   by_cases hn:i=zak∨i=zag
   ·rw [if_pos hn]at h';cases h'
   ·rw [if_neg hn]at h'
    have hk2:¬ k<2:=fun e'=>hn ((h.low hk).1 e')
    obtain⟨p,hp,rfl⟩:=zbp hk
    obtain⟨j,hj⟩:=h.par k p (by omega) hp
    simp only [hk,hp]at h' ⊢
    rw [if_neg hk2]
    exact FrW.within_under h b f g p.par j hj (by omega) h'
theorem FrW.free {l:List PlV} (h:FrW l):(∀i p,2<=i->l[i]? = some p->zaw l l.length p.par p.id=false)↔(∀i p,2<=i->l[i]? = some p->zaz l (l.length+1) p.par p.id=false):=by
 constructor
 ·intro hc i p hi hp
  rw [(h.fr hc).under _ _ _ (h.up hi hp)]
  exact hc i p hi hp
 ·intro hc i p hi hp
  have h1:=hc i p hi hp
  rw [Bool.eq_false_iff]
  intro h2
  rw [h.within_under p.id l.length (l.length+1) p.par _ (h.up hi hp) (by omega) h2]at h1
  cases h1
theorem zkU:∀{a b c:Xa},klB a b=true->klB b c=true->klB a c=true
 | [],[],_,h,_=>by cases h
 | [],_::_,[],_,h=>by cases h
 | [],_::_,_::_,_,_=>rfl
 | _::_,[],_,h,_=>by cases h
 | _::_,_::_,[],_,h=>by cases h
 | x::a,y::b,z::c,h,k=>by
  rw [klB]at h k ⊢
  by_cases e1:x=y
  ·rw [if_pos e1]at h
   by_cases e2:y=z
   ·rw [if_pos e2]at k
    rw [if_pos (e1.trans e2)]
    exact zkU h k
   ·rw [if_neg e2]at k
    rw [if_neg (by rw [e1];exact e2),e1]
    exact k
  ·rw [if_neg e1]at h
   have h:=of_decide_eq_true h
   by_cases e2:y=z
   ·rw [<-e2,if_neg e1]
    exact decide_eq_true h
   ·rw [if_neg e2]at k
    have k:=of_decide_eq_true k
    rw [if_neg (by omega)]
    exact decide_eq_true (by omega)
def zay (a b:PlV):Bool:=klB a.key b.key || (!klB b.key a.key && zan a.idN a.idR b.idN b.idR)
theorem zeB (a b:PlV):zay a b=true↔klB a.key b.key=true∨(a.key=b.key∧zan a.idN a.idR b.idN b.idR=true):=by
 have h1:=zed a.key b.key
 have h2:=zjZ a.key b.key
 unfold zay
 cases e1:klB a.key b.key
 ·cases e2:klB b.key a.key
  ·rw [e1,e2]at h1
   have h3:a.key=b.key:=by simpa using h1
   simp [h3]
  ·rw [e1,e2]at h1
   have h3:a.key≠b.key:=by simpa using h1
   simp [h3]
 ·simp
theorem zji (a:PlV):zay a a=false:=by
 rw [Bool.eq_false_iff]
 intro h
 rcases (zeB a a).1 h with h | ⟨_,h⟩
 ·rw [zlV]at h;cases h
 ·unfold zan at h;simp at h
theorem zdv {a b c:PlV} (h:zay a b=true) (k:zay b c=true):zay a c=true:=by
 rw [zeB]at *
 rcases h with h | ⟨e,h⟩
 ·rcases k with k | ⟨e',_⟩
  ·exact .inl (zkU h k)
  ·exact .inl (e' ▸ h)
 ·rcases k with k | ⟨e',k⟩
  ·exact .inl (e ▸ k)
  ·refine .inr ⟨e.trans e',?_⟩
   unfold zan at *
   simp only [Bool.or_eq_true,decide_eq_true_eq,Bool.and_eq_true,beq_iff_eq]at *
   omega
theorem zmS {a b:PlV} (h:zay a b=true) (k:zay b a=true):False:=by
 have:=zdv h k
 rw [zji]at this
 cases this
theorem ziJ {a b:PlV} (h:a.id≠b.id):zay a b=true∨zay b a=true:=by
 rw [zeB,zeB]
 have h1:=zed a.key b.key
 by_cases e:a.key=b.key
 ·have h2:zan a.idN a.idR b.idN b.idR=true∨zan b.idN b.idR a.idN a.idR=true:=by
   unfold zan
   simp only [Bool.or_eq_true,decide_eq_true_eq,Bool.and_eq_true,beq_iff_eq]
   have h3:¬ (a.idN=b.idN∧a.idR=b.idR):=fun ⟨e1,e2⟩=>h (show (a.idN,a.idR)=(b.idN,b.idR) by rw [e1,e2])
   omega
  rcases h2 with h2 | h2
  ·exact .inl (.inr ⟨e,h2⟩)
  ·exact .inr (.inr ⟨e.symm,h2⟩)
 ·have h2:(klB a.key b.key || klB b.key a.key)=true:=by rw [h1];simp [e]
  rw [Bool.or_eq_true]at h2
  rcases h2 with h2 | h2
  ·exact .inl (.inl h2)
  ·exact .inr (.inl h2)
theorem ziB {α:Type} {R:α->α->Prop} (asym:∀a b,R a b->R b a->False):∀{l1 l2:List α},l1.Perm l2->l1.Pairwise R->l2.Pairwise R->l1=l2
 | [],l2,hp,_,_=>by rw [List.Perm.nil_eq hp]
 | a::l1,[],hp,_,_=>by exact absurd hp.length_eq (by simp)
 | a::l1,b::l2,hp,h1,h2=>by
  have e:a=b:=by
   rcases List.mem_cons.1 (hp.mem_iff.1 (List.mem_cons_self ..))with h | h
   ·exact h
   ·rcases List.mem_cons.1 (hp.mem_iff.2 (List.mem_cons_self ..))with k | k
    ·exact k.symm
    ·exact absurd ((List.pairwise_cons.1 h2).1 a h) (fun h3=>asym _ _ ((List.pairwise_cons.1 h1).1 b k) h3)
  subst e
  rw [ziB asym ((List.perm_cons a).1 hp) (List.pairwise_cons.1 h1).2 (List.pairwise_cons.1 h2).2]
def cutK (lt:Nat->Nat->Bool) (i:Nat) (out:Xb):Nat->Nat
 | 0=>0
 | k+1=>if lt i (out.getD k 0)=true then cutK lt i out k else k+1
theorem zmp (lt:Nat->Nat->Bool) (i:Nat) (out:Xb):∀k,cutK lt i out k<=k
 | 0=>Nat.le_refl _
 | k+1=>by
  unfold cutK
  by_cases h:lt i (out.getD k 0)=true
  ·rw [if_pos h];have:=zmp lt i out k;omega
  ·rw [if_neg h];exact Nat.le_refl _
theorem zgT (lt:Nat->Nat->Bool) (i:Nat) (out:Xb):∀k j,cutK lt i out k<=j->j<k->lt i (out.getD j 0)=true
 | 0,j,_,h=>by omega
 | k+1,j,h,h'=>by
  unfold cutK at h
  by_cases e:lt i (out.getD k 0)=true
  ·rw [if_pos e]at h
   by_cases ej:j=k
   ·rw [ej];exact e
   ·exact zgT lt i out k j h (by omega)
  ·rw [if_neg e]at h;omega
theorem zmu (lt:Nat->Nat->Bool) (i:Nat) (out:Xb):∀k,0<cutK lt i out k->lt i (out.getD (cutK lt i out k-1) 0)≠true
 | 0,h=>by exact absurd h (by simp [cutK])
 | k+1,h=>by
  unfold cutK at h ⊢
  by_cases e:lt i (out.getD k 0)=true
  ·rw [if_pos e]at h ⊢
   exact zmu lt i out k h
  ·rw [if_neg e]
   simpa using e
def insR (lt:Nat->Nat->Bool) (i:Nat) (out:Xb):Xb:=out.take (cutK lt i out out.length)++i::out.drop (cutK lt i out out.length)
theorem zfI (lt:Nat->Nat->Bool) (i:Nat) (out:Xb):(insR lt i out).Perm (i::out):=by
 unfold insR
 have h:=List.perm_middle (a:=i) (l₁ :=out.take (cutK lt i out out.length)) (l₂ :=out.drop (cutK lt i out out.length))
 rw [List.take_append_drop]at h
 exact h
theorem zid {out:Xb} {j:Nat} (h:j<out.length):out.getD j 0=out[j]:=by simp [h]
theorem zlh {lt:Nat->Nat->Bool} (tr:∀a b c,lt a b=true->lt b c=true->lt a c=true) {i:Nat} {out:Xb} (tot:∀x∈out,lt i x=true∨lt x i=true) (h:out.Pairwise (fun a b=>lt a b=true)):(insR lt i out).Pairwise (fun a b=>lt a b=true):=by
 have hc:=zmp lt i out out.length
 have hb:=zgT lt i out out.length
 have ha:=zmu lt i out out.length
 unfold insR
 generalize cutK lt i out out.length=c at *
 have hpw:=List.pairwise_iff_getElem.1 h
 have hlow:∀x∈out.take c,lt x i=true:=fun x hx=>by
  obtain⟨j,hj,rfl⟩:=List.getElem_of_mem hx
  have hj':j<c:=by rw [List.length_take]at hj;omega
  have hjl:j<out.length:=by omega
  rw [List.getElem_take]
  have hlast:lt (out[c-1]'(by omega)) i=true:=by
   have h1:=ha (by omega)
   rw [zid (by omega)]at h1
   rcases tot _ (List.getElem_mem (show c-1<out.length by omega))with h2 | h2
   ·exact absurd h2 h1
   ·exact h2
  by_cases e:j=c-1
  ·subst e;exact hlast
  ·exact tr _ _ _ (hpw j (c-1) hjl (by omega) (by omega)) hlast
 have hhigh:∀x∈out.drop c,lt i x=true:=fun x hx=>by
  obtain⟨j,hj,rfl⟩:=List.getElem_of_mem hx
  have hj':c+j<out.length:=by rw [List.length_drop]at hj;omega
  rw [List.getElem_drop]
  have:=hb (c+j) (by omega) hj'
  rwa [zid hj']at this
 rw [List.pairwise_append]
 refine⟨h.sublist (List.take_sublist _ _),List.pairwise_cons.2 ⟨hhigh,h.sublist (List.drop_sublist _ _)⟩,fun a ha' b hb'=> ?_⟩
 rcases List.mem_cons.1 hb' with rfl | hb'
 ·exact hlow a ha'
 ·exact tr _ _ _ (hlow a ha') (hhigh b hb')
def zba (l:List PlV) (i j:Nat):Bool:=match l[i]?,l[j]? with
 | some a,some b=>zay a b
 | _,_=>false
theorem zkO (l:List PlV) (a b c:Nat) (h:zba l a b=true) (k:zba l b c=true):zba l a c=true:=by
 unfold zba at *
 cases ha:l[a]? with
 | none=>rw [ha]at h;cases h
 | some x=>
  cases hb:l[b]? with
  | none=>rw [ha,hb]at h;cases h
  | some y=>
   cases hc:l[c]? with
   | none=>rw [hb,hc]at k;cases k
   | some z=>
    rw [ha,hb]at h
    rw [hb,hc]at k
    exact zdv h k
theorem zja {l:List PlV} {i j:Nat} (hi:i<l.length) (hj:j<l.length):zba l i j=zay l[i] l[j]:=by
 unfold zba
 simp [hi,hj]
def zbY (l:List PlV) (id:IdV) (i:Nat):Bool:=match l[i]? with
 | some p=>decide (p.par=id)
 | none=>false
def zdo (l:List PlV) (id:IdV) (out:Xb) (i:Nat):Xb:=if zbY l id i=true then insR (zba l) i out else out
def zaV (l:List PlV) (id:IdV) (n:Nat):Xb:=(List.range' 2 (n-2)).foldl (zdo l id) []
theorem zdw (l:List PlV) (id:IdV) {n:Nat} (hn:2<=n):zaV l id (n+1)=zdo l id (zaV l id n) n:=by
 unfold zaV
 rw [show n+1-2=(n-2)+1 by omega,List.range'_concat,List.foldl_append]
 simp only [List.foldl_cons,List.foldl_nil]
 rw [show 2+1*(n-2)=n by omega]
def zao (l:List PlV) (id:IdV):Xb:=zaV l id l.length
theorem zgn {l:List PlV} (hu:(l.map PlV.id).Nodup) (id:IdV):∀n,n<=l.length->(zaV l id n).Perm ((List.range' 2 (n-2)).filter (zbY l id))∧(zaV l id n).Pairwise (fun a b=>zba l a b=true)
 | 0,_=>⟨List.Perm.refl _,List.Pairwise.nil⟩
 | n+1,hn=>by
  by_cases h2:2<=n
  ·obtain⟨hp,hs⟩:=zgn hu id n (by omega)
   rw [zdw l id h2,show n+1-2=(n-2)+1 by omega,List.range'_concat,List.filter_append,show 2+1*(n-2)=n by omega]
   unfold zdo
   by_cases hk:zbY l id n=true
   ·rw [if_pos hk]
    refine⟨?_,zlh (zkO l) (fun x hx=> ?_) hs⟩
    ·refine (zfI _ _ _).trans ?_
     have e:List.filter (zbY l id) [n]=[n]:=by simp [hk]
     rw [e]
     exact ((List.Perm.cons n hp)).trans (List.perm_append_singleton n _).symm
    ·have hx1:=List.mem_filter.1 (hp.mem_iff.1 hx)
     have hx2:=List.mem_range'.1 hx1.1
     obtain⟨j,hj,rfl⟩:=hx2
     have hjn:2+1*j<n:=by omega
     rw [zja (by omega) (by omega),zja (by omega) (by omega)]
     refine ziJ (fun e=> ?_)
     have:=(List.pairwise_iff_getElem.1 hu) (2+1*j) n (by simp;omega) (by simp;omega) hjn
     simp at this
     exact this (by simpa using e.symm)
   ·rw [if_neg hk]
    have e:List.filter (zbY l id) [n]=[]:=by simp [hk]
    rw [e,List.append_nil]
    exact⟨hp,hs⟩
  ·have e:zaV l id (n+1)=[]:=by
    unfold zaV
    rw [show n+1-2=0 by omega]
    rfl
   rw [e,show n+1-2=0 by omega]
   exact⟨List.Perm.refl _,List.Pairwise.nil⟩
theorem zfd {l:List PlV} (hu:(l.map PlV.id).Nodup) {id:IdV} {k:Nat} (h:k∈zao l id):2<=k∧k<l.length∧zbY l id k=true:=by
 have h1:=List.mem_filter.1 ((zgn hu id l.length (Nat.le_refl _)).1.mem_iff.1 h)
 obtain⟨j,hj,rfl⟩:=List.mem_range'.1 h1.1
 exact⟨by omega,by omega,h1.2⟩
def prjK {α:Type} (f:Nat->Int->α×Int):Xb->List α->Int->List α×Int
 | [],acc,left=>(acc,left)
 | k::ks,acc,left=>if left<=0 then (acc,left) else prjK f ks (acc++[(f k left).1]) (f k left).2
def prj (l:List PlV):(m:Nat)->Nat->Int->Tr (m+1)×Int
 | 0=>fun k left=>match l[k]? with
  | some p=>((⟨p.kind,p.name,p.text,p.attrs,[]⟩:Nd (Tr 0)),left-1)
  | none=>((⟨0,[],[],[],[]⟩:Nd (Tr 0)),left-1)
 | m+1=>fun k left=>match l[k]? with
  | some p=>((⟨p.kind,p.name,p.text,p.attrs,(prjK (prj l m) (zao l p.id) [] (left-1)).1⟩:Nd (Tr (m+1))),(prjK (prj l m) (zao l p.id) [] (left-1)).2)
  | none=>((⟨0,[],[],[],[]⟩:Nd (Tr (m+1))),left-1)
def zaH (p:PlV):Tr 1:=(⟨p.kind,p.name,p.text,p.attrs,[]⟩:Nd (Tr 0))
def zbe (p:PlV):Bool:=(okT 1 1 (zaH p) 2).1
def topB (p:PlV):Bool:=decide (p.kind=0) && !zaj p.name && zbC p.parN p.parR && decide (p.key.length=0)
def zgw (l:List PlV) (p:PlV):Bool:=keyB p.key && zae l p.par && !zaz l (l.length+1) p.par p.id
def zcL (l:List PlV) (i:Nat) (p:PlV):Bool:=zbe p && idB p.idN p.idR && decide (posP l p.id=some i) && (if i<2 then topB p else zgw l p)
def idAt (l:List PlV) (i:Nat) (id:IdV):Bool:=match l[i]? with
 | some p=>decide (p.id=id)
 | none=>false
def zbl (l:List PlV) (f:Nat->PlV->Bool):Bool:=(List.range l.length).all (fun i=>match l[i]? with
 | some p=>f i p
 | none=>false)
theorem zbj (l:List PlV) (f:Nat->PlV->Bool):zbl l f=true↔∀i p,l[i]? = some p->f i p=true:=by
 unfold zbl
 rw [List.all_eq_true]
 constructor
 ·intro h i p hp
  have hlt:i<l.length:=(List.getElem?_eq_some_iff.1 hp).1
  have:=h i (List.mem_range.2 hlt)
  rw [hp]at this
  exact this
 ·intro h i hi
  have hlt:=List.mem_range.1 hi
  have hp:l[i]? = some l[i]:=by simp [hlt]
  rw [hp]
  exact h i _ hp
theorem zdg {l:List PlV} {i:Nat} {id:IdV} (hi:i<l.length):idAt l i id=true↔∀p,l[i]? = some p->p.id=id:=by
 unfold idAt
 have hp:l[i]? = some l[i]:=by simp [hi]
 rw [hp]
 simp
def stB (l:List PlV):Bool:=decide (2<=l.length) && decide (l.length<=272) && idAt l 0 zak && idAt l 1 zag && zbl l (zcL l)
def newB (l:List PlV) (i:Nat) (p:PlV):Bool:=decide (posP (l.take i) p.id=none) && idB p.idN p.idR && zbe p
def topI (l:List PlV) (i:Nat) (id:IdV):Bool:=match l[i]? with
 | some p=>decide (p.id=id) && decide (p.par=(0,0)) && decide (p.key.length=0) && zae l id
 | none=>false
def zbu (l:List PlV) (i:Nat) (p:PlV):Bool:=decide (i<2) || (keyB p.key && zae l p.par)
def zbx (l:List PlV) (i:Nat) (p:PlV):Bool:=decide (i<2) || !zaw l l.length p.par p.id
def stI (l:List PlV):Bool:=decide (2<=l.length) && decide (l.length<=272) && zbl l (newB l) && topI l 0 zak && topI l 1 zag && zbl l (zbu l) && zbl l (zbx l)
theorem zfc (p:PlV):zbC p.parN p.parR=true↔p.par=(0,0):=by
 unfold zbC
 simp only [Bool.and_eq_true,decide_eq_true_eq]
 constructor
 ·rintro⟨h1,h2⟩
  show (p.parN,p.parR)=(0,0)
  rw [h1,h2]
 ·intro h
  exact Prod.mk.inj h
theorem zcR {l:List PlV} {id:IdV} {i:Nat} {p:PlV} (hk:posP l id=some i) (hp:l[i]? = some p):zae l id=(zcM p && !zaj p.name):=by
 unfold zae
 rw [hk]
 simp only [hp]
theorem zcE {l:List PlV} {id:IdV} (h:zae l id=true):∃j,posP l id=some j:=by
 unfold zae at h
 cases hk:posP l id with
 | none=>rw [hk]at h;cases h
 | some j=>exact⟨j,rfl⟩
theorem zdr {l:List PlV} (h:∀i p,l[i]? = some p->posP l p.id=some i):(l.map PlV.id).Nodup:=by
 refine List.pairwise_iff_getElem.2 (fun i j hi hj hij e=> ?_)
 simp at hi hj e
 have h1:=h i l[i] (by simp [hi])
 have h2:=h j l[j] (by simp [hj])
 rw [e,h2]at h1
 have:=Option.some.inj h1
 omega
theorem znk {l:List PlV} {i:Nat} {p:PlV} (hp:l[i]? = some p) (h:posP l p.id=some i):posP (l.take i) p.id=none:=by
 refine posP_none.2 (fun q hq e=> ?_)
 obtain⟨j,hj,rfl⟩:=List.getElem_of_mem hq
 have hj':j<i:=by rw [List.length_take]at hj;omega
 obtain⟨h1,_,h3⟩:=posP_some.1 h
 rw [List.getElem_take]at e
 exact h3 j hj' e
theorem zhM {l:List PlV} (h:∀i p,l[i]? = some p->posP (l.take i) p.id=none) {i:Nat} {p:PlV} (hp:l[i]? = some p):posP l p.id=some i:=by
 obtain⟨hlt,rfl⟩:=List.getElem?_eq_some_iff.1 hp
 refine posP_some.2 ⟨hlt,rfl,fun j hj e=> ?_⟩
 have h1:=posP_none.1 (h i l[i] hp) l[j] (by
  have:(l.take i)[j]'(by rw [List.length_take];omega)=l[j]:=List.getElem_take
  rw [<-this]
  exact List.getElem_mem _)
 exact h1 e
theorem zgy (l:List PlV):stB l=stI l:=by
 rw [Bool.eq_iff_iff]
 unfold stB stI
 simp only [Bool.and_eq_true,decide_eq_true_eq,zbj]
 constructor
 ·rintro⟨⟨⟨⟨h2,hm⟩,h0⟩,h1⟩,he⟩
  rw [zdg (by omega)]at h0 h1
  have hpl:∀i p,l[i]? = some p->zbe p=true∧idB p.idN p.idR=true∧posP l p.id=some i∧(if i<2 then topB p else zgw l p)=true:=fun i p hp=>by
   have:=he i p hp
   unfold zcL at this
   simp only [Bool.and_eq_true,decide_eq_true_eq]at this
   exact⟨this.1.1.1,this.1.1.2,this.1.2,this.2⟩
  have hpos:=fun i p hp=>(hpl i p hp).2.2.1
  have hrest:∀i p,2<=i->l[i]? = some p->keyB p.key=true∧zae l p.par=true∧zaz l (l.length+1) p.par p.id=false:=fun i p hi hp=>by
   have:=(hpl i p hp).2.2.2
   rw [if_neg (by omega)]at this
   unfold zgw at this
   simp only [Bool.and_eq_true,Bool.not_eq_true']at this
   exact⟨this.1.1,this.1.2,this.2⟩
  have hF:FrW l:=⟨h2,h0,h1,zdr hpos,fun i p hi hp=>zcE (hrest i p hi hp).2.1⟩
  have hfree:=hF.free.2 (fun i p hi hp=>(hrest i p hi hp).2.2)
  have htop:∀i id,i<2->(∀p,l[i]? = some p->p.id=id)->topI l i id=true:=fun i id hi hid=>by
   have hlt:i<l.length:=by omega
   have hp:l[i]? = some l[i]:=by simp [hlt]
   have ht:=(hpl i _ hp).2.2.2
   rw [if_pos hi]at ht
   unfold topB at ht
   simp only [Bool.and_eq_true,decide_eq_true_eq]at ht
   have hi2:=hid _ hp
   have hk:=hpos i _ hp
   rw [hi2]at hk
   unfold topI
   rw [hp]
   simp only [Bool.and_eq_true,decide_eq_true_eq]
   refine⟨⟨⟨hi2,(zfc _).1 ht.1.2⟩,ht.2⟩,?_⟩
   rw [zcR hk hp]
   unfold zcM
   simp only [Bool.and_eq_true,decide_eq_true_eq]
   exact⟨ht.1.1.1,ht.1.1.2⟩
  refine⟨⟨⟨⟨⟨⟨h2,hm⟩,fun i p hp=> ?_⟩,htop 0 _ (by omega) h0⟩,htop 1 _ (by omega) h1⟩,fun i p hp=> ?_⟩,fun i p hp=> ?_⟩
  ·unfold newB
   simp only [Bool.and_eq_true,decide_eq_true_eq]
   exact⟨⟨znk hp (hpos i p hp),(hpl i p hp).2.1⟩,(hpl i p hp).1⟩
  ·unfold zbu
   rw [Bool.or_eq_true,decide_eq_true_eq]
   by_cases hi:i<2
   ·exact .inl hi
   ·refine .inr ?_
    rw [Bool.and_eq_true]
    exact⟨(hrest i p (by omega) hp).1,(hrest i p (by omega) hp).2.1⟩
  ·unfold zbx
   rw [Bool.or_eq_true,decide_eq_true_eq]
   by_cases hi:i<2
   ·exact .inl hi
   ·refine .inr ?_
    rw [hfree i p (by omega) hp]
    rfl
 ·rintro⟨⟨⟨⟨⟨⟨h2,hm⟩,hn⟩,ht0⟩,ht1⟩,hk⟩,hf⟩
  have hnew:∀i p,l[i]? = some p->posP (l.take i) p.id=none∧idB p.idN p.idR=true∧zbe p=true:=fun i p hp=>by
   have:=hn i p hp
   unfold newB at this
   simp only [Bool.and_eq_true,decide_eq_true_eq]at this
   exact⟨this.1.1,this.1.2,this.2⟩
  have hpos:=fun i p (hp:l[i]? = some p)=>zhM (fun i p hp=>(hnew i p hp).1) hp
  have htop:∀i id,i<2->topI l i id=true->∀p,l[i]? = some p->p.id=id∧topB p=true:=fun i id hi ht p hp=>by
   unfold topI at ht
   rw [hp]at ht
   simp only [Bool.and_eq_true,decide_eq_true_eq]at ht
   obtain⟨⟨⟨e1,e2⟩,e3⟩,e4⟩:=ht
   have hk:=hpos i p hp
   rw [e1]at hk
   rw [zcR hk hp]at e4
   unfold zcM at e4
   simp only [Bool.and_eq_true,decide_eq_true_eq]at e4
   refine⟨e1,?_⟩
   unfold topB
   simp only [Bool.and_eq_true,decide_eq_true_eq]
   exact⟨⟨⟨e4.1,e4.2⟩,(zfc p).2 e2⟩,e3⟩
  have hkey:∀i p,2<=i->l[i]? = some p->keyB p.key=true∧zae l p.par=true:=fun i p hi hp=>by
   have:=hk i p hp
   unfold zbu at this
   rw [Bool.or_eq_true,decide_eq_true_eq,Bool.and_eq_true]at this
   rcases this with h | h
   ·omega
   ·exact h
  have hfree:∀i p,2<=i->l[i]? = some p->zaw l l.length p.par p.id=false:=fun i p hi hp=>by
   have:=hf i p hp
   unfold zbx at this
   rw [Bool.or_eq_true,decide_eq_true_eq]at this
   rcases this with h | h
   ·omega
   ·simpa using h
  have hF:FrW l:=⟨h2,fun p hp=>(htop 0 _ (by omega) ht0 p hp).1,fun p hp=>(htop 1 _ (by omega) ht1 p hp).1,zdr hpos,fun i p hi hp=>zcE (hkey i p hi hp).2⟩
  have hund:=hF.free.1 hfree
  refine⟨⟨⟨⟨h2,hm⟩,(zdg (by omega)).2 hF.root⟩,(zdg (by omega)).2 hF.trash⟩,fun i p hp=> ?_⟩
  unfold zcL
  simp only [Bool.and_eq_true,decide_eq_true_eq]
  refine⟨⟨⟨(hnew i p hp).2.2,(hnew i p hp).2.1⟩,hpos i p hp⟩,?_⟩
  by_cases hi:i<2
  ·rw [if_pos hi]
   have:i=0∨i=1:=by omega
   rcases this with rfl | rfl
   ·exact (htop 0 _ (by omega) ht0 p hp).2
   ·exact (htop 1 _ (by omega) ht1 p hp).2
  ·rw [if_neg hi]
   unfold zgw
   simp only [Bool.and_eq_true,Bool.not_eq_true']
   exact⟨⟨(hkey i p (by omega) hp).1,(hkey i p (by omega) hp).2⟩,hund i p (by omega) hp⟩
theorem zhX {l:List PlV} (h:stB l=true):Fr l∧l.length<=272:=by
 have h':=h
 rw [zgy]at h'
 unfold stB at h
 unfold stI at h'
 simp only [Bool.and_eq_true,decide_eq_true_eq,zbj]at h h'
 obtain⟨⟨⟨⟨h2,hm⟩,h0⟩,h1⟩,he⟩:=h
 rw [zdg (by omega)]at h0 h1
 have hpos:∀i p,l[i]? = some p->posP l p.id=some i:=fun i p hp=>by
  have:=he i p hp
  unfold zcL at this
  simp only [Bool.and_eq_true,decide_eq_true_eq]at this
  exact this.1.2
 have hF:FrW l:=⟨h2,h0,h1,zdr hpos,fun i p hi hp=>by
  have:=h'.1.2 i p hp
  unfold zbu at this
  rw [Bool.or_eq_true,decide_eq_true_eq,Bool.and_eq_true]at this
  rcases this with h | h
  ·omega
  ·exact zcE h.2⟩
 exact⟨hF.fr (fun i p hi hp=>by
  have:=h'.2 i p hp
  unfold zbx at this
  rw [Bool.or_eq_true,decide_eq_true_eq]at this
  rcases this with h | h
  ·omega
  ·simpa using h),hm⟩
end Go.Proofs.YtlpnibbdmkeklaaGreatDoor
namespace Go.Proofs.YtlpnibbdmkeklaaGreatDoor
open Go.RowKit
set_option linter.unusedVariables false
set_option maxRecDepth 100000
theorem zcU {p:PlV} (h0:p.kind=0):zbe p=true↔zah p.name∧p.text.length=0∧zal p.attrs:=by
 have hk:(zaH p).kids=[]:=rfl
 unfold zbe
 rw [zbo,if_neg (by omega),if_neg (show ¬ (zaH p).kind=1 by show ¬ p.kind=1;omega)]
 have he:zaT (zaH p)=true↔zah p.name∧p.text.length=0∧zal p.attrs:=by
  have hx:=zbh (zaH p:Nd (Tr 0))
  constructor
  ·intro h
   obtain⟨_,a2,a3,a4,_⟩:=hx.1 h
   exact⟨a2,a3,a4⟩
  ·intro h
   exact hx.2 ⟨h0,h.1,h.2.1,h.2.2,fun e=>absurd e.2 (Nat.lt_irrefl 0)⟩
 rw [<-he,hk]
 by_cases h:zaT (zaH p)=true
 ·rw [if_pos h];exact⟨fun _=>h,fun _=>rfl⟩
 ·rw [if_neg h];exact⟨fun e=>(by cases e),fun e=>absurd e h⟩
theorem zeI {p:PlV} (h1:p.kind=1):zbe p=true↔p.name.length=0∧p.attrs.length=0∧zat p.text:=by
 unfold zbe
 rw [zbo,if_neg (by omega),if_pos (show (zaH p).kind=1 from h1)]
 have hl:=zbb (zaH p)
 constructor
 ·intro h
  have h':=hl.1 h
  exact⟨h'.1,h'.2.1,h'.2.2.2⟩
 ·intro h
  exact hl.2 ⟨h.1,h.2.1,rfl,h.2.2⟩
theorem znN {p:PlV} (h:zbe p=true):p.kind=0∨p.kind=1:=by
 unfold zbe at h
 rw [zbo,if_neg (by omega)]at h
 by_cases h1:(zaH p).kind=1
 ·exact .inr h1
 ·rw [if_neg h1]at h
  by_cases h2:zaT (zaH p)=true
  ·exact .inl ((zbh _).1 h2).1
  ·rw [if_neg h2]at h;cases h
theorem zrb {l:List AtV} (hl:l.length<=4) (hg:∀x∈l,zah x.1∧zat x.2) (hs:SrtA l):zal l:=by
 refine⟨hl,fun i hi=> ?_⟩
 unfold zcc
 have e:l.getD i ([],[])=l[i]:=by simp [hi]
 rw [e]
 have h1:=hg l[i] (List.getElem_mem _)
 refine⟨h1.1,h1.2,fun h0=> ?_⟩
 have hi':i-1<l.length:=by omega
 have e2:l.getD (i-1) ([],[])=l[i-1]:=by simp [hi']
 rw [e2]
 have h2:=hg l[i-1] (List.getElem_mem _)
 have h3:=(List.pairwise_iff_getElem.1 hs) (i-1) i hi' hi (by omega)
 have h4:zeb l[i-1].1 l[i].1=klB l[i-1].1 l[i].1:=zff (zfs h2.1) (zfs h1.1)
 rw [h4]
 exact h3
theorem zsQ {l:List AtV} (h:∀x∈l,zah x.1∧zat x.2) (o:OpV) (hn:zah o.name) (ht:o.gone=false->zat o.text):∀x∈chgI l o,zah x.1∧zat x.2:=by
 unfold chgI
 intro x hx'
 split at hx'
 ·split at hx'
  ·rcases List.mem_append.1 hx' with e | e
   ·exact h x (List.mem_of_mem_take e)
   ·exact h x (List.mem_of_mem_drop e)
  ·rename_i hg
   rcases List.mem_or_eq_of_mem_set hx' with e | e
   ·exact h x e
   ·rw [e];exact⟨hn,ht (by simpa using hg)⟩
 ·split at hx'
  ·exact h x hx'
  ·rename_i hg
   split at hx'
   ·exact h x hx'
   ·rcases List.mem_append.1 hx' with e | e
    ·exact h x (List.mem_of_mem_take e)
    ·rcases List.mem_cons.1 e with e | e
     ·rw [e];exact⟨hn,ht (by simpa using hg)⟩
     ·exact h x (List.mem_of_mem_drop e)
theorem zmC {l:List AtV} (h:zal l):∀x∈l,zah x.1∧zat x.2:=fun x hx=>by
 obtain⟨i,hi,rfl⟩:=List.getElem_of_mem hx
 have h1:=h.2 i hi
 unfold zcc at h1
 have e:l.getD i ([],[])=l[i]:=by simp [hi]
 rw [e]at h1
 exact⟨h1.1,h1.2.1⟩
theorem zjT {l:List AtV} (h:zal l) (o:OpV) (hn:zah o.name) (ht:o.gone=false->zat o.text):zal (zbg l o):=by
 have hs:=znS h
 rw [zhz hs h.1]
 exact zrb (zmi h.1 o) (zsQ (zmC h) o hn ht) (zlW hs o)
theorem zeA {l:List PlV} {p:PlV} {i:IdV} (h:zae l i=true):zae (l++[p]) i=true:=by
 cases hk:posP l i with
 | none=>unfold zae at h;rw [hk]at h;cases h
 | some k=>
  obtain⟨q,hq,_⟩:=zbp hk
  rw [zcR hk hq]at h
  rw [zcR (zdq hk) (by rw [List.getElem?_append_left (List.getElem?_eq_some_iff.1 hq).1];exact hq)]
  exact h
theorem znt {l:List PlV} {k:Nat} {p q:PlV} (hk:l[k]? = some p) (hid:q.id=p.id):(l.set k q).map PlV.id=l.map PlV.id:=by
 rw [List.map_set,hid]
 apply List.ext_getElem?
 intro j
 rw [List.getElem?_set]
 by_cases e:k=j
 ·subst e
  have hlt:=(List.getElem?_eq_some_iff.1 hk).1
  rw [if_pos rfl,if_pos (by simpa using hlt),List.getElem?_map,hk]
  rfl
 ·rw [if_neg e]
theorem zkD (l:List PlV) (i:IdV):posP l i=(l.map PlV.id).findIdx? (fun x=>decide (x=i)):=by
 unfold posP
 rw [List.findIdx?_map]
 rfl
theorem zpZ {l:List PlV} {k:Nat} {p q:PlV} (hk:l[k]? = some p) (hid:q.id=p.id) (i:IdV):posP (l.set k q) i=posP l i:=by
 rw [zkD,zkD,znt hk hid]
theorem zpe {l:List PlV} {k:Nat} {p q:PlV} (hk:l[k]? = some p) (hid:q.id=p.id) (h1:q.kind=p.kind) (h2:q.name=p.name) (i:IdV):zae (l.set k q) i=zae l i:=by
 unfold zae
 rw [zpZ hk hid]
 cases posP l i with
 | none=>rfl
 | some j=>
  simp only
  rw [List.getElem?_set]
  by_cases e:k=j
  ·subst e
   have hlt:=(List.getElem?_eq_some_iff.1 hk).1
   rw [if_pos rfl,if_pos hlt,hk]
   simp only [zcM,h1,h2]
  ·rw [if_neg e]
structure Stt (l:List PlV):Prop where
 gs:∀p∈l,zbe p=true∧idB p.idN p.idR=true
 top:∀i p,i<2->l[i]? = some p->p.kind=0∧zaj p.name=false∧p.par=(0,0)∧p.key=[]
 rest:∀i p,2<=i->l[i]? = some p->keyB p.key=true∧zae l p.par=true
theorem Stt.add {l:List PlV} (h:Stt l) (h2:2<=l.length) {q:PlV} (hg:zbe q=true∧idB q.idN q.idR=true) (hk:keyB q.key=true) (ht:zae l q.par=true):Stt (l++[q]):=by
 have hat:∀i p,(l++[q])[i]? = some p->(i<l.length∧l[i]? = some p)∨(i=l.length∧p=q):=fun i p hp=>by
  by_cases hi:i<l.length
  ·rw [List.getElem?_append_left hi]at hp
   exact .inl ⟨hi,hp⟩
  ·rw [List.getElem?_append_right (by omega)]at hp
   obtain⟨h1,h3⟩:=List.getElem?_eq_some_iff.1 hp
   have e:i=l.length:=by simp at h1;omega
   subst e
   exact .inr ⟨rfl,by simpa using h3.symm⟩
 refine⟨fun p hp=> ?_,fun i p hi hp=> ?_,fun i p hi hp=> ?_⟩
 ·rcases List.mem_append.1 hp with hp | hp
  ·exact h.gs p hp
  ·have e:p=q:=by simpa using hp
   rw [e];exact hg
 ·rcases hat i p hp with ⟨_,e⟩ | ⟨e,_⟩
  ·exact h.top i p hi e
  ·omega
 ·rcases hat i p hp with ⟨_,e⟩ | ⟨_,e⟩
  ·exact⟨(h.rest i p hi e).1,zeA (h.rest i p hi e).2⟩
  ·rw [e];exact⟨hk,zeA ht⟩
theorem Stt.set {l:List PlV} (h:Stt l) {k:Nat} {p q:PlV} (hk:l[k]? = some p) (hid:q.id=p.id) (h1:q.kind=p.kind) (h2:q.name=p.name) (hg:zbe q=true) (ht:k<2->q.par=p.par∧q.key=p.key) (hr:2<=k->keyB q.key=true∧zae l q.par=true):Stt (l.set k q):=by
 have hat:∀i x,(l.set k q)[i]? = some x->(i≠k∧l[i]? = some x)∨(i=k∧x=q):=fun i x hx=>by
  rw [List.getElem?_set]at hx
  by_cases e:k=i
  ·rw [if_pos e]at hx
   have hlt:=(List.getElem?_eq_some_iff.1 hk).1
   rw [if_pos hlt]at hx
   exact .inr ⟨e.symm,(Option.some.inj hx).symm⟩
  ·rw [if_neg e]at hx
   exact .inl ⟨fun e'=>e e'.symm,hx⟩
 refine⟨fun x hx=> ?_,fun i x hi hx=> ?_,fun i x hi hx=> ?_⟩
 ·obtain⟨i,hi,rfl⟩:=List.getElem_of_mem hx
  rcases hat i _ (List.getElem?_eq_getElem hi)with ⟨_,e⟩ | ⟨_,e⟩
  ·exact h.gs _ (List.mem_of_getElem? e)
  ·rw [e]
   have hm:=h.gs p (List.mem_of_getElem? hk)
   have e1:q.idN=p.idN:=(Prod.mk.inj hid).1
   have e2:q.idR=p.idR:=(Prod.mk.inj hid).2
   exact⟨hg,by rw [e1,e2];exact hm.2⟩
 ·rcases hat i x hx with ⟨_,e⟩ | ⟨e0,e⟩
  ·exact h.top i x hi e
  ·subst e0
   subst e
   obtain⟨t1,t2,t3,t4⟩:=h.top i p hi hk
   obtain⟨u1,u2⟩:=ht hi
   exact⟨h1.trans t1,by rw [h2];exact t2,u1.trans t3,u2.trans t4⟩
 ·rw [zpe hk hid h1 h2]
  rcases hat i x hx with ⟨_,e⟩ | ⟨e0,e⟩
  ·exact h.rest i x hi e
  ·subst e0
   subst e
   exact hr hi
theorem zqw {o:OpV} (h:zcF o.elem o.name o.text=true):zbe (newP o)=true:=by
 have hz:∀{t:Xa},((t.length:Int) == 0)=true->t.length=0:=fun h=>by simpa using h
 have ha:zal (newP o).attrs:=⟨Nat.zero_le _,fun i hi=>by cases hi⟩
 unfold zcF at h
 by_cases e0:o.elem=0
 ·rw [if_pos e0,Bool.and_eq_true]at h
  exact (zcU (p:=newP o) e0).2 ⟨(zby _).1 h.1,hz h.2,ha⟩
 ·rw [if_neg e0]at h
  by_cases e1:o.elem=1
  ·rw [if_pos e1,Bool.and_eq_true]at h
   exact (zeI (p:=newP o) e1).2 ⟨hz h.1,rfl,(zbE _).1 h.2⟩
  ·rw [if_neg e1]at h;cases h
theorem Stt.do {l:List PlV} (h:Stt l) (hF:Fr l) {o:OpV} (ho:opB o=true):Stt (doV l o):=by
 unfold doV
 by_cases h0:o.kind=0
 ·rw [if_pos h0]
  by_cases ht:zae l o.par=true
  ·rw [if_pos ht]
   rw [zjE h0]at ho
   simp only [Bool.and_eq_true]at ho
   have hid:idB o.atN o.atR=true:=by
    rcases ziT o.atN o.atR with ⟨_,e⟩ | ⟨e,_⟩ | ⟨e,_⟩ | h9
    ·exact e
    ·rw [ho.1]at e;cases e
    ·rw [ho.1]at e;cases e
    ·have h1:=ho.1
     unfold zam at h1
     unfold idB
     simp only [Bool.and_eq_true,decide_eq_true_eq]at h1 ⊢
     simp only [Bool.or_eq_true,Bool.and_eq_true,decide_eq_true_eq]
     omega
   exact h.add hF.two (q:=newP o) ⟨zqw ho.2.1.2.2,hid⟩ ho.2.1.2.1 ht
  ·rw [if_neg ht];exact h
 ·rw [if_neg h0]
  cases hp:posP l o.node with
  | none=>exact h
  | some k=>
   obtain⟨p,hk,hid⟩:=zbp hp
   simp only [hk]
   have hg:=h.gs p (List.mem_of_getElem? hk)
   by_cases h1:o.kind=1
   ·rw [if_pos h1]
    rw [zjA h1]at ho
    simp only [Bool.and_eq_true]at ho
    by_cases hm:zcb l o k=true
    ·rw [if_pos hm]
     unfold zcb at hm
     simp only [Bool.and_eq_true,decide_eq_true_eq,Bool.not_eq_true']at hm
     exact h.set hk (q:=zdz o p) rfl rfl rfl hg.1 (fun hh=>by have:=hm.1.1;omega) (fun _=>⟨ho.2.1.2.2,hm.1.2⟩)
    ·rw [if_neg hm];exact h
   ·rw [if_neg h1]
    by_cases h2:o.kind=2
    ·rw [if_pos h2]
     rw [zjC h2]at ho
     simp only [Bool.and_eq_true]at ho
     by_cases hc:2<=k∧p.kind=1
     ·rw [if_pos hc]
      obtain⟨a1,a2,_⟩:=(zeI hc.2).1 hg.1
      exact h.set hk (q:=zfp o p) rfl rfl rfl ((zeI (p:=zfp o p) hc.2).2 ⟨a1,a2,(zbE _).1 ho.2.1.2⟩) (fun hh=>by omega) (fun hh=>h.rest k p hh hk)
     ·rw [if_neg hc];exact h
    ·rw [if_neg h2]
     by_cases hc:k≠1∧p.kind=0
     ·rw [if_pos hc]
      have h3:o.kind=3:=by
       rcases zis ho with e | e | e | e
       ·exact absurd e h0
       ·exact absurd e h1
       ·exact absurd e h2
       ·exact e
      rw [zjF h3]at ho
      simp only [Bool.and_eq_true]at ho
      obtain⟨a1,a2,a3⟩:=(zcU hc.2).1 hg.1
      have hv:=ho.2.1.2.2
      refine h.set hk (q:=zbs o p) rfl rfl rfl ((zcU (p:=zbs o p) hc.2).2 ⟨a1,a2,zjT a3 o ((zby _).1 ho.2.1.2.1) (fun hgn=> ?_)⟩) (fun _=>⟨rfl,rfl⟩) (fun hh=>h.rest k p hh hk)
      unfold valB at hv
      rw [hgn]at hv
      exact (zbE _).1 hv
     ·rw [if_neg hc];exact h
theorem zoI {n:Nat} {deep left:Int} {x:Tr (n+1)} (h:(okT (n+1) deep x left).1=true) (m:Nat) (i:IdV) (k:Nat):zbe (zaO m i x k)=true∧(x.kids≠[]->x.kind=0∧zaj x.name=false):=by
 rw [zbo]at h
 by_cases h1:left-1<0∨20<deep
 ·rw [if_pos h1]at h;cases h
 ·rw [if_neg h1]at h
  by_cases h2:x.kind=1
  ·rw [if_pos h2]at h
   obtain⟨a1,a2,a3,a4⟩:=(zbb x).1 h
   exact⟨(zeI (p:=zaO m i x k) h2).2 ⟨a1,a2,a4⟩,fun hne=>absurd (List.length_eq_zero_iff.1 a3) hne⟩
  ·rw [if_neg h2]at h
   by_cases h3:zaT x=true
   ·obtain⟨a1,a2,a3,a4,a5⟩:=(zbh x).1 h3
    refine⟨(zcU (p:=zaO m i x k) a1).2 ⟨a2,a3,a4⟩,fun hne=>⟨a1,?_⟩⟩
    cases hv:zaj x.name with
    | false=>rfl
    | true=>exact absurd ⟨(zaS _).1 hv,List.length_pos_iff.2 hne⟩ a5
   ·rw [if_neg h3]at h;cases h
theorem zqD {k:Nat} (h:k+1<=999):keyB [(k:Int)+1]=true:=by
 unfold keyB
 simp [allB]
 omega
theorem zpJ {m:Nat} (h:m<122):idB 0 (m:Int)=true:=by
 unfold idB
 simp
 omega
theorem zky:∀(n:Nat) (deep:Int) (ks:List (Tr n)) (left:Int) (i:IdV) (acc:List PlV),0<=left->(okK (okT n deep) ks left).1=true->Stt acc->2<=acc.length->SeedIds acc->(ks≠[]->zae acc i=true)->(acc.length:Int)+left<=121->Stt (zaB n i ks acc)∧∀id,zae acc id=true->zae (zaB n i ks acc) id=true
 | 0,deep,ks,left,i,acc,h0,h,hS,h2,hI,ht,hl=>⟨hS,fun _ h=>h⟩
 | n+1,deep,ks,left,i,acc,h0,h,hS,h2,hI,ht,hl=>by
  have key:∀(f:Nd (Tr n)->Int->Bool×Int),(∀x left,f x left=okT (n+1) deep x left)->∀(ks:List (Nd (Tr n))) (k:Nat) (acc:List PlV) (left:Int),0<=left->(okK f ks left).1=true->Stt acc->2<=acc.length->SeedIds acc->(ks≠[]->zae acc i=true)->(acc.length:Int)+left<=121->(k:Int)+left<=500->
    Stt ((ks.zipIdx k).foldl (zaZ n i) acc)∧∀id,zae acc id=true->zae ((ks.zipIdx k).foldl (zaZ n i) acc) id=true:=by
   intro f hf ks
   induction ks with
   | nil=>intro k acc left _ _ hS _ _ _ _ _;exact⟨hS,fun _ h=>h⟩
   | cons x r ih=>
    intro k acc left h0 h hS h2 hI ht hl hk
    have h1':(f x left).1=true:=by
     cases hb:(f x left).1 with
     | true=>rfl
     | false=>simp [okK,hb]at h
    have e1:okK f (x::r) left=okK f r (f x left).2:=by simp [okK,h1']
    rw [e1]at h
    have h1:(okT (n+1) deep x left).1=true:=by rw [<-hf];exact h1'
    have e3:=hf x left
    rw [e3]at h
    have hb:=zdH (n+1) deep x left h0
    obtain⟨p1,p2,p3,p4⟩:=zcz h1
    obtain⟨hlo,hkd⟩:=zoI h1 acc.length i k
    have hti:=ht (by simp)
    have hn:posP acc (zaO acc.length i x k).id=none:=hI.new
    have hS1:Stt (acc++[zaO acc.length i x k]):=hS.add h2 ⟨hlo,zpJ (by omega)⟩ (zqD (by omega)) hti
    have hI1:SeedIds (acc++[zaO acc.length i x k]):=hI.snoc rfl rfl
    have hp1:posP (acc++[zaO acc.length i x k]) (0,(acc.length:Int))=some acc.length:=by
     have:=zfP (i:=(zaO acc.length i x k).id) hn
     rw [if_pos rfl]at this
     exact this
    have hl1:(acc++[zaO acc.length i x k]).length=acc.length+1:=by simp
    obtain⟨a1,a2⟩:=zky n (deep+1) x.kids (left-1) (0,(acc.length:Int)) (acc++[zaO acc.length i x k]) p2 p3 hS1 (by omega) hI1 (fun hne=>by
     obtain⟨b1,b2⟩:=hkd hne
     rw [zcR hp1 (p:=zaO acc.length i x k) (by simp)]
     show (decide (x.kind=0) && !zaj x.name)=true
     rw [b1,b2];rfl) (by rw [hl1];omega)
    have hlen:=(zia n (deep+1) x.kids (left-1) (0,(acc.length:Int)) (acc++[zaO acc.length i x k]) p2 p3).1
    have hI2:SeedIds (zaZ n i acc (x,k)):=SeedIds.K n _ _ _ hI1
    have hle:acc.length+1<=(zaZ n i acc (x,k)).length:=zfq n i acc (x,k)
    have hlen2:((zaZ n i acc (x,k)).length:Int)+(okT (n+1) deep x left).2=(acc.length:Int)+left:=by
     have e9:(zaZ n i acc (x,k)).length=(zaB n (0,(acc.length:Int)) x.kids (acc++[zaO acc.length i x k])).length:=rfl
     rw [e9,p4]
     rw [hl1]at hlen
     omega
    rw [List.zipIdx_cons,List.foldl_cons]
    obtain⟨c1,c2⟩:=ih (k+1) (zaZ n i acc (x,k)) _ (hb.2.2 h1) h a1 (by omega) hI2 (fun _=>a2 _ (zeA hti)) (by omega) (by have:=hle;omega)
    exact⟨c1,fun id hid=>c2 id (a2 id (zeA hid))⟩
  exact key (okT (n+1) deep) (fun _ _=>rfl) ks 0 acc left h0 h hS h2 hI ht hl (by omega)
theorem zqR {n:Nat} {t:Tr (n+1)} (h:okN n t=true) (hv:zaj t.name=false):Stt (zaG t)∧zae (zaG t) (0,0)=true:=by
 obtain⟨hk,ho⟩:=Bool.and_eq_true_iff.1 (show (decide (t.kind=0) && (okT (n+1) 1 t 120).1)=true from h)
 have hk0:t.kind=0:=of_decide_eq_true hk
 have hel:zah t.name∧zal t.attrs:=by
  have h':=ho
  rw [zbo,if_neg (by omega),if_neg (by omega)]at h'
  by_cases h3:zaT t=true
  ·obtain⟨_,a2,_,a4,_⟩:=(zbh t).1 h3
   exact⟨a2,a4⟩
  ·rw [if_neg h3]at h';cases h'
 have htr:zbe zaP=true:=(zcU (p:=zaP) rfl).2 ⟨(zby _).1 (by decide),rfl,⟨Nat.zero_le _,fun i hi=>by cases hi⟩⟩
 refine⟨⟨fun p hp=> ?_,fun i p hi hp=> ?_,fun i p hi hp=> ?_⟩,?_⟩
 ·simp [zaG]at hp
  rcases hp with rfl | rfl
  ·exact⟨(zcU (p:=zeD t) rfl).2 ⟨hel.1,rfl,hel.2⟩,by show idB 0 0=true;decide⟩
  ·exact⟨htr,by show idB 0 1=true;decide⟩
 ·match i,hi with
  | 0,_=>simp [zaG]at hp;rw [<-hp];exact⟨rfl,hv,rfl,rfl⟩
  | 1,_=>simp [zaG]at hp;rw [<-hp];exact⟨rfl,by decide,rfl,rfl⟩
 ·have:=(List.getElem?_eq_some_iff.1 hp).1
  simp [zaG]at this
  omega
 ·have hp:posP (zaG t) (0,0)=some 0:=posP_some.2 ⟨by simp [zaG],rfl,fun j hj=>by omega⟩
  rw [zcR hp (p:=zeD t) rfl]
  show (decide ((0:Int)=0) && !zaj t.name)=true
  rw [hv];rfl
theorem zkJ {n:Nat} {t:Tr (n+1)} (h:okN n t=true) (hv:zaj t.name=false) {ops:List OpV} (ho:opsB ops=true):∀j,j<=ops.length->Stt (zdu t ops j)
 | 0,_=>by
  obtain⟨hk,ht⟩:=Bool.and_eq_true_iff.1 (show (decide (t.kind=0) && (okT (n+1) 1 t 120).1)=true from h)
  obtain⟨p1,p2,p3,p4⟩:=zcz ht
  obtain⟨b1,b2⟩:=zqR h hv
  have hl:(zaG t).length=2:=rfl
  exact (zky n 2 t.kids (120-1) (0,0) (zaG t) p2 p3 b1 (by omega) (zfx t) (fun _=>b2) (by rw [hl];omega)).1
 | j+1,hj=>by
  rw [zfy t ops (by omega)]
  exact (zkJ h hv ho j (by omega)).do (zew h ho j (by omega)).fr (zdI ho (by omega))
theorem zgZ {l:List PlV} (hF:Fr l) {rk:IdV->Nat} (hr:∀i p,2<=i->l[i]? = some p->rk p.par<rk p.id):∀(n:Nat) (i o:IdV),zaw l n i o=true->rk o<=rk i
 | 0,i,o,h=>by cases h
 | n+1,i,o,h=>by
  unfold zaw at h
  by_cases e:i=o
  ·rw [e];exact Nat.le_refl _
  ·rw [if_neg e]at h
   by_cases et:i=zak∨i=zag
   ·rw [if_pos et]at h;cases h
   ·rw [if_neg et]at h
    cases hp:posP l i with
    | none=>rw [hp]at h;cases h
    | some k=>
     rw [hp]at h
     obtain⟨p,hk,hid⟩:=zbp hp
     simp only [hk]at h
     have h1:=zgZ hF hr n p.par o h
     by_cases h2:2<=k
     ·have:=hr k p h2 hk
      rw [hid]at this
      omega
     ·have:k=0∨k=1:=by omega
      rcases this with rfl | rfl
      ·exact absurd (.inl (hid.symm.trans (hF.root p hk))) et
      ·exact absurd (.inr (hid.symm.trans (hF.trash p hk))) et
theorem zsh {n:Nat} {t:Tr (n+1)} (h:okN n t=true) (hv:zaj t.name=false) {ops:List OpV} (ho:opsB ops=true):stB (zaK t ops)=true:=by
 have hS:=zkJ h hv ho ops.length (Nat.le_refl _)
 have hA:=zew h ho ops.length (Nat.le_refl _)
 rw [List.take_length]at hA
 have e9:zdu t ops ops.length=zaK t ops:=zge (n:=n) t ops
 rw [e9]at hS hA
 have hlen:=(zrk h ho).2
 generalize zaK t ops=l at *
 have hF:=hA.fr
 obtain⟨rk,hrk⟩:=hF.rank
 have hW:FrW l:=⟨hF.two,hF.root,hF.trash,hF.uniq,hF.par⟩
 have hfree:=hW.free.1 (fun i p hi hp=>by
  cases hw:zaw l l.length p.par p.id with
  | false=>rfl
  | true=>
   have h1:=zgZ hF hrk _ _ _ hw
   have h2:=hrk i p hi hp
   omega)
 unfold stB
 have h2:=hF.two
 rw [decide_eq_true h2,decide_eq_true (show l.length<=272 by omega),(zdg (by omega)).2 hF.root,(zdg (by omega)).2 hF.trash,(zbj l _).2 (fun i p hp=> ?_)]
 ·rfl
 ·unfold zcL
  have hg:=hS.gs p (List.mem_of_getElem? hp)
  rw [hg.1,hg.2,zbr hF.uniq hp,decide_eq_true rfl]
  by_cases hi:i<2
  ·rw [if_pos hi]
   obtain⟨a1,a2,a3,a4⟩:=hS.top i p hi hp
   unfold topB
   rw [decide_eq_true a1,a2,(zfc p).2 a3,a4]
   rfl
  ·rw [if_neg hi]
   obtain⟨a1,a2⟩:=hS.rest i p (by omega) hp
   unfold zgw
   rw [a1,a2,hfree i p (by omega) hp]
   rfl
def NodeQ (w0:Xe):(n:Nat)->Xe->Xd->Tr n->Xb->Prop
 | 0=>fun _ _ _ _=>False
 | n+1=>fun w C t F=>∃a b c d,C=[.int .i64 t.kind,a,b,c,d]∧-9223372036854775808<=t.kind∧t.kind<=9223372036854775807∧Byt w0 a t.name∧Byt w0 b t.text∧RdAttrs w0 c t.attrs∧OwElems w 37 5 d t.kids (NodeQ w0 n w) F
theorem NodeQ.frm {w0:Xe} {n:Nat} {w w':Xe} {C:Xd} {t:Tr n} {F S:Xb} (h:NodeQ w0 n w C t F) (f:Frm w w' S) (hd:∀g∈F,g∉S):NodeQ w0 n w' C t F:=by
 induction n generalizing C F with
 | zero=>exact h
 | succ n ih=>
  obtain⟨a,b,c,d,e,k1,k2,h1,h2,h3,h4⟩:=h
  exact⟨a,b,c,d,e,k1,k2,h1,h2,h3,OwElems.frm h4 f hd (fun C x G hr hG=>ih hr hG)⟩
theorem NodeQ.keep {w0:Xe} {n:Nat} {w w':Xe} {C:Xd} {t:Tr n} {F:Xb} (h:NodeQ w0 n w C t F) (hb:Below w.heap.size w w'):NodeQ w0 n w' C t F:=h.frm (Frm.ofBelow hb []) (fun _ _=>by simp)
theorem NodeQ.lt {w0:Xe}:∀{n:Nat} {w:Xe} {C:Xd} {t:Tr n} {F:Xb},NodeQ w0 n w C t F->∀g∈F,g<w.heap.size
 | 0,_,_,t,_,_=>t.elim
 | n+1,w,C,t,F,⟨a,b,c,d,_,_,_,_,_,_,hd⟩=>OwElems.lt hd (fun _ _ _ hr=>NodeQ.lt hr)
theorem NodeQ.rd {w0:Xe} {n:Nat} {w:Xe} {C:Xd} {t:Tr n} {F:Xb} (h:NodeQ w0 n w C t F) (hB:Below w0.heap.size w0 w):RdNode n w C t:=by
 induction n generalizing C F with
 | zero=>exact h
 | succ n ih=>
  obtain⟨a,b,c,d,e,k1,k2,h1,h2,h3,h4⟩:=h
  exact⟨a,b,c,d,e,k1,k2,h1.keep hB,h2.keep hB,h3.keep hB,OwElems.rd h4 (OwElems.len h4) (fun C x G hr=>ih hr)⟩
theorem NodeQ.bare {w0 w:Xe} {n:Nat} {k:Int} {N X:Xa} {A:List (Xa×Xa)} {a b c:Xf} (h1 : -9223372036854775808<=k) (h2:k<=9223372036854775807) (ha:Byt w0 a N) (hb:Byt w0 b X) (hc:RdAttrs w0 c A):NodeQ w0 (n+1) w [.int .i64 k,a,b,c,.slice none 0 0] (⟨k,N,X,A,[]⟩:Nd (Tr n)) []:=
 ⟨a,b,c,_,rfl,h1,h2,ha,hb,hc,[],[],rfl,rfl,fun i hi=>(by cases hi),World.ownsRow_nil _ _ _ _,rfl⟩
theorem ziO {α:Type} (f:Nat->Int->α×Int) (ks:Xb) (acc:List α) (left:Int) (h:left<=0):prjK f ks acc left=(acc,left):=by
 cases ks with
 | nil=>rfl
 | cons k ks=>unfold prjK;rw [if_pos h]
theorem zjn {α:Type} (f:Nat->Int->α×Int) (ks:Xb) (i:Nat) (hi:i<ks.length) (acc:List α) (left:Int) (h:¬ left<=0):prjK f (ks.drop i) acc left=prjK f (ks.drop (i+1)) (acc++[(f ks[i] left).1]) (f ks[i] left).2:=by
 rw [List.drop_eq_getElem_cons hi]
 conv=>lhs;unfold prjK
 rw [if_neg h]
theorem zhk {l:List PlV} {k:Nat} {p:PlV} (hp:l[k]? = some p) (left:Int):prj l 0 k left=((⟨p.kind,p.name,p.text,p.attrs,[]⟩:Nd (Tr 0)),left-1):=by
 unfold prj
 rw [hp]
 rfl
theorem zdj {l:List PlV} {k m:Nat} {p:PlV} (hp:l[k]? = some p) (left:Int):prj l (m+1) k left=((⟨p.kind,p.name,p.text,p.attrs,(prjK (prj l m) (zao l p.id) [] (left-1)).1⟩:Nd (Tr (m+1))),(prjK (prj l m) (zao l p.id) [] (left-1)).2):=by
 conv=>lhs;unfold prj
 rw [hp]
 rfl
theorem zka {α:Type} (f:Nat->Int->α×Int) (B:Int) (hf:∀k left,-1000<=left->left<=B->0<left->-1000<=(f k left).2∧(f k left).2<=B):∀(ks:Xb) (acc:List α) (left:Int),-1000<=left->left<=B->-1000<=(prjK f ks acc left).2∧(prjK f ks acc left).2<=B
 | [],acc,left,h1,h2=>⟨h1,h2⟩
 | k::ks,acc,left,h1,h2=>by
  unfold prjK
  by_cases h:left<=0
  ·rw [if_pos h];exact⟨h1,h2⟩
  ·rw [if_neg h]
   have:=hf k left h1 h2 (by omega)
   exact zka f B hf ks _ _ this.1 this.2
theorem zmz (l:List PlV):∀(m k:Nat) (left:Int),0<left->left<=1000->-1000<=(prj l m k left).2∧(prj l m k left).2<=1000
 | 0,k,left,h1,h2=>by
  unfold prj
  cases hp:l[k]? with
  | none=>simp only;omega
  | some p=>simp only;omega
 | m+1,k,left,h1,h2=>by
  cases hp:l[k]? with
  | none=>
   conv=>lhs;unfold prj
   conv=>rhs;unfold prj
   rw [hp]
   simp only
   omega
  | some p=>
   rw [zdj hp]
   exact zka _ 1000 (fun k left' h3 h4 h5=>zmz l m k left' h5 h4) _ _ _ (by omega) (by omega)
end Go.Proofs.YtlpnibbdmkeklaaGreatDoor
namespace Go.Proofs.YtlpnibbdmkeklaaGreatDoor
set_option linter.unusedVariables false
theorem zhQ {α:Type} (f:α->Nat) (c:Nat):∀(l:List α),(∀x∈l,f x<=c)->(l.map f).sum<=c*l.length
 | [],_=>Nat.le_refl _
 | x::r,h=>by
  have h1:=h x (by simp)
  have h2:=zhQ f c r (fun y hy=>h y (by simp [hy]))
  rw [List.map_cons,List.sum_cons,List.length_cons,Nat.mul_succ]
  omega
theorem zqK {l:List (Xa×Xa)} (h:zal l):szA l<=156:=by
 unfold szA
 have h1:=zhQ (fun x:Xa×Xa=>x.1.length+x.2.length) 38 l (fun x hx=>by
  obtain⟨i,hi,rfl⟩:=List.getElem_of_mem hx
  have:=h.2 i hi
  unfold zcc at this
  have e:l.getD i ([],[])=l[i]:=by simp [hi]
  rw [e]at this
  have a1:=this.1.2.1
  have a2:=this.2.1.1
  omega)
 have:=h.1
 omega
def zde (p:PlV):Prop:=p.name.length+p.text.length+szA p.attrs<=200
theorem znn {p:PlV} (h:zbe p=true):zde p:=by
 unfold zbe at h
 rw [zbo,if_neg (by omega)]at h
 unfold zde
 by_cases h1:(zaH p).kind=1
 ·rw [if_pos h1]at h
  have h2:=(zbb _).1 h
  have e1:p.name.length=0:=h2.1
  have e2:p.attrs.length=0:=h2.2.1
  have e3:p.text.length<=30:=h2.2.2.2.1
  have e4:szA p.attrs=0:=by rw [List.length_eq_zero_iff.1 e2];rfl
  omega
 ·rw [if_neg h1]at h
  by_cases h2:zaT (zaH p)=true
  ·have h3:=(zbh _).1 h2
   have e1:p.name.length<=8:=h3.2.1.2.1
   have e2:p.text.length=0:=h3.2.2.1
   have e3:zal p.attrs:=h3.2.2.2.1
   have:=zqK e3
   omega
  ·rw [if_neg h2]at h;cases h
theorem zkb {l:List PlV} (h:stB l=true):∀p∈l,zde p:=by
 intro p hp
 obtain⟨i,hi,rfl⟩:=List.getElem_of_mem hp
 unfold stB at h
 simp only [Bool.and_eq_true,zbj]at h
 have:=h.2 i l[i] (by simp [hi])
 unfold zcL at this
 simp only [Bool.and_eq_true]at this
 exact znn this.1.1.1
theorem zmd {α:Type} (f:Nat->Int->α×Int) (sz:α->Nat) (hf:∀k left,0<left->0<=(f k left).2∧((sz (f k left).1:Nat):Int)+1<=201*(left-(f k left).2)):∀(ks:Xb) (acc:List α) (left:Int),0<=left->0<=(prjK f ks acc left).2∧(((prjK f ks acc left).1.length+((prjK f ks acc left).1.map sz).sum:Nat):Int)<=((acc.length+(acc.map sz).sum:Nat):Int)+201*(left-(prjK f ks acc left).2)
 | [],acc,left,h=>⟨h,by simp [prjK]⟩
 | k::ks,acc,left,h=>by
  unfold prjK
  by_cases h0:left<=0
  ·rw [if_pos h0];exact⟨h,by simp⟩
  ·rw [if_neg h0]
   obtain⟨h1,h2⟩:=hf k left (by omega)
   obtain⟨h3,h4⟩:=zmd f sz hf ks (acc++[(f k left).1]) (f k left).2 h1
   refine⟨h3,?_⟩
   rw [List.length_append,List.map_append,List.sum_append]at h4
   simp only [List.length_singleton,List.map_cons,List.map_nil,List.sum_cons,List.sum_nil,Nat.add_zero]at h4
   omega
theorem zjM {l:List PlV} (H:∀p∈l,zde p):∀(m k:Nat) (left:Int),0<left->0<=(prj l m k left).2∧((szT (m+1) (prj l m k left).1:Nat):Int)+1<=201*(left-(prj l m k left).2)
 | 0,k,left,h=>by
  unfold prj
  cases hp:l[k]? with
  | none=>
   simp only
   refine⟨by omega,?_⟩
   have e:szT 1 ((⟨0,[],[],[],[]⟩:Nd (Tr 0)):Tr 1)=0:=rfl
   rw [e]
   omega
  | some p=>
   simp only
   refine⟨by omega,?_⟩
   have hs:=H p (List.mem_of_getElem? hp)
   unfold zde at hs
   have e:szT 1 ((⟨p.kind,p.name,p.text,p.attrs,[]⟩:Nd (Tr 0)):Tr 1)=p.name.length+p.text.length+szA p.attrs+(([]:List (Tr 0)).length+(([]:List (Tr 0)).map (szT 0)).sum):=rfl
   rw [e]
   simp only [List.length_nil,List.map_nil,List.sum_nil]
   omega
 | m+1,k,left,h=>by
  cases hp:l[k]? with
  | none=>
   have e0:prj l (m+1) k left=((⟨0,[],[],[],[]⟩:Nd (Tr (m+1))),left-1):=by
    conv=>lhs;unfold prj
    rw [hp]
    rfl
   have e1:(prj l (m+1) k left).2=left-1:=congrArg Prod.snd e0
   have e2:szT (m+2) (prj l (m+1) k left).1=0:=by
    have:(prj l (m+1) k left).1=((⟨0,[],[],[],[]⟩:Nd (Tr (m+1))):Tr (m+2)):=congrArg Prod.fst e0
    rw [this]
    rfl
   rw [e1,e2]
   exact⟨by omega,by omega⟩
  | some p=>
   have hs:=H p (List.mem_of_getElem? hp)
   unfold zde at hs
   have e0:=zdj (m:=m) hp left
   obtain⟨h1,h2⟩:=zmd (prj l m) (szT (m+1)) (fun k left h=>zjM H m k left h) (zao l p.id) [] (left-1) (by omega)
   have e1:(prj l (m+1) k left).2=(prjK (prj l m) (zao l p.id) [] (left-1)).2:=congrArg Prod.snd e0
   have e2:szT (m+2) (prj l (m+1) k left).1=p.name.length+p.text.length+szA p.attrs+((prjK (prj l m) (zao l p.id) [] (left-1)).1.length+((prjK (prj l m) (zao l p.id) [] (left-1)).1.map (szT (m+1))).sum):=by
    have:(prj l (m+1) k left).1=((⟨p.kind,p.name,p.text,p.attrs,(prjK (prj l m) (zao l p.id) [] (left-1)).1⟩:Nd (Tr (m+1))):Tr (m+2)):=congrArg Prod.fst e0
    rw [this]
    rfl
   rw [e1,e2]
   simp only [List.length_nil,List.map_nil,List.sum_nil]at h2
   exact⟨h1,by omega⟩
def pjR (l:List PlV):Tr 20:=if stB l=true then (prj l 19 0 120).1 else (⟨0,[],[],[],[]⟩:Nd (Tr 19))
theorem zgq {l:List PlV} (h:stB l=true):pjR l=(prj l 19 0 120).1:=if_pos h
theorem zpl {l:List PlV} (h:stB l=false):pjR l=(⟨0,[],[],[],[]⟩:Nd (Tr 19)):=if_neg (by rw [h];simp)
theorem zsW (l:List PlV):szT 20 (pjR l)<=24120:=by
 by_cases h:stB l=true
 ·rw [zgq h]
  obtain⟨h1,h2⟩:=zjM (zkb h) 19 0 120 (by omega)
  have h3:((szT 20 (prj l 19 0 120).1:Nat):Int)+1<=201*(120-(prj l 19 0 120).2):=h2
  omega
 ·rw [zpl (by simpa using h)]
  have:szT 20 ((⟨0,[],[],[],[]⟩:Nd (Tr 19)):Tr 20)=0:=rfl
  omega
set_option maxRecDepth 100000
theorem zcS {l:List PlV} (h:stB l=true):∀i p,l[i]? = some p->zbe p=true∧posP l p.id=some i∧(2<=i->zae l p.par=true):=fun i p hp=>by
 unfold stB at h
 simp only [Bool.and_eq_true,zbj]at h
 have h1:=h.2 i p hp
 unfold zcL at h1
 simp only [Bool.and_eq_true,decide_eq_true_eq]at h1
 refine⟨h1.1.1.1,h1.1.2,fun hi=> ?_⟩
 have h2:=h1.2
 rw [if_neg (by omega)]at h2
 unfold zgw at h2
 simp only [Bool.and_eq_true]at h2
 exact h2.1.2
theorem zrV {l:List PlV} (h:stB l=true) {k:Nat} {p:PlV} (hp:l[k]? = some p) (hne:zao l p.id≠[]):p.kind=0∧zaj p.name=false:=by
 have hu:=(zhX h).1.uniq
 obtain⟨j,hj⟩:=List.exists_mem_of_ne_nil _ hne
 obtain⟨j1,j2,j3⟩:=zfd hu hj
 have hq:l[j]? = some l[j]:=by simp [j2]
 unfold zbY at j3
 rw [hq]at j3
 have hpar:l[j].par=p.id:=of_decide_eq_true j3
 have ht:=(zcS h j _ hq).2.2 j1
 rw [hpar,zcR (zcS h k p hp).2.1 hp]at ht
 unfold zcM at ht
 simp only [Bool.and_eq_true,decide_eq_true_eq,Bool.not_eq_true']at ht
 exact ht
theorem zjJ {α:Type} (f:Nat->Int->α×Int) (g:α->Int->Bool×Int):∀(ks:Xb) (hg:∀k∈ks,∀left,0<left->g (f k left).1 left=(true,(f k left).2)) (acc:List α) (left:Int),∃new,(prjK f ks acc left).1=acc++new∧okK g new left=(true,(prjK f ks acc left).2)
 | [],hg,acc,left=>⟨[],by simp [prjK],by simp [prjK,okK]⟩
 | k::ks,hg,acc,left=>by
  unfold prjK
  by_cases h0:left<=0
  ·rw [if_pos h0];exact⟨[],by simp,by simp [okK]⟩
  ·rw [if_neg h0]
   obtain⟨new,h1,h2⟩:=zjJ f g ks (fun k hk=>hg k (by simp [hk])) (acc++[(f k left).1]) (f k left).2
   have h3:=hg k (by simp) left (by omega)
   refine⟨(f k left).1::new,by rw [h1];simp,?_⟩
   simp only [okK,h3,if_true]
   exact h2
theorem ziV {α:Type} {p:PlV} (h:zbe p=true) {ks:List α} (hk:ks≠[]->p.kind=0∧zaj p.name=false):(p.kind=1->zbi (⟨p.kind,p.name,p.text,p.attrs,ks⟩:Nd α)=true)∧(p.kind≠1->zaT (⟨p.kind,p.name,p.text,p.attrs,ks⟩:Nd α)=true):=by
 unfold zbe at h
 rw [zbo,if_neg (by omega)]at h
 by_cases h1:(zaH p).kind=1
 ·rw [if_pos h1]at h
  have hl:=(zbb (zaH p:Nd (Tr 0))).1 h
  have hk1:p.kind=1:=h1
  refine⟨fun _=>(zbb _).2 ⟨hl.1,hl.2.1,?_,hl.2.2.2⟩,fun e=>absurd h1 e⟩
  cases ks with
  | nil=>rfl
  | cons x r=>have:=(hk (by simp)).1;omega
 ·rw [if_neg h1]at h
  by_cases h2:zaT (zaH p:Nd (Tr 0))=true
  ·obtain⟨a1,a2,a3,a4,_⟩:=(zbh (zaH p:Nd (Tr 0))).1 h2
   refine⟨fun e=>absurd e h1,fun _=>(zbh _).2 ⟨a1,a2,a3,a4,fun e=> ?_⟩⟩
   have hne:ks≠[]:=by
    intro e2
    have h9:0<ks.length:=e.2
    rw [e2]at h9
    simp at h9
   have hv:=(hk hne).2
   rw [(zaS _).2 e.1]at hv
   cases hv
  ·rw [if_neg h2]at h;cases h
theorem zsR {n:Nat} (x:Tr (n+1)) {deep left r:Int} (h1:x.kind=1->zbi x=true) (h2:x.kind≠1->zaT x=true) (h0:0<left) (hd:deep<=20) (ho:okK (okT n (deep+1)) x.kids (left-1)=(true,r)):okT (n+1) deep x left=(true,r):=by
 rw [zbo,if_neg (by omega)]
 by_cases e:x.kind=1
 ·have hl:=h1 e
  have hks:x.kids=[]:=List.length_eq_zero_iff.1 ((zbb x).1 hl).2.2.1
  rw [hks]at ho
  have e2:left-1=r:=congrArg Prod.snd ho
  rw [if_pos e,hl,e2]
 ·rw [if_neg e,if_pos (h2 e)]
  exact ho
theorem zle {n:Nat} {p:PlV} (h:zbe p=true) {ks:List (Tr n)} (hk:ks≠[]->p.kind=0∧zaj p.name=false) {deep left r:Int} (h0:0<left) (hd:deep<=20) (ho:okK (okT n (deep+1)) ks (left-1)=(true,r)):okT (n+1) deep ((⟨p.kind,p.name,p.text,p.attrs,ks⟩:Nd (Tr n)):Tr (n+1)) left=(true,r):=
 zsR _ (ziV h hk).1 (ziV h hk).2 h0 hd ho
theorem znZ {l:List PlV} (hs:stB l=true):∀(m k:Nat) (p:PlV) (left deep:Int),l[k]? = some p->0<left->deep+(m:Int)=20->okT (m+1) deep (prj l m k left).1 left=(true,(prj l m k left).2)
 | 0,k,p,left,deep,hp,h0,hd=>by
  rw [zhk hp]
  exact zle (n:=0) (zcS hs k p hp).1 (ks:=[]) (fun e=>absurd rfl e) h0 (by omega) rfl
 | m+1,k,p,left,deep,hp,h0,hd=>by
  have hu:=(zhX hs).1.uniq
  obtain⟨new,h1,h2⟩:=zjJ (prj l m) (okT (m+1) (deep+1)) (zao l p.id) (fun j hj left' hl=>by
   obtain⟨_,j2,_⟩:=zfd hu hj
   exact znZ hs m j l[j] left' (deep+1) (by simp [j2]) hl (by omega)) [] (left-1)
  rw [List.nil_append]at h1
  have e0:=zdj (m:=m) hp left
  have e1:(prj l (m+1) k left).2=(prjK (prj l m) (zao l p.id) [] (left-1)).2:=congrArg Prod.snd e0
  have e2:(prj l (m+1) k left).1=((⟨p.kind,p.name,p.text,p.attrs,new⟩:Nd (Tr (m+1))):Tr (m+2)):=(congrArg Prod.fst e0).trans (congrArg (fun x:List (Tr (m+1))=>((⟨p.kind,p.name,p.text,p.attrs,x⟩:Nd (Tr (m+1))):Tr (m+2))) h1)
  rw [e1,e2]
  exact zle (n:=m+1) (zcS hs k p hp).1 (fun hne=>zrV hs hp (fun e=>hne (by
   rw [e]at h1
   exact h1.symm))) h0 (by omega) h2
theorem znX {l:List PlV} (hs:stB l=true):okN 19 (prj l 19 0 120).1=true:=by
 have hF:=(zhX hs).1
 have h2:=hF.two
 have hp:l[0]? = some l[0]:=by simp [show 0<l.length by omega]
 have h1:=znZ hs 19 0 l[0] 120 1 hp (by omega) (by decide)
 have hk:(prj l 19 0 120).1.kind=0:=by
  have e0:=zdj (m:=18) hp 120
  have e2:(prj l 19 0 120).1.kind=l[0].kind:=by
   have:=congrArg (fun x:Tr 20×Int=>x.1.kind) e0
   exact this
  rw [e2]
  have h3:=hs
  unfold stB at h3
  simp only [Bool.and_eq_true,zbj]at h3
  have h4:=h3.2 0 _ hp
  unfold zcL at h4
  simp only [Bool.and_eq_true]at h4
  have h5:=h4.2
  rw [if_pos (by omega)]at h5
  unfold topB at h5
  simp only [Bool.and_eq_true,decide_eq_true_eq]at h5
  exact h5.1.1.1
 show (decide ((prj l 19 0 120).1.kind=0) && (okT 20 1 (prj l 19 0 120).1 120).1)=true
 rw [decide_eq_true hk,Bool.true_and]
 exact congrArg Prod.fst h1
end Go.Proofs.YtlpnibbdmkeklaaGreatDoor
namespace Go.Proofs.YtlpnibbdmkeklaaGreatDoor
open Go.RowKit
set_option linter.unusedVariables false
theorem zkp (xs:Xd) (m:Nat) (v1 v2:Xf) (h:m+2<=xs.length):((xs.set m v1).set (m+1) v2).take (m+2)=xs.take m++[v1,v2]:=by
 apply List.ext_getElem?
 intro i
 have hl:(xs.take m).length=m:=by simp;omega
 rw [List.getElem?_take,List.getElem?_append,hl]
 by_cases h1:i<m
 ·rw [if_pos (by omega),if_pos h1,List.getElem?_set,if_neg (by omega),List.getElem?_set,if_neg (by omega),List.getElem?_take,if_pos h1]
 ·rw [if_neg h1]
  by_cases h2:i=m
  ·subst h2
   rw [if_pos (by omega),List.getElem?_set,if_neg (by omega),List.getElem?_set,if_pos rfl,if_pos (by omega)];simp
  ·by_cases h3:i=m+1
   ·subst h3
    rw [if_pos (by omega),List.getElem?_set,if_pos rfl,if_pos (by simp;omega)];simp
   ·rw [if_neg (by omega),List.getElem?_eq_none (by simp;omega)]
theorem zaR (xs:Xd) (m j:Nat) (ys:Xd) (v:Xf) (h:xs.take (m+j)=ys) (hl:m+j<xs.length):(xs.set (m+j) v).take (m+j+1)=ys++[v]:=by
 subst h
 have hl2:m+j<(xs.set (m+j) v).length:=by simpa using hl
 rw [List.take_succ_eq_append_getElem hl2,List.getElem_set_self,List.take_set_of_le (Nat.le_refl _)]
theorem znR (xs:Xd) (m:Nat) (v0 v1 v2 v3 v4:Xf) (h:m+5<=xs.length) :
  (((((xs.set m v0).set (m+1) v1).set (m+2) v2).set (m+3) v3).set (m+4) v4).take (m+5)=xs.take m++[v0,v1,v2,v3,v4]:=by
 have h0:=zaR xs m 0 (xs.take m) v0 rfl (by omega)
 have h1:=zaR (xs.set m v0) m 1 _ v1 h0 (by simp;omega)
 have h2:=zaR ((xs.set m v0).set (m+1) v1) m 2 _ v2 h1 (by simp;omega)
 have h3:=zaR (((xs.set m v0).set (m+1) v1).set (m+2) v2) m 3 _ v3 h2 (by simp;omega)
 have h4:=zaR ((((xs.set m v0).set (m+1) v1).set (m+2) v2).set (m+3) v3) m 4 _ v4 h3 (by simp;omega)
 simpa using h4
structure Half {α:Type} (w:Xe) (e:Xg) (size g n:Nat) (l:List α) (R:Xd->α->Xb->Prop) (lo k:Nat):Prop where
 laid:∃(Cs:List (Xd)) (Fs:List (Xb)) (xs:Xd),Cs.length=k∧Fs.length=k∧(∀i (hi:i<l.length),i<k->(Cs.getD i []).length=size∧R (Cs.getD i []) l[i] (Fs.getD i []))∧
  w.ownsRow 0 e size (.slice (some ⟨g,0,none⟩) n n) n xs∧xs.take (k*size)=Cs.flatten∧Fs.flatten.Nodup∧Rng Fs.flatten lo w.heap.size
theorem Half.whole {α:Type} {w:Xe} {e:Xg} {size g n:Nat} {l:List α} {R:Xd->α->Xb->Prop} {lo:Nat} (h:Half w e size g n l R lo n) (hn:l.length=n) (hg:g<lo) :
  ∃F,OwElems w e size (.slice (some ⟨g,0,none⟩) n n) l R F∧F.Nodup∧(∀q∈F,g<=q∧q<w.heap.size):=by
 obtain⟨Cs,Fs,xs,h1,h2,h3,h4,h5,h6,h7⟩:=h.laid
 subst hn
 have hx:xs=Cs.flatten:=by rw [<-h5,List.take_of_length_le (by rw [h4.1];exact Nat.le_refl _)]
 subst hx
 have hlt:=(h4.lt g rfl).2
 refine⟨FB (.slice (some ⟨g,0,none⟩) l.length l.length)++Fs.flatten,⟨Cs,Fs,h1,h2,fun i hi=>h3 i hi hi,h4,rfl⟩,?_,fun q hq=> ?_⟩
 ·rw [List.nodup_append]
  refine⟨zaF _,h6,fun a ha b hb e=> ?_⟩
  have:=h7 b hb
  simp [FB,Value.ownBlock]at ha
  omega
 ·rcases List.mem_append.1 hq with h' | h'
  ·simp [FB,Value.ownBlock]at h';omega
  ·have:=h7 q h';omega
theorem Half.start {α:Type} {w:Xe} {e:Xg} {size g n:Nat} {l:List α} {R:Xd->α->Xb->Prop} (lo:Nat) {xs:Xd} (h:w.ownsRow 0 e size (.slice (some ⟨g,0,none⟩) n n) n xs):Half w e size g n l R lo 0:=
 ⟨[],[],xs,rfl,rfl,fun i hi h0=>by omega,h,by simp,by simp,Rng.nil _ _⟩
theorem zfN {α:Type} (Cs:List (List α)) (C:List α):(Cs++[C]).flatten=Cs.flatten++C:=by simp
theorem zjh {β:Type} (Cs:List (List β)) (C:List β) (i:Nat):(Cs++[C]).getD i []=if i<Cs.length then Cs.getD i [] else if i=Cs.length then C else []:=by
 by_cases h:i<Cs.length
 ·rw [if_pos h,List.getD_eq_getElem?_getD,List.getElem?_append_left h,<-List.getD_eq_getElem?_getD]
 ·rw [if_neg h]
  by_cases h2:i=Cs.length
  ·subst h2;simp
  ·rw [if_neg h2,List.getD_eq_getElem?_getD,List.getElem?_eq_none (by simp;omega)];rfl
theorem Half.step {α:Type} {w w1 w2:Xe} {e:Xg} {size g n:Nat} {l:List α} {R R2:Xd->α->Xb->Prop} {lo k:Nat} (h:Half w e size g n l R lo k) (hk:k<l.length) (hlo:g<lo) (hlow:lo<=w.heap.size)
  (hB:Below w.heap.size w w1) (C:Xd) (G:Xb) (hC:C.length=size) (hR:R2 C l[k] G) (hG:G.Nodup) (hrng:Rng G w.heap.size w1.heap.size)
  (hmono:∀C x G,R C x G->(∀q∈G,q≠g)->R2 C x G) (hf:Frm w1 w2 [g]) (hs:∀xs:Xd,w1.ownsRow 0 e size (.slice (some ⟨g,0,none⟩) n n) n xs->∃ys,w2.ownsRow 0 e size (.slice (some ⟨g,0,none⟩) n n) n ys∧ys.take (k*size+size)=xs.take (k*size)++C) :
  Half w2 e size g n l R2 lo (k+1):=by
 obtain⟨Cs,Fs,xs,h1,h2,h3,h4,h5,h6,h7⟩:=h.laid
 have h4':w1.ownsRow 0 e size (.slice (some ⟨g,0,none⟩) n n) n xs:=zap h4 (Frm.ofBelow hB []) (fun _ _=>by simp)
 obtain⟨ys,hy1,hy2⟩:=hs xs h4'
 have hsz:=hf.size
 have hsz1:=hB.size
 refine⟨Cs++[C],Fs++[G],ys,by simp [h1],by simp [h2],fun i hi hik=> ?_,hy1,?_,?_,?_⟩
 ·rw [zjh,zjh,h1,h2]
  by_cases hlt:i<k
  ·rw [if_pos hlt,if_pos hlt]
   have:=h3 i hi hlt
   refine⟨this.1,hmono _ _ _ this.2 (fun q hq=> ?_)⟩
   have:=h7 q (zav hq)
   omega
  ·have e:i=k:=by omega
   subst e
   rw [if_neg hlt,if_neg hlt,if_pos rfl,if_pos rfl]
   exact⟨hC,hR⟩
 ·rw [zfN,<-h5,Nat.succ_mul];exact hy2
 ·rw [zfN,List.nodup_append]
  exact⟨h6,hG,fun a ha b hb e=>by have:=h7 a ha;have:=hrng b hb;omega⟩
 ·rw [zfN]
  exact (h7.mono (Nat.le_refl _) (by omega)).app (hrng.mono (by omega) (by omega))
set_option maxRecDepth 100000
theorem Tryz.info81:(Tryz.prog.info? 81).map (fun i=>(i.zero,i.size,i.bytes))=some (some (.agg #[.int .i64 0,.int .i64 0]),2,16):=by kernel_rfl
def zrg (C:Xd) (x:Int×Int):Prop:=C=[.int .i64 x.1,.int .i64 x.2]
def RdIds (w:Xe) (v:Xf) (l:List (Int×Int)):Prop:=Elems w 2 v l zrg
theorem RdIds.keep {w w':Xe} {v:Xf} {l:List (Int×Int)} (h:RdIds w v l) (hb:Below w.heap.size w w'):RdIds w' v l:=Elems.keep h hb (fun C x _ h=>h)
def OwIdC (C:Xd) (x:Int×Int) (F:Xb):Prop:=C=[.int .i64 x.1,.int .i64 x.2]∧F=[]
def OwIds (w:Xe) (v:Xf) (l:List (Int×Int)) (F:Xb):Prop:=OwElems w 81 2 v l OwIdC F
theorem OwIds.frm {w w':Xe} {v:Xf} {l:List (Int×Int)} {F S:Xb} (h:OwIds w v l F) (f:Frm w w' S) (hd:∀g∈F,g∉S):OwIds w' v l F:=OwElems.frm h f hd (fun C x G hr _=>hr)
theorem OwIds.rd {w:Xe} {v:Xf} {l:List (Int×Int)} {F:Xb} (h:OwIds w v l F):RdIds w v l:=OwElems.rd h (OwElems.len h) (fun C x G h=>h.1)
theorem RdIds.cases {w:Xe} {v:Xf} {l:List (Int×Int)} (h:RdIds w v l):(l=[]∧∃a cap,v=.slice a 0 cap)∨(∃b off cap,v=.slice (some ⟨b,off,none⟩) l.length cap∧l≠[]∧b<w.heap.size∧∀i (hi:i<l.length),w.cell? ⟨b,off+i*2,none⟩=some (.int .i64 l[i].1)∧w.cell? ⟨b,off+i*2+1,none⟩=some (.int .i64 l[i].2)):=by
 obtain⟨_,⟨rfl,rfl⟩ | ⟨x,cap,rfl,hc,rfl⟩ | ⟨b,off,cap,rfl,g1,g2,g3,g4,g5⟩⟩:=h
 ·exact .inl ⟨rfl,_,_,rfl⟩
 ·exact .inl ⟨rfl,_,_,rfl⟩
 ·refine .inr ⟨b,off,cap,rfl,g3,g4,fun i hi=> ?_⟩
  obtain⟨c0,c1,h0,h1,hr⟩:=zeQ (g5 i hi)
  cases hr
  exact⟨h0,h1⟩
theorem Tryz.info83:(Tryz.prog.info? 83).map (fun i=>(i.zero,i.size,i.bytes))=some (some (.agg #[.int .i64 0,.int .i64 0,.int .i64 0,.int .i64 0,.int .i64 0,.int .i64 0,.int .i64 0,.slice none 0 0,.int .i64 0,.slice none 0 0,.slice none 0 0,.bool false]),12,144):=by kernel_rfl
set_option maxHeartbeats 3200000 in
theorem zlr (xs:Xd) (m:Nat) (v0 v1 v2 v3 v4 v5 v6 v7 v8 v9 v10 v11:Xf) (h:m+12<=xs.length) :
  ((((((((((((xs.set (m) v0).set (m+1) v1).set (m+2) v2).set (m+3) v3).set (m+4) v4).set (m+5) v5).set (m+6) v6).set (m+7) v7).set (m+8) v8).set (m+9) v9).set (m+10) v10).set (m+11) v11).take (m+12)=xs.take m++[v0,v1,v2,v3,v4,v5,v6,v7,v8,v9,v10,v11]:=by
 have h0:=zaR xs m 0 _ v0 rfl (by omega)
 have h1:=zaR (xs.set (m) v0) m 1 _ v1 h0 (by simp;omega)
 have h2:=zaR ((xs.set (m) v0).set (m+1) v1) m 2 _ v2 h1 (by simp;omega)
 have h3:=zaR (((xs.set (m) v0).set (m+1) v1).set (m+2) v2) m 3 _ v3 h2 (by simp;omega)
 have h4:=zaR ((((xs.set (m) v0).set (m+1) v1).set (m+2) v2).set (m+3) v3) m 4 _ v4 h3 (by simp;omega)
 have h5:=zaR (((((xs.set (m) v0).set (m+1) v1).set (m+2) v2).set (m+3) v3).set (m+4) v4) m 5 _ v5 h4 (by simp;omega)
 have h6:=zaR ((((((xs.set (m) v0).set (m+1) v1).set (m+2) v2).set (m+3) v3).set (m+4) v4).set (m+5) v5) m 6 _ v6 h5 (by simp;omega)
 have h7:=zaR (((((((xs.set (m) v0).set (m+1) v1).set (m+2) v2).set (m+3) v3).set (m+4) v4).set (m+5) v5).set (m+6) v6) m 7 _ v7 h6 (by simp;omega)
 have h8:=zaR ((((((((xs.set (m) v0).set (m+1) v1).set (m+2) v2).set (m+3) v3).set (m+4) v4).set (m+5) v5).set (m+6) v6).set (m+7) v7) m 8 _ v8 h7 (by simp;omega)
 have h9:=zaR (((((((((xs.set (m) v0).set (m+1) v1).set (m+2) v2).set (m+3) v3).set (m+4) v4).set (m+5) v5).set (m+6) v6).set (m+7) v7).set (m+8) v8) m 9 _ v9 h8 (by simp;omega)
 have h10:=zaR ((((((((((xs.set (m) v0).set (m+1) v1).set (m+2) v2).set (m+3) v3).set (m+4) v4).set (m+5) v5).set (m+6) v6).set (m+7) v7).set (m+8) v8).set (m+9) v9) m 10 _ v10 h9 (by simp;omega)
 have h11:=zaR (((((((((((xs.set (m) v0).set (m+1) v1).set (m+2) v2).set (m+3) v3).set (m+4) v4).set (m+5) v5).set (m+6) v6).set (m+7) v7).set (m+8) v8).set (m+9) v9).set (m+10) v10) m 11 _ v11 h10 (by simp;omega)
 simpa using h11
def OwOpC (w:Xe) (C:Xd) (o:OpV) (F:Xb):Prop:=∃k n t,C=[.int .i64 o.kind,.int .i64 o.atN,.int .i64 o.atR,.int .i64 o.nodeN,.int .i64 o.nodeR,.int .i64 o.parN,.int .i64 o.parR,k,.int .i64 o.elem,n,t,.bool o.gone]∧OwnZ w 0 k o.key∧Own w 0 n o.name∧Own w 0 t o.text∧F=FB k++FB n++FB t
def OwOps (w:Xe) (v:Xf) (l:List OpV) (F:Xb):Prop:=OwElems w 83 12 v l (OwOpC w) F
theorem OwOpC.frm {w w':Xe} {C:Xd} {o:OpV} {F S:Xb} (h:OwOpC w C o F) (f:Frm w w' S) (hd:∀g∈F,g∉S):OwOpC w' C o F:=by
 obtain⟨k,n,t,e,h1,h2,h3,rfl⟩:=h
 exact⟨k,n,t,e,⟨h1.1,zap h1.2 f (fun g hg=>hd g (by simp [hg]))⟩,h2.frm f (fun g hg=>hd g (by simp [hg])),h3.frm f (fun g hg=>hd g (by simp [hg])),rfl⟩
theorem OwOps.frm {w w':Xe} {v:Xf} {l:List OpV} {F S:Xb} (h:OwOps w v l F) (f:Frm w w' S) (hd:∀g∈F,g∉S):OwOps w' v l F:=
 OwElems.frm h f hd (fun C x G hr hG=>hr.frm f hG)
theorem OwOps.rd {w:Xe} {v:Xf} {l:List OpV} {F:Xb} (h:OwOps w v l F):RdOps w v l:=
 OwElems.rd h (OwElems.len h) (fun C x G ⟨k,n,t,e,h1,h2,h3,_⟩=>⟨k,n,t,e,h1.ints,h2.byt,h3.byt⟩)
theorem rd5 {n:Nat} {w:Xe} {a b c d e:Xf} {t:Tr (n+1)} (h:RdNode (n+1) w [a,b,c,d,e] t):∃z ab nb cb ac nc cc ad nd cd ae ne ce,a=.int .i64 z∧b=.slice ab nb cb∧c=.slice ac nc cc∧d=.slice ad nd cd∧e=.slice ae ne ce:=by
 obtain⟨_,_,_,_,e0,_,_,hb,hc,hd,he⟩:=h
 simp only [List.cons.injEq,and_true]at e0
 obtain⟨rfl,rfl,rfl,rfl,rfl⟩:=e0
 obtain⟨ab,cb,rfl,_,_⟩:=hb.shape
 obtain⟨ac,cc,rfl,_,_⟩:=hc.shape
 obtain⟨ad,cd,rfl,_,_⟩:=Elems.shape hd
 obtain⟨ae,ce,rfl,_,_⟩:=Elems.shape he
 exact⟨_,_,_,_,_,_,_,_,_,_,_,_,_,rfl,rfl,rfl,rfl,rfl⟩
def zhO (n:Nat) (t:Tr (n+1)):Bool:=okN n t && !zaj t.name
def zfM (n:Nat) (id:Int) (t:Tr (n+1)):Bool:=decide (0<=id) && decide (id<8) && zhO n t
structure RepV (n:Nat) where
 id:Int
 clock:Int
 first:Tr (n+1)
 ops:List OpV
 und:List (Int×Int)
 lost:Bool
def RdRep (n:Nat) (w:Xe) (a b c d e vo vu:Xf) (r:RepV n):Prop:=RdNode (n+1) w [a,b,c,d,e] r.first∧RdOps w vo r.ops∧RdIds w vu r.und
def zaQ {n:Nat} (r:RepV n) (a b c d e vo vu:Xf):Xf:=.agg #[.int .i64 r.id,.int .i64 r.clock,a,b,c,d,e,vo,vu,.bool r.lost]
theorem RdRep.keep {n:Nat} {w w':Xe} {a b c d e vo vu:Xf} {r:RepV n} (h:RdRep n w a b c d e vo vu r) (hb:Below w.heap.size w w'):RdRep n w' a b c d e vo vu r:=⟨h.1.keep hb,h.2.1.keep hb,h.2.2.keep hb⟩
def OwRep (n:Nat) (w:Xe) (a b c d e vo vu:Xf) (r:RepV n) (F:Xb):Prop:=∃F1 F2 F3,OwNode (n+1) w [a,b,c,d,e] r.first F1∧OwOps w vo r.ops F2∧OwIds w vu r.und F3∧F=F1++F2++F3
theorem OwRep.rd {n:Nat} {w:Xe} {a b c d e vo vu:Xf} {r:RepV n} {F:Xb} (h:OwRep n w a b c d e vo vu r F):RdRep n w a b c d e vo vu r:=by
 obtain⟨F1,F2,F3,h1,h2,h3,_⟩:=h
 exact⟨h1.rd,h2.rd,h3.rd⟩
theorem Loc.ten {w:Xe} {g:Nat} {v0 v1 v2 v3 v4 v5 v6 v7 v8 v9:Xf} {T:Xg} (h:Loc w g #[v0,v1,v2,v3,v4,v5,v6,v7,v8,v9] T):w.cell? ⟨g,0,none⟩=some v0∧w.cell? ⟨g,1,none⟩=some v1∧w.cell? ⟨g,2,none⟩=some v2∧w.cell? ⟨g,3,none⟩=some v3∧w.cell? ⟨g,4,none⟩=some v4∧w.cell? ⟨g,5,none⟩=some v5∧w.cell? ⟨g,6,none⟩=some v6∧w.cell? ⟨g,7,none⟩=some v7∧w.cell? ⟨g,8,none⟩=some v8∧w.cell? ⟨g,9,none⟩=some v9:=
 ⟨h.cell 0,h.cell 1,h.cell 2,h.cell 3,h.cell 4,h.cell 5,h.cell 6,h.cell 7,h.cell 8,h.cell 9⟩
def zcr (l:List OpV) (c:Int):Bool:=l.all fun o=>decide (o.atN<=c)
def zcm (l:List (Int×Int)) (id clk:Int) (i:Nat):Bool:=if h:i<l.length then decide (l[i].2=id) && decide (1<=l[i].1) && decide (l[i].1<=clk) && (decide (i=0) || zan (l[i-1]'(by omega)).1 (l[i-1]'(by omega)).2 l[i].1 l[i].2) else true
def undB (l:List (Int×Int)) (id clk:Int):Bool:=decide (l.length<=150) && (List.range l.length).all (zcm l id clk)
def repB {n:Nat} (r:RepV n):Bool:=zfM n r.id r.first && decide (0<=r.clock) && decide (r.clock<=1000000) && opsB r.ops && zcr r.ops r.clock && undB r.und r.id r.clock
theorem zhf {l:List OpV} {c:Int} {k:Nat} (hk:k<l.length) (h:c<l[k].atN):zcr l c=false:=by
 unfold zcr
 rw [List.all_eq_false]
 exact⟨l[k],List.getElem_mem hk,by simp;omega⟩
theorem zgo {l:List OpV} {c:Int} (h:∀k (hk:k<l.length),l[k].atN<=c):zcr l c=true:=by
 unfold zcr
 rw [List.all_eq_true]
 intro x hx
 obtain⟨i,hi,rfl⟩:=List.getElem_of_mem hx
 simpa using h i hi
theorem ziv {l:List (Int×Int)} {id clk:Int} (h:150<l.length):undB l id clk=false:=by unfold undB;rw [decide_eq_false (by omega)];rfl
theorem zkl {l:List (Int×Int)} {id clk:Int} {k:Nat} (hk:k<l.length) (h:zcm l id clk k=false):undB l id clk=false:=by
 unfold undB
 rw [Bool.and_eq_false_iff]
 right
 rw [List.all_eq_false]
 exact⟨k,by simpa using hk,by simp [h]⟩
theorem ziF {l:List (Int×Int)} {id clk:Int} (hn:l.length<=150) (h:∀j,j<l.length->zcm l id clk j=true):undB l id clk=true:=by
 unfold undB
 rw [decide_eq_true hn,Bool.true_and,List.all_eq_true]
 intro j hj
 exact h j (by simpa using hj)
theorem zkg {l:List (Int×Int)} {id clk:Int} {k:Nat} (hk:k<l.length):zcm l id clk k=(decide (l[k].2=id) && decide (1<=l[k].1) && decide (l[k].1<=clk) && (decide (k=0) || zan (l[k-1]'(by omega)).1 (l[k-1]'(by omega)).2 l[k].1 l[k].2)):=by unfold zcm;rw [dif_pos hk]
theorem zfm {α β:Type} (f:α->List β) (g:α->Nat) (H:∀x,(f x).length<=6*g x+6):∀l:List α,(l.map f).flatten.length<=6*(l.length+(l.map g).sum)
 | []=>by simp
 | x::l=>by
  have h1:=zfm f g H l
  have h2:=H x
  simp only [List.map_cons,List.flatten_cons,List.length_append,List.length_cons,List.sum_cons]
  omega
theorem zmY (l:List (Xa×Xa)):(zau l).length<=6*szA l:=by
 unfold zau szA
 refine zfm zcG (fun x=>x.1.length+x.2.length) (fun x=> ?_) l
 have:=zik true x.2
 unfold zcG
 simp only [List.length_append,List.length_cons,List.length_nil]
 omega
theorem zhx:∀(n:Nat) (t:Tr n),(mkup n t).length<=6*szT n t+5
 | 0,t=>by show ([]:Xa).length<=_;simp
 | n+1,t=>by
  have h1:=zik false t.text
  have h2:=zmY t.attrs
  have h3:=zfm (mkup n) (szT n) (fun x=>by have:=zhx n x;omega) t.kids
  have h4:szT (n+1) t=t.name.length+t.text.length+szA t.attrs+(t.kids.length+(t.kids.map (szT n)).sum):=rfl
  rw [zgg,h4]
  split
  ·omega
  ·split
   ·simp only [List.length_append,List.length_cons,List.length_nil]
    omega
   ·simp only [List.length_append,List.length_cons,List.length_nil]
    omega
def docT {n:Nat} (t:Tr (n+1)) (ops:List OpV):Tr 20:=(prj (zaK t ops) 19 0 120).1
def docV {n:Nat} (r:RepV n):Xa:=if repB r=true then mkup 20 (docT r.first r.ops) else []
theorem zgd {n:Nat} {r:RepV n} (h:repB r=true):okN n r.first=true∧zaj r.first.name=false∧opsB r.ops=true:=by
 unfold repB zfM zhO at h
 simp only [Bool.and_eq_true,Bool.not_eq_true']at h
 exact⟨h.1.1.1.1.1.2.1,h.1.1.1.1.1.2.2,h.1.1.2⟩
theorem zep {n:Nat} {r:RepV n} (h:repB r=true):stB (zaK r.first r.ops)=true:=by
 obtain⟨h1,h2,h3⟩:=zgd h
 exact zsh h1 h2 h3
theorem znW {n:Nat} {r:RepV n} (h:repB r=true):szT 20 (docT r.first r.ops)<=24120:=by
 have:=zsW (zaK r.first r.ops)
 rw [zgq (zep h)]at this
 exact this
theorem zsV {n:Nat} {r:RepV n} (h:repB r=true):okN 19 (docT r.first r.ops)=true:=znX (zep h)
theorem zmo {n:Nat} {r:RepV n} (h:repB r=true):(mkup 20 (docT r.first r.ops)).length<=144725:=by
 have h1:=zhx 20 (docT r.first r.ops)
 have h2:=znW h
 omega
theorem zkv {l:List PlV} (h:stB l=true):∀p∈l,(-9223372036854775808<=p.kind∧p.kind<=9223372036854775807)∧okI p.id∧okI p.par:=by
 have hids:∀p∈l,okI p.id:=fun p hp=>by
  obtain⟨i,hi,rfl⟩:=List.getElem_of_mem hp
  have h1:=h
  unfold stB at h1
  simp only [Bool.and_eq_true,zbj]at h1
  have h2:=h1.2 i l[i] (by simp [hi])
  unfold zcL at h2
  simp only [Bool.and_eq_true]at h2
  exact zet h2.1.1.2
 intro p hp
 refine⟨?_,hids p hp,?_⟩
 ·obtain⟨i,hi,rfl⟩:=List.getElem_of_mem hp
  rcases znN (zcS h i l[i] (by simp [hi])).1 with e | e<;>(rw [e];omega)
 ·obtain⟨i,hi,rfl⟩:=List.getElem_of_mem hp
  have hp':l[i]? = some l[i]:=by simp [hi]
  by_cases h2:2<=i
  ·obtain⟨j,hj⟩:=zcE ((zcS h i _ hp').2.2 h2)
   obtain⟨q,hq,hqi⟩:=zbp hj
   rw [<-hqi]
   exact hids q (List.mem_of_getElem? hq)
  ·have h1:=h
   unfold stB at h1
   simp only [Bool.and_eq_true,zbj]at h1
   have h3:=h1.2 i l[i] hp'
   unfold zcL at h3
   simp only [Bool.and_eq_true]at h3
   have h4:=h3.2
   rw [if_pos (by omega)]at h4
   unfold topB at h4
   simp only [Bool.and_eq_true]at h4
   rw [(zfc _).1 h4.1.2]
   exact zet (by decide)
def cmpZ (x y:Int):Int:=if x<y then -1 else if y<x then 1 else 0
set_option maxHeartbeats 1600000 in
theorem ziN (w:Xe) (x:Int):Calls Tryz.prog 164 #[.int .i64 x] w fun e w'=>e=.returned (.bool false)∧w'=w:=by
 go_enter Tryz.func164,Tryz.ntmps164
 go_wp2_with fail
 go_ret
 exact⟨by simp,rfl⟩
set_option maxHeartbeats 1600000 in
theorem zpQ (w:Xe) (x y:Int):Calls Tryz.prog 146 #[.int .i64 x,.int .i64 y] w fun e w'=>e=.returned (.int .i64 (cmpZ x y))∧w'=w:=by
 have H1:=hide (ziN w x)
 have H2:=hide (ziN w y)
 by_cases h1:x<y
 ·have d1:decide (x<y)=true:=decide_eq_true h1
  have HE:=hide (show cmpZ x y = -1 by unfold cmpZ;rw [if_pos h1])
  clear h1
  go_enter Tryz.func146,Tryz.ntmps146
  go_wp2_with fail
  refine (zaa H1).mono ?_
  rintro e w' ⟨rfl,rfl⟩
  go_wp2_with fail
  refine (zaa H2).mono ?_
  rintro e w' ⟨rfl,rfl⟩
  go_wp2_with fail
  go_ret
  exact⟨by rw [zaa HE];rfl,rfl⟩
 ·have d1:decide (x<y)=false:=decide_eq_false h1
  by_cases h2:y<x
  ·have d2:decide (y<x)=true:=decide_eq_true h2
   have HE:=hide (show cmpZ x y=1 by unfold cmpZ;rw [if_neg h1,if_pos h2])
   clear h1 h2
   go_enter Tryz.func146,Tryz.ntmps146
   go_wp2_with fail
   refine (zaa H1).mono ?_
   rintro e w' ⟨rfl,rfl⟩
   go_wp2_with fail
   refine (zaa H2).mono ?_
   rintro e w' ⟨rfl,rfl⟩
   go_wp2_with fail
   go_ret
   exact⟨by rw [zaa HE];rfl,rfl⟩
  ·have d2:decide (y<x)=false:=decide_eq_false h2
   have HE:=hide (show cmpZ x y=0 by unfold cmpZ;rw [if_neg h1,if_neg h2])
   clear h1 h2
   go_enter Tryz.func146,Tryz.ntmps146
   go_wp2_with fail
   refine (zaa H1).mono ?_
   rintro e w' ⟨rfl,rfl⟩
   go_wp2_with fail
   refine (zaa H2).mono ?_
   rintro e w' ⟨rfl,rfl⟩
   go_wp2_with fail
   go_ret
   exact⟨by rw [zaa HE];rfl,rfl⟩
def cmpK:Xa->Xa->Int
 | [],[]=>0
 | [],_::_=> -1
 | _::_,[]=>1
 | x::a,y::b=>if cmpZ x y=0 then cmpK a b else cmpZ x y
theorem zdD (x y:Int):cmpZ x y=0↔x=y:=by
 unfold cmpZ
 by_cases h1:x<y
 ·rw [if_pos h1];omega
 ·rw [if_neg h1]
  by_cases h2:y<x
  ·rw [if_pos h2];omega
  ·rw [if_neg h2];omega
theorem zgA:∀(a b:Xa),decide (cmpK a b<0)=klB a b
 | [],[]=>rfl
 | [],_::_=>rfl
 | _::_,[]=>rfl
 | x::a,y::b=>by
  rw [cmpK,klB]
  by_cases h:x=y
  ·rw [if_pos ((zdD x y).2 h),if_pos h]
   exact zgA a b
  ·rw [if_neg (fun e=>h ((zdD x y).1 e)),if_neg h]
   unfold cmpZ
   by_cases h1:x<y
   ·simp [h1]
   ·have h2:y<x:=by omega
    simp [h1,h2]
theorem zeJ:∀(a b:Xa),cmpK a b=0↔a=b
 | [],[]=>by simp [cmpK]
 | [],_::_=>by simp [cmpK]
 | _::_,[]=>by simp [cmpK]
 | x::a,y::b=>by
  rw [cmpK]
  by_cases h:x=y
  ·rw [if_pos ((zdD x y).2 h),zeJ a b]
   simp [h]
  ·rw [if_neg (fun e=>h ((zdD x y).1 e))]
   constructor
   ·intro e;exact absurd ((zdD x y).1 e) h
   ·intro e;exact absurd (List.cons.inj e).1 h
set_option maxRecDepth 1000000
theorem zpf {a b:Xa} {k:Nat} (ha:k<a.length) (hb:k<b.length):cmpK (a.drop k) (b.drop k)=if cmpZ (a.getD k 0) (b.getD k 0)=0 then cmpK (a.drop (k+1)) (b.drop (k+1)) else cmpZ (a.getD k 0) (b.getD k 0):=by
 rw [zcf ha,zcf hb,cmpK]
theorem ziC {a b:Xa} {k:Nat} (ha:k<a.length) (hb:k=b.length):cmpK (a.drop k) (b.drop k)=1:=by
 rw [zcf ha,hb,List.drop_length]
 rfl
theorem ziy {a b:Xa} {k:Nat} (ha:k=a.length) (hb:k<=b.length):cmpK (a.drop k) (b.drop k)=if k<b.length then -1 else 0:=by
 rw [ha,List.drop_length]
 by_cases h:a.length<b.length
 ·rw [if_pos h,zcf h]
  rfl
 ·rw [if_neg h,List.drop_of_length_le (by omega)]
  rfl
set_option maxHeartbeats 3200000 in
theorem zpX (w:Xe) (u v:Xf) (a b:Xa) (hu:Ints w u a) (hv:Ints w v b) :
  Calls Tryz.prog 130 #[u,v] w fun e w'=>e=.returned (.int .i64 (cmpK a b))∧w'=w:=by
 have hma:=hu.2.1
 have hmb:=hv.2.1
 unfold maxLen at hma hmb
 by_cases h0:a=[]
 ·subst h0
  obtain⟨a1,c1,rfl,_⟩:=hu.shape
  obtain⟨a2,c2,rfl,_⟩:=hv.shape
  have HE:=hide (ziy (a:=[]) (b:=b) (k:=0) rfl (Nat.zero_le _))
  simp only [List.drop_zero]at HE
  clear hu hv
  generalize b.length=m at *
  by_cases hm:0<m
  ·have d:decide (0<m)=true:=decide_eq_true hm
   have d':(0:Int)<(m:Int):=by omega
   rw [if_pos hm]at HE
   go_enter Tryz.func130,Tryz.ntmps130
   go_wp2_with fail
   refine wp_loop_rounds 1 ?_
   rw [rounds_succ]
   go_wp2_with fail
   go_ret
   exact⟨by rw [zaa HE];rfl,rfl⟩
  ·have e:m=0:=by omega
   subst e
   rw [if_neg hm]at HE
   go_enter Tryz.func130,Tryz.ntmps130
   go_wp2_with fail
   refine wp_loop_rounds 1 ?_
   rw [rounds_succ]
   go_wp2_with fail
   go_ret
   exact⟨by rw [zaa HE];rfl,rfl⟩
 obtain⟨hoka,_,⟨rfl,rfl⟩ | ⟨x,cap,rfl,hc,rfl⟩ | ⟨p,off,cap,rfl,h1,h2,h3,h4,h5⟩⟩:=hu
 ·exact absurd rfl h0
 ·exact absurd rfl h0
 have hl0:0<a.length:=by
  cases a with
  | nil=>exact absurd rfl h0
  | cons x r=>simp
 by_cases hb0:b=[]
 ·subst hb0
  obtain⟨a2,c2,rfl,_⟩:=hv.shape
  have HE:=hide (ziC (a:=a) (b:=[]) (k:=0) hl0 rfl)
  simp only [List.drop_zero]at HE
  have c1:=h5 0 hl0
  rw [Nat.add_zero]at c1
  generalize a.getD 0 0=x at *
  have hl0':(0:Int)<(a.length:Int):=by omega
  clear h5 hv
  generalize a.length=n at *
  go_enter Tryz.func130,Tryz.ntmps130
  go_wp2_with fail
  refine wp_loop_rounds 1 ?_
  rw [rounds_succ]
  go_wp2_with fail
  go_ret
  exact⟨by rw [zaa HE];rfl,rfl⟩
 obtain⟨hokb,_,⟨rfl,rfl⟩ | ⟨x,cap',rfl,hc,rfl⟩ | ⟨q,off',cap',rfl,g1,g2,g3,g4,g5⟩⟩:=hv
 ·exact absurd rfl hb0
 ·exact absurd rfl hb0
 generalize hA:a.length=n at *
 generalize hC:b.length=m at *
 have HA:=hide hA
 have HC:=hide hC
 clear hA hC h0 hb0
 go_enter Tryz.func130,Tryz.ntmps130
 go_wp2_with fail
 go_loop [11] (fun i=>∃k:Nat,k<=n∧k<=m∧i=.int .i64 k∧Hid (cmpK a b=cmpK (a.drop k) (b.drop k))) (fun i=>n-(intOf i).toNat)
 case atStart=>exact⟨0,Nat.zero_le _,Nat.zero_le _,rfl,hide rfl⟩
 case round=>
  obtain⟨k,hk,hk',rfl,ht⟩:=hrel
  by_cases hka:k<n
  ·have hlt':(k:Int)<(n:Int):=by omega
   have hk0:(0:Int)<=(k:Int):=by omega
   have c1:=h5 k hka
   by_cases hkb:k<m
   ·have hlt2:¬ (m:Int)<=(k:Int):=by omega
    have hlt3:(k:Int)<(m:Int):=by omega
    have c2:=g5 k hkb
    have HS:=hide (zpf (a:=a) (b:=b) (k:=k) (by rw [zaa HA];exact hka) (by rw [zaa HC];exact hkb))
    generalize a.getD k 0=x at *
    generalize b.getD k 0=y at *
    clear h5 g5
    have HZ:=hide (zpQ w x y)
    go_wp2_with fail
    refine (zaa HZ).mono ?_
    rintro e w' ⟨rfl,rfl⟩
    clear HZ
    generalize cmpZ x y=z at *
    by_cases hz:z=0
    ·subst hz
     have HT:=hide ((zaa ht).trans (show cmpK (a.drop k) (b.drop k)=cmpK (a.drop (k+1)) (b.drop (k+1)) by rw [zaa HS,if_pos rfl]))
     clear c1 c2
     go_wp2_with fail
     go_round
     case rel=>exact⟨k+1,by omega,by omega,by go_num,HT⟩
     case measure=>simp [intOf];omega
    ·have dz:(z != 0)=true:=by simpa using hz
     have HT:=hide ((zaa ht).trans (show cmpK (a.drop k) (b.drop k)=z by rw [zaa HS,if_neg hz]))
     clear c1 c2 hz
     go_wp2_with fail
     go_ret
     exact⟨by rw [zaa HT];rfl,rfl⟩
   ·have hlt2:(m:Int)<=(k:Int):=by omega
    have HT:=hide ((zaa ht).trans (ziC (by rw [zaa HA];exact hka) (by rw [zaa HC];omega)))
    generalize a.getD k 0=x at *
    clear h5 g5
    go_wp2_with fail
    go_ret
    exact⟨by rw [zaa HT];rfl,rfl⟩
  ·have hlt':¬ (k:Int)<(n:Int):=by omega
   have HT:=hide ((zaa ht).trans (ziy (by rw [zaa HA];omega) (by rw [zaa HC];exact hk')))
   have e:k=n:=by omega
   subst e
   clear h5 g5
   by_cases hm:k<m
   ·have hm':(k:Int)<(m:Int):=by omega
    rw [if_pos (by rw [zaa HC];exact hm)]at HT
    go_wp2_with fail
    go_ret
    exact⟨by rw [zaa HT];rfl,rfl⟩
   ·have hm':¬ (k:Int)<(m:Int):=by omega
    rw [if_neg (by rw [zaa HC];exact hm)]at HT
    go_wp2_with fail
    go_ret
    exact⟨by rw [zaa HT];rfl,rfl⟩
set_option maxHeartbeats 3200000 in
theorem zof (w:Xe) (b c:Nat) (x y:Int) (c0:w.cell? ⟨b,0,none⟩=some (.int .i64 x)) (c1:w.cell? ⟨b,1,none⟩=some (.int .i64 y)) :
  Calls Tryz.prog 129 #[.slice (some ⟨b,0,none⟩) 2 c] w fun e w'=>e=.returned (.int .i64 (if x=0 then y else x))∧w'=w:=by
 by_cases hx:x=0
 ·subst hx
  rw [if_pos rfl]
  by_cases hy:y=0
  ·subst hy
   go_enter Tryz.func129,Tryz.ntmps129
   go_wp2_with fail
   refine wp_loop_rounds 3 ?_
   rw [rounds_succ]
   go_wp2_with fail
   rw [rounds_succ]
   go_wp2_with fail
   rw [rounds_succ]
   go_wp2_with fail
   go_ret
   exact⟨rfl,rfl⟩
  ·have dy:(y != 0)=true:=by simpa using hy
   clear hy
   go_enter Tryz.func129,Tryz.ntmps129
   go_wp2_with fail
   refine wp_loop_rounds 3 ?_
   rw [rounds_succ]
   go_wp2_with fail
   rw [rounds_succ]
   go_wp2_with fail
   go_ret
   exact⟨rfl,rfl⟩
 ·rw [if_neg hx]
  have dx:(x != 0)=true:=by simpa using hx
  clear hx
  go_enter Tryz.func129,Tryz.ntmps129
  go_wp2_with fail
  refine wp_loop_rounds 3 ?_
  rw [rounds_succ]
  go_wp2_with fail
  go_ret
  exact⟨rfl,rfl⟩
set_option maxHeartbeats 1600000 in
theorem zkS (w:Xe) (n r n' r':Int) :
  Calls Tryz.prog 117 #[.agg #[.int .i64 n,.int .i64 r],.agg #[.int .i64 n',.int .i64 r']] w fun e w'=>e=.returned (.int .i64 (ordI n r n' r'))∧w'=(w.alloc (.cells #[.int .i64 n,.int .i64 r] 81)).alloc (.cells #[.int .i64 n',.int .i64 r'] 81):=by
 have l0:=(Loc.made w #[.int .i64 n,.int .i64 r] 81).alloc (.cells #[.int .i64 n',.int .i64 r'] 81)
 have l1:=Loc.made (w.alloc (.cells #[.int .i64 n,.int .i64 r] 81)) #[.int .i64 n',.int .i64 r'] 81
 simp only [World.size_alloc]at l1
 have x0:=l0.cell 0
 have x1:=l0.cell 1
 have y0:=l1.cell 0
 have y1:=l1.cell 1
 clear l0 l1
 by_cases e1:n=n'
 ·have d1:(n == n')=true:=by simpa using e1
  have d3:decide (n<n')=false:=by simp;omega
  by_cases e2:r=r'
  ·have d2:(r == r')=true:=by simpa using e2
   have HE:=hide (show ordI n r n' r'=0 by unfold ordI;rw [if_pos ⟨e1,e2⟩])
   clear e1 e2
   go_enter Tryz.func117,Tryz.ntmps117
   go_wp2_with fail
   go_ret
   exact⟨by rw [zaa HE];rfl,rfl⟩
  ·have d2:(r == r')=false:=by simpa using e2
   by_cases e3:r<r'
   ·have d4:decide (r<r')=true:=by simpa using e3
    have HE:=hide (show ordI n r n' r' = -1 by unfold ordI zan;rw [if_neg (fun h=>e2 h.2),if_pos (by simp [e1,e3])])
    clear e1 e2 e3
    go_enter Tryz.func117,Tryz.ntmps117
    go_wp2_with fail
    go_ret
    exact⟨by rw [zaa HE];rfl,rfl⟩
   ·have d4:decide (r<r')=false:=by simp;omega
    have HE:=hide (show ordI n r n' r'=1 by unfold ordI zan;rw [if_neg (fun h=>e2 h.2),if_neg (by simp [e1,e3])])
    clear e1 e2 e3
    go_enter Tryz.func117,Tryz.ntmps117
    go_wp2_with fail
    go_ret
    exact⟨by rw [zaa HE];rfl,rfl⟩
 ·have d1:(n == n')=false:=by simpa using e1
  by_cases e3:n<n'
  ·have d4:decide (n<n')=true:=by simpa using e3
   have HE:=hide (show ordI n r n' r' = -1 by unfold ordI zan;rw [if_neg (fun h=>e1 h.1),if_pos (by simp [e3])])
   clear e1 e3
   go_enter Tryz.func117,Tryz.ntmps117
   go_wp2_with fail
   go_ret
   exact⟨by rw [zaa HE];rfl,rfl⟩
  ·have d4:decide (n<n')=false:=by simp;omega
   have HE:=hide (show ordI n r n' r'=1 by unfold ordI zan;rw [if_neg (fun h=>e1 h.1),if_neg (by simp [e1,e3])])
   clear e1 e3
   go_enter Tryz.func117,Tryz.ntmps117
   go_wp2_with fail
   go_ret
   exact⟨by rw [zaa HE];rfl,rfl⟩
end Go.Proofs.YtlpnibbdmkeklaaGreatDoor
