/- Own texts joined: FoY, PjN, PjZ, PjO, HalfT, IdsT, OwOs, RootB, RepT, SayS, AppR, MkupS, MkupT, DcM, CpI, CpS, CpO, OrdI, KdM, FqS. -/
import Derived.Test.YtlpnibbdmkeklaaGreatDoorJa
import Derived.Test.YtlpnibbdmkeklaaGreatDoorJb
import Derived.Test.YtlpnibbdmkeklaaGreatDoorJc
import Derived.Test.YtlpnibbdmkeklaaGreatDoorJd
import Derived.Test.YtlpnibbdmkeklaaGreatDoorJe
import Derived.Test.YtlpnibbdmkeklaaGreatDoorJf
import Derived.Test.YtlpnibbdmkeklaaGreatDoorJg
import Derived.Lib.AppendStr
import Derived.Deep.RegionLaw
import Derived.Deep.RegionHeld3
import Derived.Test.YtlpnibbdmkeklaaGreatDoorChecked
namespace Go.Proofs.YtlpnibbdmkeklaaGreatDoor
open Go.RowKit
set_option linter.unusedVariables false
set_option maxRecDepth 100000
theorem zcT {p:PlV} (h0:p.kind=0):zbb p=true↔zai p.name∧p.text.length=0∧zal p.attrs:=by
 have hk:(zaG p).kids=[]:=rfl
 unfold zbb
 rw [zbj,if_neg (by omega),if_neg (show ¬ (zaG p).kind=1 by show ¬ p.kind=1;omega)]
 have he:zaP (zaG p)=true↔zai p.name∧p.text.length=0∧zal p.attrs:=by
  have hx:=zbe (zaG p:Nd (Tr 0))
  constructor
  ·intro h
   obtain⟨_,a2,a3,a4,_⟩:=hx.1 h
   exact⟨a2,a3,a4⟩
  ·intro h
   exact hx.2 ⟨h0,h.1,h.2.1,h.2.2,fun e=>absurd e.2 (Nat.lt_irrefl 0)⟩
 rw [←he,hk]
 by_cases h:zaP (zaG p)=true
 ·rw [if_pos h];exact⟨fun _=>h,fun _=>rfl⟩
 ·rw [if_neg h];exact⟨fun e=>(by cases e),fun e=>absurd e h⟩
theorem zev {p:PlV} (h1:p.kind=1):zbb p=true↔p.name.length=0∧p.attrs.length=0∧zat p.text:=by
 unfold zbb
 rw [zbj,if_neg (by omega),if_pos (show (zaG p).kind=1 from h1)]
 have hl:=zaZ (zaG p)
 constructor
 ·intro h
  have h':=hl.1 h
  exact⟨h'.1,h'.2.1,h'.2.2.2⟩
 ·intro h
  exact hl.2 ⟨h.1,h.2.1,rfl,h.2.2⟩
theorem znE {p:PlV} (h:zbb p=true):p.kind=0∨p.kind=1:=by
 unfold zbb at h
 rw [zbj,if_neg (by omega)]at h
 by_cases h1:(zaG p).kind=1
 ·exact .inr h1
 ·rw [if_neg h1]at h
  by_cases h2:zaP (zaG p)=true
  ·exact .inl ((zbe _).1 h2).1
  ·rw [if_neg h2]at h;cases h
theorem zpg {l:List AtV} (hl:l.length≤4) (hg:∀x∈l,zai x.1∧zat x.2) (hs:SrtA l):zal l:=by
 refine⟨hl,fun i hi=> ?_⟩
 unfold zbY
 have e:l.getD i ([],[])=l[i]:=by simp [hi]
 rw [e]
 have h1:=hg l[i] (List.getElem_mem _)
 refine⟨h1.1,h1.2,fun h0=> ?_⟩
 have hi':i-1<l.length:=by omega
 have e2:l.getD (i-1) ([],[])=l[i-1]:=by simp [hi']
 rw [e2]
 have h2:=hg l[i-1] (List.getElem_mem _)
 have h3:=(List.pairwise_iff_getElem.1 hs) (i-1) i hi' hi (by omega)
 have h4:zdP l[i-1].1 l[i].1=klB l[i-1].1 l[i].1:=zfj (zfa h2.1) (zfa h1.1)
 rw [h4]
 exact h3
theorem zrS {l:List AtV} (h:∀x∈l,zai x.1∧zat x.2) (o:OpV) (hn:zai o.name) (ht:o.gone=false→zat o.text):∀x∈chgI l o,zai x.1∧zat x.2:=by
 unfold chgI
 intro x hx'
 split at hx'
 ·split at hx'
  ·rcases List.mem_append.1 hx' with e | e
   ·exact h x (List.mem_of_mem_take e)
   ·exact h x (List.mem_of_mem_drop e)
  ·rename_i hg
   rcases List.mem_or_eq_of_mem_set hx' with e | e
   ·exact h x e
   ·rw [e];exact⟨hn,ht (by simpa using hg)⟩
 ·split at hx'
  ·exact h x hx'
  ·rename_i hg
   split at hx'
   ·exact h x hx'
   ·rcases List.mem_append.1 hx' with e | e
    ·exact h x (List.mem_of_mem_take e)
    ·rcases List.mem_cons.1 e with e | e
     ·rw [e];exact⟨hn,ht (by simpa using hg)⟩
     ·exact h x (List.mem_of_mem_drop e)
theorem zmB {l:List AtV} (h:zal l):∀x∈l,zai x.1∧zat x.2:=fun x hx=>by
 obtain⟨i,hi,rfl⟩:=List.getElem_of_mem hx
 have h1:=h.2 i hi
 unfold zbY at h1
 have e:l.getD i ([],[])=l[i]:=by simp [hi]
 rw [e]at h1
 exact⟨h1.1,h1.2.1⟩
theorem zjH {l:List AtV} (h:zal l) (o:OpV) (hn:zai o.name) (ht:o.gone=false→zat o.text):zal (setAttrs l o):=by
 have hs:=zoC h
 rw [zfw hs h.1]
 exact zpg (zhS h.1 o) (zrS (zmB h) o hn ht) (zhW hs o)
theorem zew {l:List PlV} {p:PlV} {i:IdV} (h:zae l i=true):zae (l++[p]) i=true:=by
 cases hk:posP l i with
 | none=>unfold zae at h;rw [hk]at h;cases h
 | some k=>
  obtain⟨q,hq,_⟩:=zbm hk
  rw [zcK hk hq]at h
  rw [zcK (zdm hk) (by rw [List.getElem?_append_left (List.getElem?_eq_some_iff.1 hq).1];exact hq)]
  exact h
theorem znt {l:List PlV} {k:Nat} {p q:PlV} (hk:l[k]? = some p) (hid:q.id=p.id):(l.set k q).map PlV.id=l.map PlV.id:=by
 rw [List.map_set,hid]
 apply List.ext_getElem?
 intro j
 rw [List.getElem?_set]
 by_cases e:k=j
 ·subst e
  have hlt:=(List.getElem?_eq_some_iff.1 hk).1
  rw [if_pos rfl,if_pos (by simpa using hlt),List.getElem?_map,hk]
  rfl
 ·rw [if_neg e]
theorem zkl (l:List PlV) (i:IdV):posP l i=(l.map PlV.id).findIdx? (fun x=>decide (x=i)):=by
 unfold posP
 rw [List.findIdx?_map]
 rfl
theorem zqn {l:List PlV} {k:Nat} {p q:PlV} (hk:l[k]? = some p) (hid:q.id=p.id) (i:IdV):posP (l.set k q) i=posP l i:=by
 rw [zkl,zkl,znt hk hid]
theorem znA {l:List PlV} {k:Nat} {p q:PlV} (hk:l[k]? = some p) (hid:q.id=p.id) (h1:q.kind=p.kind) (h2:q.name=p.name) (i:IdV):zae (l.set k q) i=zae l i:=by
 unfold zae
 rw [zqn hk hid]
 cases posP l i with
 | none=>rfl
 | some j=>
  simp only
  rw [List.getElem?_set]
  by_cases e:k=j
  ·subst e
   have hlt:=(List.getElem?_eq_some_iff.1 hk).1
   rw [if_pos rfl,if_pos hlt,hk]
   simp only [zcJ,h1,h2]
  ·rw [if_neg e]
structure Stt (l:List PlV):Prop where
 gs:∀p∈l,zbb p=true∧idB p.idN p.idR=true
 top:∀i p,i<2→l[i]? = some p→p.kind=0∧zar p.name=false∧p.par=(0,0)∧p.key=[]
 rest:∀i p,2≤i→l[i]? = some p→keyB p.key=true∧zae l p.par=true
theorem Stt.add {l:List PlV} (h:Stt l) (h2:2≤l.length) {q:PlV} (hg:zbb q=true∧idB q.idN q.idR=true) (hk:keyB q.key=true) (ht:zae l q.par=true):Stt (l++[q]):=by
 have hat:∀i p,(l++[q])[i]? = some p→(i<l.length∧l[i]? = some p)∨(i=l.length∧p=q):=fun i p hp=>by
  by_cases hi:i<l.length
  ·rw [List.getElem?_append_left hi]at hp
   exact .inl ⟨hi,hp⟩
  ·rw [List.getElem?_append_right (by omega)]at hp
   obtain⟨h1,h3⟩:=List.getElem?_eq_some_iff.1 hp
   have e:i=l.length:=by simp at h1;omega
   subst e
   exact .inr ⟨rfl,by simpa using h3.symm⟩
 refine⟨fun p hp=> ?_,fun i p hi hp=> ?_,fun i p hi hp=> ?_⟩
 ·rcases List.mem_append.1 hp with hp | hp
  ·exact h.gs p hp
  ·have e:p=q:=by simpa using hp
   rw [e];exact hg
 ·rcases hat i p hp with ⟨_,e⟩ | ⟨e,_⟩
  ·exact h.top i p hi e
  ·omega
 ·rcases hat i p hp with ⟨_,e⟩ | ⟨_,e⟩
  ·exact⟨(h.rest i p hi e).1,zew (h.rest i p hi e).2⟩
  ·rw [e];exact⟨hk,zew ht⟩
theorem Stt.set {l:List PlV} (h:Stt l) {k:Nat} {p q:PlV} (hk:l[k]? = some p) (hid:q.id=p.id) (h1:q.kind=p.kind) (h2:q.name=p.name) (hg:zbb q=true) (ht:k<2→q.par=p.par∧q.key=p.key) (hr:2≤k→keyB q.key=true∧zae l q.par=true):Stt (l.set k q):=by
 have hat:∀i x,(l.set k q)[i]? = some x→(i≠k∧l[i]? = some x)∨(i=k∧x=q):=fun i x hx=>by
  rw [List.getElem?_set]at hx
  by_cases e:k=i
  ·rw [if_pos e]at hx
   have hlt:=(List.getElem?_eq_some_iff.1 hk).1
   rw [if_pos hlt]at hx
   exact .inr ⟨e.symm,(Option.some.inj hx).symm⟩
  ·rw [if_neg e]at hx
   exact .inl ⟨fun e'=>e e'.symm,hx⟩
 refine⟨fun x hx=> ?_,fun i x hi hx=> ?_,fun i x hi hx=> ?_⟩
 ·obtain⟨i,hi,rfl⟩:=List.getElem_of_mem hx
  rcases hat i _ (List.getElem?_eq_getElem hi)with ⟨_,e⟩ | ⟨_,e⟩
  ·exact h.gs _ (List.mem_of_getElem? e)
  ·rw [e]
   have hm:=h.gs p (List.mem_of_getElem? hk)
   have e1:q.idN=p.idN:=(Prod.mk.inj hid).1
   have e2:q.idR=p.idR:=(Prod.mk.inj hid).2
   exact⟨hg,by rw [e1,e2];exact hm.2⟩
 ·rcases hat i x hx with ⟨_,e⟩ | ⟨e0,e⟩
  ·exact h.top i x hi e
  ·subst e0
   subst e
   obtain⟨t1,t2,t3,t4⟩:=h.top i p hi hk
   obtain⟨u1,u2⟩:=ht hi
   exact⟨h1.trans t1,by rw [h2];exact t2,u1.trans t3,u2.trans t4⟩
 ·rw [znA hk hid h1 h2]
  rcases hat i x hx with ⟨_,e⟩ | ⟨e0,e⟩
  ·exact h.rest i x hi e
  ·subst e0
   subst e
   exact hr hi
theorem zpK {o:OpV} (h:zcy o.elem o.name o.text=true):zbb (newP o)=true:=by
 have hz:∀{t:List Int},((t.length:Int) == 0)=true→t.length=0:=fun h=>by simpa using h
 have ha:zal (newP o).attrs:=⟨Nat.zero_le _,fun i hi=>by cases hi⟩
 unfold zcy at h
 by_cases e0:o.elem=0
 ·rw [if_pos e0,Bool.and_eq_true]at h
  exact (zcT (p:=newP o) e0).2 ⟨(zbv _).1 h.1,hz h.2,ha⟩
 ·rw [if_neg e0]at h
  by_cases e1:o.elem=1
  ·rw [if_pos e1,Bool.and_eq_true]at h
   exact (zev (p:=newP o) e1).2 ⟨hz h.1,rfl,(zbB _).1 h.2⟩
  ·rw [if_neg e1]at h;cases h
theorem Stt.do {l:List PlV} (h:Stt l) (hF:Fr l) {o:OpV} (ho:opB o=true):Stt (doV l o):=by
 unfold doV
 by_cases h0:o.kind=0
 ·rw [if_pos h0]
  by_cases ht:zae l o.par=true
  ·rw [if_pos ht]
   rw [zjp h0]at ho
   simp only [Bool.and_eq_true]at ho
   have hid:idB o.atN o.atR=true:=by
    rcases ziA o.atN o.atR with ⟨_,e⟩ | ⟨e,_⟩ | ⟨e,_⟩ | h9
    ·exact e
    ·rw [ho.1]at e;cases e
    ·rw [ho.1]at e;cases e
    ·have h1:=ho.1
     unfold zan at h1
     unfold idB
     simp only [Bool.and_eq_true,decide_eq_true_eq]at h1 ⊢
     simp only [Bool.or_eq_true,Bool.and_eq_true,decide_eq_true_eq]
     omega
   exact h.add hF.two (q:=newP o) ⟨zpK ho.2.1.2.2,hid⟩ ho.2.1.2.1 ht
  ·rw [if_neg ht];exact h
 ·rw [if_neg h0]
  cases hp:posP l o.node with
  | none=>exact h
  | some k=>
   obtain⟨p,hk,hid⟩:=zbm hp
   simp only [hk]
   have hg:=h.gs p (List.mem_of_getElem? hk)
   by_cases h1:o.kind=1
   ·rw [if_pos h1]
    rw [zjt h1]at ho
    simp only [Bool.and_eq_true]at ho
    by_cases hm:zbX l o k=true
    ·rw [if_pos hm]
     unfold zbX at hm
     simp only [Bool.and_eq_true,decide_eq_true_eq,Bool.not_eq_true']at hm
     exact h.set hk (q:=zdp o p) rfl rfl rfl hg.1 (fun hh=>by have:=hm.1.1;omega) (fun _=>⟨ho.2.1.2.2,hm.1.2⟩)
    ·rw [if_neg hm];exact h
   ·rw [if_neg h1]
    by_cases h2:o.kind=2
    ·rw [if_pos h2]
     rw [zjs h2]at ho
     simp only [Bool.and_eq_true]at ho
     by_cases hc:2≤k∧p.kind=1
     ·rw [if_pos hc]
      obtain⟨a1,a2,_⟩:=(zev hc.2).1 hg.1
      exact h.set hk (q:=zfn o p) rfl rfl rfl ((zev (p:=zfn o p) hc.2).2 ⟨a1,a2,(zbB _).1 ho.2.1.2⟩) (fun hh=>by omega) (fun hh=>h.rest k p hh hk)
     ·rw [if_neg hc];exact h
    ·rw [if_neg h2]
     by_cases hc:k≠1∧p.kind=0
     ·rw [if_pos hc]
      have h3:o.kind=3:=by
       rcases zhY ho with e | e | e | e
       ·exact absurd e h0
       ·exact absurd e h1
       ·exact absurd e h2
       ·exact e
      rw [zjo h3]at ho
      simp only [Bool.and_eq_true]at ho
      obtain⟨a1,a2,a3⟩:=(zcT hc.2).1 hg.1
      have hv:=ho.2.1.2.2
      refine h.set hk (q:=zbp o p) rfl rfl rfl ((zcT (p:=zbp o p) hc.2).2 ⟨a1,a2,zjH a3 o ((zbv _).1 ho.2.1.2.1) (fun hgn=> ?_)⟩) (fun _=>⟨rfl,rfl⟩) (fun hh=>h.rest k p hh hk)
      unfold valB at hv
      rw [hgn]at hv
      exact (zbB _).1 hv
     ·rw [if_neg hc];exact h
theorem znD {n:Nat} {deep left:Int} {x:Tr (n+1)} (h:(okT (n+1) deep x left).1=true) (m:Nat) (i:IdV) (k:Nat):zbb (zaK m i x k)=true∧(x.kids≠[]→x.kind=0∧zar x.name=false):=by
 rw [zbj]at h
 by_cases h1:left-1<0∨20<deep
 ·rw [if_pos h1]at h;cases h
 ·rw [if_neg h1]at h
  by_cases h2:x.kind=1
  ·rw [if_pos h2]at h
   obtain⟨a1,a2,a3,a4⟩:=(zaZ x).1 h
   exact⟨(zev (p:=zaK m i x k) h2).2 ⟨a1,a2,a4⟩,fun hne=>absurd (List.length_eq_zero_iff.1 a3) hne⟩
  ·rw [if_neg h2]at h
   by_cases h3:zaP x=true
   ·obtain⟨a1,a2,a3,a4,a5⟩:=(zbe x).1 h3
    refine⟨(zcT (p:=zaK m i x k) a1).2 ⟨a2,a3,a4⟩,fun hne=>⟨a1,?_⟩⟩
    cases hv:zar x.name with
    | false=>rfl
    | true=>exact absurd ⟨(zaT _).1 hv,List.length_pos_iff.2 hne⟩ a5
   ·rw [if_neg h3]at h;cases h
theorem zqw {k:Nat} (h:k+1≤999):keyB [(k:Int)+1]=true:=by
 unfold keyB
 simp [allB]
 omega
theorem zpV {m:Nat} (h:m<122):idB 0 (m:Int)=true:=by
 unfold idB
 simp
 omega
theorem zkO:∀(n:Nat) (deep:Int) (ks:List (Tr n)) (left:Int) (i:IdV) (acc:List PlV),0≤left→(okK (okT n deep) ks left).1=true→Stt acc→2≤acc.length→SeedIds acc→(ks≠[]→zae acc i=true)→(acc.length:Int)+left≤121→Stt (zaz n i ks acc)∧∀id,zae acc id=true→zae (zaz n i ks acc) id=true
 | 0,deep,ks,left,i,acc,h0,h,hS,h2,hI,ht,hl=>⟨hS,fun _ h=>h⟩
 | n+1,deep,ks,left,i,acc,h0,h,hS,h2,hI,ht,hl=>by
  have key:∀(f:Nd (Tr n)→Int→Bool×Int),(∀x left,f x left=okT (n+1) deep x left)→∀(ks:List (Nd (Tr n))) (k:Nat) (acc:List PlV) (left:Int),0≤left→(okK f ks left).1=true→Stt acc→2≤acc.length→SeedIds acc→(ks≠[]→zae acc i=true)→(acc.length:Int)+left≤121→(k:Int)+left≤500→
    Stt ((ks.zipIdx k).foldl (zaW n i) acc)∧∀id,zae acc id=true→zae ((ks.zipIdx k).foldl (zaW n i) acc) id=true:=by
   intro f hf ks
   induction ks with
   | nil=>intro k acc left _ _ hS _ _ _ _ _;exact⟨hS,fun _ h=>h⟩
   | cons x r ih=>
    intro k acc left h0 h hS h2 hI ht hl hk
    have h1':(f x left).1=true:=by
     cases hb:(f x left).1 with
     | true=>rfl
     | false=>simp [okK,hb]at h
    have e1:okK f (x::r) left=okK f r (f x left).2:=by simp [okK,h1']
    rw [e1]at h
    have h1:(okT (n+1) deep x left).1=true:=by rw [←hf];exact h1'
    have e3:=hf x left
    rw [e3]at h
    have hb:=zdA (n+1) deep x left h0
    obtain⟨p1,p2,p3,p4⟩:=zcq h1
    obtain⟨hlo,hkd⟩:=znD h1 acc.length i k
    have hti:=ht (by simp)
    have hn:posP acc (zaK acc.length i x k).id=none:=hI.new
    have hS1:Stt (acc++[zaK acc.length i x k]):=hS.add h2 ⟨hlo,zpV (by omega)⟩ (zqw (by omega)) hti
    have hI1:SeedIds (acc++[zaK acc.length i x k]):=hI.snoc rfl rfl
    have hp1:posP (acc++[zaK acc.length i x k]) (0,(acc.length:Int))=some acc.length:=by
     have:=zge (i:=(zaK acc.length i x k).id) hn
     rw [if_pos rfl]at this
     exact this
    have hl1:(acc++[zaK acc.length i x k]).length=acc.length+1:=by simp
    obtain⟨a1,a2⟩:=zkO n (deep+1) x.kids (left-1) (0,(acc.length:Int)) (acc++[zaK acc.length i x k]) p2 p3 hS1 (by omega) hI1 (fun hne=>by
     obtain⟨b1,b2⟩:=hkd hne
     rw [zcK hp1 (p:=zaK acc.length i x k) (by simp)]
     show (decide (x.kind=0) && !zar x.name)=true
     rw [b1,b2];rfl) (by rw [hl1];omega)
    have hlen:=(zif n (deep+1) x.kids (left-1) (0,(acc.length:Int)) (acc++[zaK acc.length i x k]) p2 p3).1
    have hI2:SeedIds (zaW n i acc (x,k)):=SeedIds.K n _ _ _ hI1
    have hle:acc.length+1≤(zaW n i acc (x,k)).length:=zeW n i acc (x,k)
    have hlen2:((zaW n i acc (x,k)).length:Int)+(okT (n+1) deep x left).2=(acc.length:Int)+left:=by
     have e9:(zaW n i acc (x,k)).length=(zaz n (0,(acc.length:Int)) x.kids (acc++[zaK acc.length i x k])).length:=rfl
     rw [e9,p4]
     rw [hl1]at hlen
     omega
    rw [List.zipIdx_cons,List.foldl_cons]
    obtain⟨c1,c2⟩:=ih (k+1) (zaW n i acc (x,k)) _ (hb.2.2 h1) h a1 (by omega) hI2 (fun _=>a2 _ (zew hti)) (by omega) (by have:=hle;omega)
    exact⟨c1,fun id hid=>c2 id (a2 id (zew hid))⟩
  exact key (okT (n+1) deep) (fun _ _=>rfl) ks 0 acc left h0 h hS h2 hI ht hl (by omega)
theorem zqm {n:Nat} {t:Tr (n+1)} (h:okN n t=true) (hv:zar t.name=false):Stt (zaF t)∧zae (zaF t) (0,0)=true:=by
 obtain⟨hk,ho⟩:=Bool.and_eq_true_iff.1 (show (decide (t.kind=0) && (okT (n+1) 1 t 120).1)=true from h)
 have hk0:t.kind=0:=of_decide_eq_true hk
 have hel:zai t.name∧zal t.attrs:=by
  have h':=ho
  rw [zbj,if_neg (by omega),if_neg (by omega)]at h'
  by_cases h3:zaP t=true
  ·obtain⟨_,a2,_,a4,_⟩:=(zbe t).1 h3
   exact⟨a2,a4⟩
  ·rw [if_neg h3]at h';cases h'
 have htr:zbb zaM=true:=(zcT (p:=zaM) rfl).2 ⟨(zbv _).1 (by decide),rfl,⟨Nat.zero_le _,fun i hi=>by cases hi⟩⟩
 refine⟨⟨fun p hp=> ?_,fun i p hi hp=> ?_,fun i p hi hp=> ?_⟩,?_⟩
 ·simp [zaF]at hp
  rcases hp with rfl | rfl
  ·exact⟨(zcT (p:=zeD t) rfl).2 ⟨hel.1,rfl,hel.2⟩,by show idB 0 0=true;decide⟩
  ·exact⟨htr,by show idB 0 1=true;decide⟩
 ·match i,hi with
  | 0,_=>simp [zaF]at hp;rw [←hp];exact⟨rfl,hv,rfl,rfl⟩
  | 1,_=>simp [zaF]at hp;rw [←hp];exact⟨rfl,by decide,rfl,rfl⟩
 ·have:=(List.getElem?_eq_some_iff.1 hp).1
  simp [zaF]at this
  omega
 ·have hp:posP (zaF t) (0,0)=some 0:=posP_some.2 ⟨by simp [zaF],rfl,fun j hj=>by omega⟩
  rw [zcK hp (p:=zeD t) rfl]
  show (decide ((0:Int)=0) && !zar t.name)=true
  rw [hv];rfl
theorem zkv {n:Nat} {t:Tr (n+1)} (h:okN n t=true) (hv:zar t.name=false) {ops:List OpV} (ho:opsB ops=true):∀j,j≤ops.length→Stt (zdq t ops j)
 | 0,_=>by
  obtain⟨hk,ht⟩:=Bool.and_eq_true_iff.1 (show (decide (t.kind=0) && (okT (n+1) 1 t 120).1)=true from h)
  obtain⟨p1,p2,p3,p4⟩:=zcq ht
  obtain⟨b1,b2⟩:=zqm h hv
  have hl:(zaF t).length=2:=rfl
  exact (zkO n 2 t.kids (120-1) (0,0) (zaF t) p2 p3 b1 (by omega) (zfp t) (fun _=>b2) (by rw [hl];omega)).1
 | j+1,hj=>by
  rw [zfg t ops (by omega)]
  exact (zkv h hv ho j (by omega)).do (zek h ho j (by omega)).fr (zdv ho (by omega))
theorem zgS {l:List PlV} (hF:Fr l) {rk:IdV→Nat} (hr:∀i p,2≤i→l[i]? = some p→rk p.par<rk p.id):∀(n:Nat) (i o:IdV),zav l n i o=true→rk o≤rk i
 | 0,i,o,h=>by cases h
 | n+1,i,o,h=>by
  unfold zav at h
  by_cases e:i=o
  ·rw [e];exact Nat.le_refl _
  ·rw [if_neg e]at h
   by_cases et:i=zak∨i=zag
   ·rw [if_pos et]at h;cases h
   ·rw [if_neg et]at h
    cases hp:posP l i with
    | none=>rw [hp]at h;cases h
    | some k=>
     rw [hp]at h
     obtain⟨p,hk,hid⟩:=zbm hp
     simp only [hk]at h
     have h1:=zgS hF hr n p.par o h
     by_cases h2:2≤k
     ·have:=hr k p h2 hk
      rw [hid]at this
      omega
     ·have:k=0∨k=1:=by omega
      rcases this with rfl | rfl
      ·exact absurd (.inl (hid.symm.trans (hF.root p hk))) et
      ·exact absurd (.inr (hid.symm.trans (hF.trash p hk))) et
theorem zrj {n:Nat} {t:Tr (n+1)} (h:okN n t=true) (hv:zar t.name=false) {ops:List OpV} (ho:opsB ops=true):stB (zaJ t ops)=true:=by
 have hS:=zkv h hv ho ops.length (Nat.le_refl _)
 have hA:=zek h ho ops.length (Nat.le_refl _)
 rw [List.take_length]at hA
 have e9:zdq t ops ops.length=zaJ t ops:=zga (n:=n) t ops
 rw [e9]at hS hA
 have hlen:=(zrK h ho).2
 generalize zaJ t ops=l at *
 have hF:=hA.fr
 obtain⟨rk,hrk⟩:=hF.rank
 have hW:FrW l:=⟨hF.two,hF.root,hF.trash,hF.uniq,hF.par⟩
 have hfree:=hW.free.1 (fun i p hi hp=>by
  cases hw:zav l l.length p.par p.id with
  | false=>rfl
  | true=>
   have h1:=zgS hF hrk _ _ _ hw
   have h2:=hrk i p hi hp
   omega)
 unfold stB
 have h2:=hF.two
 rw [decide_eq_true h2,decide_eq_true (show l.length≤272 by omega),(zdl (by omega)).2 hF.root,(zdl (by omega)).2 hF.trash,(zbc l _).2 (fun i p hp=> ?_)]
 ·rfl
 ·unfold zcH
  have hg:=hS.gs p (List.mem_of_getElem? hp)
  rw [hg.1,hg.2,zbn hF.uniq hp,decide_eq_true rfl]
  by_cases hi:i<2
  ·rw [if_pos hi]
   obtain⟨a1,a2,a3,a4⟩:=hS.top i p hi hp
   unfold topB
   rw [decide_eq_true a1,a2,(zfs p).2 a3,a4]
   rfl
  ·rw [if_neg hi]
   obtain⟨a1,a2⟩:=hS.rest i p (by omega) hp
   unfold zgp
   rw [a1,a2,hfree i p (by omega) hp]
   rfl
def NodeQ (w0:World):(n:Nat)→World→List Value→Tr n→List Nat→Prop
 | 0=>fun _ _ _ _=>False
 | n+1=>fun w C t F=>∃a b c d,C=[.int .i64 t.kind,a,b,c,d]∧-9223372036854775808≤t.kind∧t.kind≤9223372036854775807∧Byt w0 a t.name∧Byt w0 b t.text∧RdAttrs w0 c t.attrs∧OwElems w 37 5 d t.kids (NodeQ w0 n w) F
theorem NodeQ.frm {w0:World} {n:Nat} {w w':World} {C:List Value} {t:Tr n} {F S:List Nat} (h:NodeQ w0 n w C t F) (f:Frm w w' S) (hd:∀g∈F,g∉S):NodeQ w0 n w' C t F:=by
 induction n generalizing C F with
 | zero=>exact h
 | succ n ih=>
  obtain⟨a,b,c,d,e,k1,k2,h1,h2,h3,h4⟩:=h
  exact⟨a,b,c,d,e,k1,k2,h1,h2,h3,OwElems.frm h4 f hd (fun C x G hr hG=>ih hr hG)⟩
theorem NodeQ.keep {w0:World} {n:Nat} {w w':World} {C:List Value} {t:Tr n} {F:List Nat} (h:NodeQ w0 n w C t F) (hb:Below w.heap.size w w'):NodeQ w0 n w' C t F:=h.frm (Frm.ofBelow hb []) (fun _ _=>by simp)
theorem NodeQ.lt {w0:World}:∀{n:Nat} {w:World} {C:List Value} {t:Tr n} {F:List Nat},NodeQ w0 n w C t F→∀g∈F,g<w.heap.size
 | 0,_,_,t,_,_=>t.elim
 | n+1,w,C,t,F,⟨a,b,c,d,_,_,_,_,_,_,hd⟩=>OwElems.lt hd (fun _ _ _ hr=>NodeQ.lt hr)
theorem NodeQ.rd {w0:World} {n:Nat} {w:World} {C:List Value} {t:Tr n} {F:List Nat} (h:NodeQ w0 n w C t F) (hB:Below w0.heap.size w0 w):RdNode n w C t:=by
 induction n generalizing C F with
 | zero=>exact h
 | succ n ih=>
  obtain⟨a,b,c,d,e,k1,k2,h1,h2,h3,h4⟩:=h
  exact⟨a,b,c,d,e,k1,k2,h1.keep hB,h2.keep hB,h3.keep hB,OwElems.rd h4 (OwElems.len h4) (fun C x G hr=>ih hr)⟩
theorem NodeQ.bare {w0 w:World} {n:Nat} {k:Int} {N X:List Int} {A:List (List Int×List Int)} {a b c:Value} (h1 : -9223372036854775808≤k) (h2:k≤9223372036854775807) (ha:Byt w0 a N) (hb:Byt w0 b X) (hc:RdAttrs w0 c A):NodeQ w0 (n+1) w [.int .i64 k,a,b,c,.slice none 0 0] (⟨k,N,X,A,[]⟩:Nd (Tr n)) []:=
 ⟨a,b,c,_,rfl,h1,h2,ha,hb,hc,[],[],rfl,rfl,fun i hi=>(by cases hi),World.ownsRow_nil _ _ _ _,rfl⟩
theorem zin {α:Type} (f:Nat→Int→α×Int) (ks:List Nat) (acc:List α) (left:Int) (h:left≤0):prjK f ks acc left=(acc,left):=by
 cases ks with
 | nil=>rfl
 | cons k ks=>unfold prjK;rw [if_pos h]
theorem ziW {α:Type} (f:Nat→Int→α×Int) (ks:List Nat) (i:Nat) (hi:i<ks.length) (acc:List α) (left:Int) (h:¬ left≤0):prjK f (ks.drop i) acc left=prjK f (ks.drop (i+1)) (acc++[(f ks[i] left).1]) (f ks[i] left).2:=by
 rw [List.drop_eq_getElem_cons hi]
 conv=>lhs;unfold prjK
 rw [if_neg h]
theorem zhm {l:List PlV} {k:Nat} {p:PlV} (hp:l[k]? = some p) (left:Int):prj l 0 k left=((⟨p.kind,p.name,p.text,p.attrs,[]⟩:Nd (Tr 0)),left-1):=by
 unfold prj
 rw [hp]
 rfl
theorem zdj {l:List PlV} {k m:Nat} {p:PlV} (hp:l[k]? = some p) (left:Int):prj l (m+1) k left=((⟨p.kind,p.name,p.text,p.attrs,(prjK (prj l m) (zao l p.id) [] (left-1)).1⟩:Nd (Tr (m+1))),(prjK (prj l m) (zao l p.id) [] (left-1)).2):=by
 conv=>lhs;unfold prj
 rw [hp]
 rfl
theorem zkq {α:Type} (f:Nat→Int→α×Int) (B:Int) (hf:∀k left,-1000≤left→left≤B→0<left→-1000≤(f k left).2∧(f k left).2≤B):∀(ks:List Nat) (acc:List α) (left:Int),-1000≤left→left≤B→-1000≤(prjK f ks acc left).2∧(prjK f ks acc left).2≤B
 | [],acc,left,h1,h2=>⟨h1,h2⟩
 | k::ks,acc,left,h1,h2=>by
  unfold prjK
  by_cases h:left≤0
  ·rw [if_pos h];exact⟨h1,h2⟩
  ·rw [if_neg h]
   have:=hf k left h1 h2 (by omega)
   exact zkq f B hf ks _ _ this.1 this.2
theorem zmc (l:List PlV):∀(m k:Nat) (left:Int),0<left→left≤1000→-1000≤(prj l m k left).2∧(prj l m k left).2≤1000
 | 0,k,left,h1,h2=>by
  unfold prj
  cases hp:l[k]? with
  | none=>simp only;omega
  | some p=>simp only;omega
 | m+1,k,left,h1,h2=>by
  cases hp:l[k]? with
  | none=>
   conv=>lhs;unfold prj
   conv=>rhs;unfold prj
   rw [hp]
   simp only
   omega
  | some p=>
   rw [zdj hp]
   exact zkq _ 1000 (fun k left' h3 h4 h5=>zmc l m k left' h5 h4) _ _ _ (by omega) (by omega)
end Go.Proofs.YtlpnibbdmkeklaaGreatDoor
namespace Go.Proofs.YtlpnibbdmkeklaaGreatDoor
set_option linter.unusedVariables false
theorem zhy {α:Type} (f:α→Nat) (c:Nat):∀(l:List α),(∀x∈l,f x≤c)→(l.map f).sum≤c*l.length
 | [],_=>Nat.le_refl _
 | x::r,h=>by
  have h1:=h x (by simp)
  have h2:=zhy f c r (fun y hy=>h y (by simp [hy]))
  rw [List.map_cons,List.sum_cons,List.length_cons,Nat.mul_succ]
  omega
theorem zpl {l:List (List Int×List Int)} (h:zal l):szA l≤156:=by
 unfold szA
 have h1:=zhy (fun x:List Int×List Int=>x.1.length+x.2.length) 38 l (fun x hx=>by
  obtain⟨i,hi,rfl⟩:=List.getElem_of_mem hx
  have:=h.2 i hi
  unfold zbY at this
  have e:l.getD i ([],[])=l[i]:=by simp [hi]
  rw [e]at this
  have a1:=this.1.2.1
  have a2:=this.2.1.1
  omega)
 have:=h.1
 omega
def zcY (p:PlV):Prop:=p.name.length+p.text.length+szA p.attrs≤200
theorem znl {p:PlV} (h:zbb p=true):zcY p:=by
 unfold zbb at h
 rw [zbj,if_neg (by omega)]at h
 unfold zcY
 by_cases h1:(zaG p).kind=1
 ·rw [if_pos h1]at h
  have h2:=(zaZ _).1 h
  have e1:p.name.length=0:=h2.1
  have e2:p.attrs.length=0:=h2.2.1
  have e3:p.text.length≤30:=h2.2.2.2.1
  have e4:szA p.attrs=0:=by rw [List.length_eq_zero_iff.1 e2];rfl
  omega
 ·rw [if_neg h1]at h
  by_cases h2:zaP (zaG p)=true
  ·have h3:=(zbe _).1 h2
   have e1:p.name.length≤8:=h3.2.1.2.1
   have e2:p.text.length=0:=h3.2.2.1
   have e3:zal p.attrs:=h3.2.2.2.1
   have:=zpl e3
   omega
  ·rw [if_neg h2]at h;cases h
theorem zjY {l:List PlV} (h:stB l=true):∀p∈l,zcY p:=by
 intro p hp
 obtain⟨i,hi,rfl⟩:=List.getElem_of_mem hp
 unfold stB at h
 simp only [Bool.and_eq_true,zbc]at h
 have:=h.2 i l[i] (by simp [hi])
 unfold zcH at this
 simp only [Bool.and_eq_true]at this
 exact znl this.1.1.1
theorem zlI {α:Type} (f:Nat→Int→α×Int) (sz:α→Nat) (hf:∀k left,0<left→0≤(f k left).2∧((sz (f k left).1:Nat):Int)+1≤201*(left-(f k left).2)):∀(ks:List Nat) (acc:List α) (left:Int),0≤left→0≤(prjK f ks acc left).2∧(((prjK f ks acc left).1.length+((prjK f ks acc left).1.map sz).sum:Nat):Int)≤((acc.length+(acc.map sz).sum:Nat):Int)+201*(left-(prjK f ks acc left).2)
 | [],acc,left,h=>⟨h,by simp [prjK]⟩
 | k::ks,acc,left,h=>by
  unfold prjK
  by_cases h0:left≤0
  ·rw [if_pos h0];exact⟨h,by simp⟩
  ·rw [if_neg h0]
   obtain⟨h1,h2⟩:=hf k left (by omega)
   obtain⟨h3,h4⟩:=zlI f sz hf ks (acc++[(f k left).1]) (f k left).2 h1
   refine⟨h3,?_⟩
   rw [List.length_append,List.map_append,List.sum_append]at h4
   simp only [List.length_singleton,List.map_cons,List.map_nil,List.sum_cons,List.sum_nil,Nat.add_zero]at h4
   omega
theorem zkA {l:List PlV} (H:∀p∈l,zcY p):∀(m k:Nat) (left:Int),0<left→0≤(prj l m k left).2∧((szT (m+1) (prj l m k left).1:Nat):Int)+1≤201*(left-(prj l m k left).2)
 | 0,k,left,h=>by
  unfold prj
  cases hp:l[k]? with
  | none=>
   simp only
   refine⟨by omega,?_⟩
   have e:szT 1 ((⟨0,[],[],[],[]⟩:Nd (Tr 0)):Tr 1)=0:=rfl
   rw [e]
   omega
  | some p=>
   simp only
   refine⟨by omega,?_⟩
   have hs:=H p (List.mem_of_getElem? hp)
   unfold zcY at hs
   have e:szT 1 ((⟨p.kind,p.name,p.text,p.attrs,[]⟩:Nd (Tr 0)):Tr 1)=p.name.length+p.text.length+szA p.attrs+(([]:List (Tr 0)).length+(([]:List (Tr 0)).map (szT 0)).sum):=rfl
   rw [e]
   simp only [List.length_nil,List.map_nil,List.sum_nil]
   omega
 | m+1,k,left,h=>by
  cases hp:l[k]? with
  | none=>
   have e0:prj l (m+1) k left=((⟨0,[],[],[],[]⟩:Nd (Tr (m+1))),left-1):=by
    conv=>lhs;unfold prj
    rw [hp]
    rfl
   have e1:(prj l (m+1) k left).2=left-1:=congrArg Prod.snd e0
   have e2:szT (m+2) (prj l (m+1) k left).1=0:=by
    have:(prj l (m+1) k left).1=((⟨0,[],[],[],[]⟩:Nd (Tr (m+1))):Tr (m+2)):=congrArg Prod.fst e0
    rw [this]
    rfl
   rw [e1,e2]
   exact⟨by omega,by omega⟩
  | some p=>
   have hs:=H p (List.mem_of_getElem? hp)
   unfold zcY at hs
   have e0:=zdj (m:=m) hp left
   obtain⟨h1,h2⟩:=zlI (prj l m) (szT (m+1)) (fun k left h=>zkA H m k left h) (zao l p.id) [] (left-1) (by omega)
   have e1:(prj l (m+1) k left).2=(prjK (prj l m) (zao l p.id) [] (left-1)).2:=congrArg Prod.snd e0
   have e2:szT (m+2) (prj l (m+1) k left).1=p.name.length+p.text.length+szA p.attrs+((prjK (prj l m) (zao l p.id) [] (left-1)).1.length+((prjK (prj l m) (zao l p.id) [] (left-1)).1.map (szT (m+1))).sum):=by
    have:(prj l (m+1) k left).1=((⟨p.kind,p.name,p.text,p.attrs,(prjK (prj l m) (zao l p.id) [] (left-1)).1⟩:Nd (Tr (m+1))):Tr (m+2)):=congrArg Prod.fst e0
    rw [this]
    rfl
   rw [e1,e2]
   simp only [List.length_nil,List.map_nil,List.sum_nil]at h2
   exact⟨h1,by omega⟩
def pjR (l:List PlV):Tr 20:=if stB l=true then (prj l 19 0 120).1 else (⟨0,[],[],[],[]⟩:Nd (Tr 19))
theorem zgq {l:List PlV} (h:stB l=true):pjR l=(prj l 19 0 120).1:=if_pos h
theorem zpe {l:List PlV} (h:stB l=false):pjR l=(⟨0,[],[],[],[]⟩:Nd (Tr 19)):=if_neg (by rw [h];simp)
theorem zsh (l:List PlV):szT 20 (pjR l)≤24120:=by
 by_cases h:stB l=true
 ·rw [zgq h]
  obtain⟨h1,h2⟩:=zkA (zjY h) 19 0 120 (by omega)
  have h3:((szT 20 (prj l 19 0 120).1:Nat):Int)+1≤201*(120-(prj l 19 0 120).2):=h2
  omega
 ·rw [zpe (by simpa using h)]
  have:szT 20 ((⟨0,[],[],[],[]⟩:Nd (Tr 19)):Tr 20)=0:=rfl
  omega
set_option maxRecDepth 100000
theorem zcR {l:List PlV} (h:stB l=true):∀i p,l[i]? = some p→zbb p=true∧posP l p.id=some i∧(2≤i→zae l p.par=true):=fun i p hp=>by
 unfold stB at h
 simp only [Bool.and_eq_true,zbc]at h
 have h1:=h.2 i p hp
 unfold zcH at h1
 simp only [Bool.and_eq_true,decide_eq_true_eq]at h1
 refine⟨h1.1.1.1,h1.1.2,fun hi=> ?_⟩
 have h2:=h1.2
 rw [if_neg (by omega)]at h2
 unfold zgp at h2
 simp only [Bool.and_eq_true]at h2
 exact h2.1.2
theorem zrs {l:List PlV} (h:stB l=true) {k:Nat} {p:PlV} (hp:l[k]? = some p) (hne:zao l p.id≠[]):p.kind=0∧zar p.name=false:=by
 have hu:=(zhq h).1.uniq
 obtain⟨j,hj⟩:=List.exists_mem_of_ne_nil _ hne
 obtain⟨j1,j2,j3⟩:=zfc hu hj
 have hq:l[j]? = some l[j]:=by simp [j2]
 unfold zbU at j3
 rw [hq]at j3
 have hpar:l[j].par=p.id:=of_decide_eq_true j3
 have ht:=(zcR h j _ hq).2.2 j1
 rw [hpar,zcK (zcR h k p hp).2.1 hp]at ht
 unfold zcJ at ht
 simp only [Bool.and_eq_true,decide_eq_true_eq,Bool.not_eq_true']at ht
 exact ht
theorem zko {α:Type} (f:Nat→Int→α×Int) (g:α→Int→Bool×Int):∀(ks:List Nat) (hg:∀k∈ks,∀left,0<left→g (f k left).1 left=(true,(f k left).2)) (acc:List α) (left:Int),∃new,(prjK f ks acc left).1=acc++new∧okK g new left=(true,(prjK f ks acc left).2)
 | [],hg,acc,left=>⟨[],by simp [prjK],by simp [prjK,okK]⟩
 | k::ks,hg,acc,left=>by
  unfold prjK
  by_cases h0:left≤0
  ·rw [if_pos h0];exact⟨[],by simp,by simp [okK]⟩
  ·rw [if_neg h0]
   obtain⟨new,h1,h2⟩:=zko f g ks (fun k hk=>hg k (by simp [hk])) (acc++[(f k left).1]) (f k left).2
   have h3:=hg k (by simp) left (by omega)
   refine⟨(f k left).1::new,by rw [h1];simp,?_⟩
   simp only [okK,h3,if_true]
   exact h2
theorem zii {α:Type} {p:PlV} (h:zbb p=true) {ks:List α} (hk:ks≠[]→p.kind=0∧zar p.name=false):(p.kind=1→zbd (⟨p.kind,p.name,p.text,p.attrs,ks⟩:Nd α)=true)∧(p.kind≠1→zaP (⟨p.kind,p.name,p.text,p.attrs,ks⟩:Nd α)=true):=by
 unfold zbb at h
 rw [zbj,if_neg (by omega)]at h
 by_cases h1:(zaG p).kind=1
 ·rw [if_pos h1]at h
  have hl:=(zaZ (zaG p:Nd (Tr 0))).1 h
  have hk1:p.kind=1:=h1
  refine⟨fun _=>(zaZ _).2 ⟨hl.1,hl.2.1,?_,hl.2.2.2⟩,fun e=>absurd h1 e⟩
  cases ks with
  | nil=>rfl
  | cons x r=>have:=(hk (by simp)).1;omega
 ·rw [if_neg h1]at h
  by_cases h2:zaP (zaG p:Nd (Tr 0))=true
  ·obtain⟨a1,a2,a3,a4,_⟩:=(zbe (zaG p:Nd (Tr 0))).1 h2
   refine⟨fun e=>absurd e h1,fun _=>(zbe _).2 ⟨a1,a2,a3,a4,fun e=> ?_⟩⟩
   have hne:ks≠[]:=by
    intro e2
    have h9:0<ks.length:=e.2
    rw [e2]at h9
    simp at h9
   have hv:=(hk hne).2
   rw [(zaT _).2 e.1]at hv
   cases hv
  ·rw [if_neg h2]at h;cases h
theorem zsa {n:Nat} (x:Tr (n+1)) {deep left r:Int} (h1:x.kind=1→zbd x=true) (h2:x.kind≠1→zaP x=true) (h0:0<left) (hd:deep≤20) (ho:okK (okT n (deep+1)) x.kids (left-1)=(true,r)):okT (n+1) deep x left=(true,r):=by
 rw [zbj,if_neg (by omega)]
 by_cases e:x.kind=1
 ·have hl:=h1 e
  have hks:x.kids=[]:=List.length_eq_zero_iff.1 ((zaZ x).1 hl).2.2.1
  rw [hks]at ho
  have e2:left-1=r:=congrArg Prod.snd ho
  rw [if_pos e,hl,e2]
 ·rw [if_neg e,if_pos (h2 e)]
  exact ho
theorem zkw {n:Nat} {p:PlV} (h:zbb p=true) {ks:List (Tr n)} (hk:ks≠[]→p.kind=0∧zar p.name=false) {deep left r:Int} (h0:0<left) (hd:deep≤20) (ho:okK (okT n (deep+1)) ks (left-1)=(true,r)):okT (n+1) deep ((⟨p.kind,p.name,p.text,p.attrs,ks⟩:Nd (Tr n)):Tr (n+1)) left=(true,r):=
 zsa _ (zii h hk).1 (zii h hk).2 h0 hd ho
theorem znx {l:List PlV} (hs:stB l=true):∀(m k:Nat) (p:PlV) (left deep:Int),l[k]? = some p→0<left→deep+(m:Int)=20→okT (m+1) deep (prj l m k left).1 left=(true,(prj l m k left).2)
 | 0,k,p,left,deep,hp,h0,hd=>by
  rw [zhm hp]
  exact zkw (n:=0) (zcR hs k p hp).1 (ks:=[]) (fun e=>absurd rfl e) h0 (by omega) rfl
 | m+1,k,p,left,deep,hp,h0,hd=>by
  have hu:=(zhq hs).1.uniq
  obtain⟨new,h1,h2⟩:=zko (prj l m) (okT (m+1) (deep+1)) (zao l p.id) (fun j hj left' hl=>by
   obtain⟨_,j2,_⟩:=zfc hu hj
   exact znx hs m j l[j] left' (deep+1) (by simp [j2]) hl (by omega)) [] (left-1)
  rw [List.nil_append]at h1
  have e0:=zdj (m:=m) hp left
  have e1:(prj l (m+1) k left).2=(prjK (prj l m) (zao l p.id) [] (left-1)).2:=congrArg Prod.snd e0
  have e2:(prj l (m+1) k left).1=((⟨p.kind,p.name,p.text,p.attrs,new⟩:Nd (Tr (m+1))):Tr (m+2)):=(congrArg Prod.fst e0).trans (congrArg (fun x:List (Tr (m+1))=>((⟨p.kind,p.name,p.text,p.attrs,x⟩:Nd (Tr (m+1))):Tr (m+2))) h1)
  rw [e1,e2]
  exact zkw (n:=m+1) (zcR hs k p hp).1 (fun hne=>zrs hs hp (fun e=>hne (by
   rw [e]at h1
   exact h1.symm))) h0 (by omega) h2
theorem zoU {l:List PlV} (hs:stB l=true):okN 19 (prj l 19 0 120).1=true:=by
 have hF:=(zhq hs).1
 have h2:=hF.two
 have hp:l[0]? = some l[0]:=by simp [show 0<l.length by omega]
 have h1:=znx hs 19 0 l[0] 120 1 hp (by omega) (by decide)
 have hk:(prj l 19 0 120).1.kind=0:=by
  have e0:=zdj (m:=18) hp 120
  have e2:(prj l 19 0 120).1.kind=l[0].kind:=by
   have:=congrArg (fun x:Tr 20×Int=>x.1.kind) e0
   exact this
  rw [e2]
  have h3:=hs
  unfold stB at h3
  simp only [Bool.and_eq_true,zbc]at h3
  have h4:=h3.2 0 _ hp
  unfold zcH at h4
  simp only [Bool.and_eq_true]at h4
  have h5:=h4.2
  rw [if_pos (by omega)]at h5
  unfold topB at h5
  simp only [Bool.and_eq_true,decide_eq_true_eq]at h5
  exact h5.1.1.1
 show (decide ((prj l 19 0 120).1.kind=0) && (okT 20 1 (prj l 19 0 120).1 120).1)=true
 rw [decide_eq_true hk,Bool.true_and]
 exact congrArg Prod.fst h1
end Go.Proofs.YtlpnibbdmkeklaaGreatDoor
namespace Go.Proofs.YtlpnibbdmkeklaaGreatDoor
open Go.RowKit
set_option linter.unusedVariables false
theorem zkk (xs:List Value) (m:Nat) (v1 v2:Value) (h:m+2≤xs.length):((xs.set m v1).set (m+1) v2).take (m+2)=xs.take m++[v1,v2]:=by
 apply List.ext_getElem?
 intro i
 have hl:(xs.take m).length=m:=by simp;omega
 rw [List.getElem?_take,List.getElem?_append,hl]
 by_cases h1:i<m
 ·rw [if_pos (by omega),if_pos h1,List.getElem?_set,if_neg (by omega),List.getElem?_set,if_neg (by omega),List.getElem?_take,if_pos h1]
 ·rw [if_neg h1]
  by_cases h2:i=m
  ·subst h2
   rw [if_pos (by omega),List.getElem?_set,if_neg (by omega),List.getElem?_set,if_pos rfl,if_pos (by omega)];simp
  ·by_cases h3:i=m+1
   ·subst h3
    rw [if_pos (by omega),List.getElem?_set,if_pos rfl,if_pos (by simp;omega)];simp
   ·rw [if_neg (by omega),List.getElem?_eq_none (by simp;omega)]
theorem zaN (xs:List Value) (m j:Nat) (ys:List Value) (v:Value) (h:xs.take (m+j)=ys) (hl:m+j<xs.length):(xs.set (m+j) v).take (m+j+1)=ys++[v]:=by
 subst h
 have hl2:m+j<(xs.set (m+j) v).length:=by simpa using hl
 rw [List.take_succ_eq_append_getElem hl2,List.getElem_set_self,List.take_set_of_le (Nat.le_refl _)]
theorem zoh (xs:List Value) (m:Nat) (v0 v1 v2 v3 v4:Value) (h:m+5≤xs.length) :
  (((((xs.set m v0).set (m+1) v1).set (m+2) v2).set (m+3) v3).set (m+4) v4).take (m+5)=xs.take m++[v0,v1,v2,v3,v4]:=by
 have h0:=zaN xs m 0 (xs.take m) v0 rfl (by omega)
 have h1:=zaN (xs.set m v0) m 1 _ v1 h0 (by simp;omega)
 have h2:=zaN ((xs.set m v0).set (m+1) v1) m 2 _ v2 h1 (by simp;omega)
 have h3:=zaN (((xs.set m v0).set (m+1) v1).set (m+2) v2) m 3 _ v3 h2 (by simp;omega)
 have h4:=zaN ((((xs.set m v0).set (m+1) v1).set (m+2) v2).set (m+3) v3) m 4 _ v4 h3 (by simp;omega)
 simpa using h4
structure Half {α:Type} (w:World) (e:TypeId) (size g n:Nat) (l:List α) (R:List Value→α→List Nat→Prop) (lo k:Nat):Prop where
 laid:∃(Cs:List (List Value)) (Fs:List (List Nat)) (xs:List Value),Cs.length=k∧Fs.length=k∧(∀i (hi:i<l.length),i<k→(Cs.getD i []).length=size∧R (Cs.getD i []) l[i] (Fs.getD i []))∧
  w.ownsRow 0 e size (.slice (some ⟨g,0,none⟩) n n) n xs∧xs.take (k*size)=Cs.flatten∧Fs.flatten.Nodup∧Rng Fs.flatten lo w.heap.size
theorem Half.whole {α:Type} {w:World} {e:TypeId} {size g n:Nat} {l:List α} {R:List Value→α→List Nat→Prop} {lo:Nat} (h:Half w e size g n l R lo n) (hn:l.length=n) (hg:g<lo) :
  ∃F,OwElems w e size (.slice (some ⟨g,0,none⟩) n n) l R F∧F.Nodup∧(∀q∈F,g≤q∧q<w.heap.size):=by
 obtain⟨Cs,Fs,xs,h1,h2,h3,h4,h5,h6,h7⟩:=h.laid
 subst hn
 have hx:xs=Cs.flatten:=by rw [←h5,List.take_of_length_le (by rw [h4.1];exact Nat.le_refl _)]
 subst hx
 have hlt:=(h4.lt g rfl).2
 refine⟨FB (.slice (some ⟨g,0,none⟩) l.length l.length)++Fs.flatten,⟨Cs,Fs,h1,h2,fun i hi=>h3 i hi hi,h4,rfl⟩,?_,fun q hq=> ?_⟩
 ·rw [List.nodup_append]
  refine⟨zaE _,h6,fun a ha b hb e=> ?_⟩
  have:=h7 b hb
  simp [FB,Value.ownBlock]at ha
  omega
 ·rcases List.mem_append.1 hq with h' | h'
  ·simp [FB,Value.ownBlock]at h';omega
  ·have:=h7 q h';omega
theorem Half.start {α:Type} {w:World} {e:TypeId} {size g n:Nat} {l:List α} {R:List Value→α→List Nat→Prop} (lo:Nat) {xs:List Value} (h:w.ownsRow 0 e size (.slice (some ⟨g,0,none⟩) n n) n xs):Half w e size g n l R lo 0:=
 ⟨[],[],xs,rfl,rfl,fun i hi h0=>by omega,h,by simp,by simp,Rng.nil _ _⟩
theorem zfz {α:Type} (Cs:List (List α)) (C:List α):(Cs++[C]).flatten=Cs.flatten++C:=by simp
theorem ziP {β:Type} (Cs:List (List β)) (C:List β) (i:Nat):(Cs++[C]).getD i []=if i<Cs.length then Cs.getD i [] else if i=Cs.length then C else []:=by
 by_cases h:i<Cs.length
 ·rw [if_pos h,List.getD_eq_getElem?_getD,List.getElem?_append_left h,←List.getD_eq_getElem?_getD]
 ·rw [if_neg h]
  by_cases h2:i=Cs.length
  ·subst h2;simp
  ·rw [if_neg h2,List.getD_eq_getElem?_getD,List.getElem?_eq_none (by simp;omega)];rfl
theorem Half.step {α:Type} {w w1 w2:World} {e:TypeId} {size g n:Nat} {l:List α} {R R2:List Value→α→List Nat→Prop} {lo k:Nat} (h:Half w e size g n l R lo k) (hk:k<l.length) (hlo:g<lo) (hlow:lo≤w.heap.size)
  (hB:Below w.heap.size w w1) (C:List Value) (G:List Nat) (hC:C.length=size) (hR:R2 C l[k] G) (hG:G.Nodup) (hrng:Rng G w.heap.size w1.heap.size)
  (hmono:∀C x G,R C x G→(∀q∈G,q≠g)→R2 C x G) (hf:Frm w1 w2 [g]) (hs:∀xs:List Value,w1.ownsRow 0 e size (.slice (some ⟨g,0,none⟩) n n) n xs→∃ys,w2.ownsRow 0 e size (.slice (some ⟨g,0,none⟩) n n) n ys∧ys.take (k*size+size)=xs.take (k*size)++C) :
  Half w2 e size g n l R2 lo (k+1):=by
 obtain⟨Cs,Fs,xs,h1,h2,h3,h4,h5,h6,h7⟩:=h.laid
 have h4':w1.ownsRow 0 e size (.slice (some ⟨g,0,none⟩) n n) n xs:=zah h4 (Frm.ofBelow hB []) (fun _ _=>by simp)
 obtain⟨ys,hy1,hy2⟩:=hs xs h4'
 have hsz:=hf.size
 have hsz1:=hB.size
 refine⟨Cs++[C],Fs++[G],ys,by simp [h1],by simp [h2],fun i hi hik=> ?_,hy1,?_,?_,?_⟩
 ·rw [ziP,ziP,h1,h2]
  by_cases hlt:i<k
  ·rw [if_pos hlt,if_pos hlt]
   have:=h3 i hi hlt
   refine⟨this.1,hmono _ _ _ this.2 (fun q hq=> ?_)⟩
   have:=h7 q (zau hq)
   omega
  ·have e:i=k:=by omega
   subst e
   rw [if_neg hlt,if_neg hlt,if_pos rfl,if_pos rfl]
   exact⟨hC,hR⟩
 ·rw [zfz,←h5,Nat.succ_mul];exact hy2
 ·rw [zfz,List.nodup_append]
  exact⟨h6,hG,fun a ha b hb e=>by have:=h7 a ha;have:=hrng b hb;omega⟩
 ·rw [zfz]
  exact (h7.mono (Nat.le_refl _) (by omega)).app (hrng.mono (by omega) (by omega))
set_option maxRecDepth 100000
theorem Tryz.info81:(Tryz.prog.info? 81).map (fun i=>(i.zero,i.size,i.bytes))=some (some (.agg #[.int .i64 0,.int .i64 0]),2,16):=by kernel_rfl
def zqC (C:List Value) (x:Int×Int):Prop:=C=[.int .i64 x.1,.int .i64 x.2]
def RdIds (w:World) (v:Value) (l:List (Int×Int)):Prop:=Elems w 2 v l zqC
theorem RdIds.keep {w w':World} {v:Value} {l:List (Int×Int)} (h:RdIds w v l) (hb:Below w.heap.size w w'):RdIds w' v l:=Elems.keep h hb (fun C x _ h=>h)
def OwIdC (C:List Value) (x:Int×Int) (F:List Nat):Prop:=C=[.int .i64 x.1,.int .i64 x.2]∧F=[]
def OwIds (w:World) (v:Value) (l:List (Int×Int)) (F:List Nat):Prop:=OwElems w 81 2 v l OwIdC F
theorem OwIds.frm {w w':World} {v:Value} {l:List (Int×Int)} {F S:List Nat} (h:OwIds w v l F) (f:Frm w w' S) (hd:∀g∈F,g∉S):OwIds w' v l F:=OwElems.frm h f hd (fun C x G hr _=>hr)
theorem OwIds.rd {w:World} {v:Value} {l:List (Int×Int)} {F:List Nat} (h:OwIds w v l F):RdIds w v l:=OwElems.rd h (OwElems.len h) (fun C x G h=>h.1)
theorem RdIds.cases {w:World} {v:Value} {l:List (Int×Int)} (h:RdIds w v l):(l=[]∧∃a cap,v=.slice a 0 cap)∨(∃b off cap,v=.slice (some ⟨b,off,none⟩) l.length cap∧l≠[]∧b<w.heap.size∧∀i (hi:i<l.length),w.cell? ⟨b,off+i*2,none⟩=some (.int .i64 l[i].1)∧w.cell? ⟨b,off+i*2+1,none⟩=some (.int .i64 l[i].2)):=by
 obtain⟨_,⟨rfl,rfl⟩ | ⟨x,cap,rfl,hc,rfl⟩ | ⟨b,off,cap,rfl,g1,g2,g3,g4,g5⟩⟩:=h
 ·exact .inl ⟨rfl,_,_,rfl⟩
 ·exact .inl ⟨rfl,_,_,rfl⟩
 ·refine .inr ⟨b,off,cap,rfl,g3,g4,fun i hi=> ?_⟩
  obtain⟨c0,c1,h0,h1,hr⟩:=zeP (g5 i hi)
  cases hr
  exact⟨h0,h1⟩
theorem Tryz.info83:(Tryz.prog.info? 83).map (fun i=>(i.zero,i.size,i.bytes))=some (some (.agg #[.int .i64 0,.int .i64 0,.int .i64 0,.int .i64 0,.int .i64 0,.int .i64 0,.int .i64 0,.slice none 0 0,.int .i64 0,.slice none 0 0,.slice none 0 0,.bool false]),12,144):=by kernel_rfl
set_option maxHeartbeats 3200000 in
theorem zle (xs:List Value) (m:Nat) (v0 v1 v2 v3 v4 v5 v6 v7 v8 v9 v10 v11:Value) (h:m+12≤xs.length) :
  ((((((((((((xs.set (m) v0).set (m+1) v1).set (m+2) v2).set (m+3) v3).set (m+4) v4).set (m+5) v5).set (m+6) v6).set (m+7) v7).set (m+8) v8).set (m+9) v9).set (m+10) v10).set (m+11) v11).take (m+12)=xs.take m++[v0,v1,v2,v3,v4,v5,v6,v7,v8,v9,v10,v11]:=by
 have h0:=zaN xs m 0 _ v0 rfl (by omega)
 have h1:=zaN (xs.set (m) v0) m 1 _ v1 h0 (by simp;omega)
 have h2:=zaN ((xs.set (m) v0).set (m+1) v1) m 2 _ v2 h1 (by simp;omega)
 have h3:=zaN (((xs.set (m) v0).set (m+1) v1).set (m+2) v2) m 3 _ v3 h2 (by simp;omega)
 have h4:=zaN ((((xs.set (m) v0).set (m+1) v1).set (m+2) v2).set (m+3) v3) m 4 _ v4 h3 (by simp;omega)
 have h5:=zaN (((((xs.set (m) v0).set (m+1) v1).set (m+2) v2).set (m+3) v3).set (m+4) v4) m 5 _ v5 h4 (by simp;omega)
 have h6:=zaN ((((((xs.set (m) v0).set (m+1) v1).set (m+2) v2).set (m+3) v3).set (m+4) v4).set (m+5) v5) m 6 _ v6 h5 (by simp;omega)
 have h7:=zaN (((((((xs.set (m) v0).set (m+1) v1).set (m+2) v2).set (m+3) v3).set (m+4) v4).set (m+5) v5).set (m+6) v6) m 7 _ v7 h6 (by simp;omega)
 have h8:=zaN ((((((((xs.set (m) v0).set (m+1) v1).set (m+2) v2).set (m+3) v3).set (m+4) v4).set (m+5) v5).set (m+6) v6).set (m+7) v7) m 8 _ v8 h7 (by simp;omega)
 have h9:=zaN (((((((((xs.set (m) v0).set (m+1) v1).set (m+2) v2).set (m+3) v3).set (m+4) v4).set (m+5) v5).set (m+6) v6).set (m+7) v7).set (m+8) v8) m 9 _ v9 h8 (by simp;omega)
 have h10:=zaN ((((((((((xs.set (m) v0).set (m+1) v1).set (m+2) v2).set (m+3) v3).set (m+4) v4).set (m+5) v5).set (m+6) v6).set (m+7) v7).set (m+8) v8).set (m+9) v9) m 10 _ v10 h9 (by simp;omega)
 have h11:=zaN (((((((((((xs.set (m) v0).set (m+1) v1).set (m+2) v2).set (m+3) v3).set (m+4) v4).set (m+5) v5).set (m+6) v6).set (m+7) v7).set (m+8) v8).set (m+9) v9).set (m+10) v10) m 11 _ v11 h10 (by simp;omega)
 simpa using h11
def OwOpC (w:World) (C:List Value) (o:OpV) (F:List Nat):Prop:=∃k n t,C=[.int .i64 o.kind,.int .i64 o.atN,.int .i64 o.atR,.int .i64 o.nodeN,.int .i64 o.nodeR,.int .i64 o.parN,.int .i64 o.parR,k,.int .i64 o.elem,n,t,.bool o.gone]∧OwnZ w 0 k o.key∧Own w 0 n o.name∧Own w 0 t o.text∧F=FB k++FB n++FB t
def OwOps (w:World) (v:Value) (l:List OpV) (F:List Nat):Prop:=OwElems w 83 12 v l (OwOpC w) F
theorem OwOpC.frm {w w':World} {C:List Value} {o:OpV} {F S:List Nat} (h:OwOpC w C o F) (f:Frm w w' S) (hd:∀g∈F,g∉S):OwOpC w' C o F:=by
 obtain⟨k,n,t,e,h1,h2,h3,rfl⟩:=h
 exact⟨k,n,t,e,⟨h1.1,zah h1.2 f (fun g hg=>hd g (by simp [hg]))⟩,h2.frm f (fun g hg=>hd g (by simp [hg])),h3.frm f (fun g hg=>hd g (by simp [hg])),rfl⟩
theorem OwOps.frm {w w':World} {v:Value} {l:List OpV} {F S:List Nat} (h:OwOps w v l F) (f:Frm w w' S) (hd:∀g∈F,g∉S):OwOps w' v l F:=
 OwElems.frm h f hd (fun C x G hr hG=>hr.frm f hG)
theorem OwOps.rd {w:World} {v:Value} {l:List OpV} {F:List Nat} (h:OwOps w v l F):RdOps w v l:=
 OwElems.rd h (OwElems.len h) (fun C x G ⟨k,n,t,e,h1,h2,h3,_⟩=>⟨k,n,t,e,h1.ints,h2.byt,h3.byt⟩)
theorem rd5 {n:Nat} {w:World} {a b c d e:Value} {t:Tr (n+1)} (h:RdNode (n+1) w [a,b,c,d,e] t):∃z ab nb cb ac nc cc ad nd cd ae ne ce,a=.int .i64 z∧b=.slice ab nb cb∧c=.slice ac nc cc∧d=.slice ad nd cd∧e=.slice ae ne ce:=by
 obtain⟨_,_,_,_,e0,_,_,hb,hc,hd,he⟩:=h
 simp only [List.cons.injEq,and_true]at e0
 obtain⟨rfl,rfl,rfl,rfl,rfl⟩:=e0
 obtain⟨ab,cb,rfl,_,_⟩:=hb.shape
 obtain⟨ac,cc,rfl,_,_⟩:=hc.shape
 obtain⟨ad,cd,rfl,_,_⟩:=Elems.shape hd
 obtain⟨ae,ce,rfl,_,_⟩:=Elems.shape he
 exact⟨_,_,_,_,_,_,_,_,_,_,_,_,_,rfl,rfl,rfl,rfl,rfl⟩
def zhK (n:Nat) (t:Tr (n+1)):Bool:=okN n t && !zar t.name
def zfM (n:Nat) (id:Int) (t:Tr (n+1)):Bool:=decide (0≤id) && decide (id<8) && zhK n t
structure RepV (n:Nat) where
 id:Int
 clock:Int
 first:Tr (n+1)
 ops:List OpV
 und:List (Int×Int)
 lost:Bool
def RdRep (n:Nat) (w:World) (a b c d e vo vu:Value) (r:RepV n):Prop:=RdNode (n+1) w [a,b,c,d,e] r.first∧RdOps w vo r.ops∧RdIds w vu r.und
def zaO {n:Nat} (r:RepV n) (a b c d e vo vu:Value):Value:=.agg #[.int .i64 r.id,.int .i64 r.clock,a,b,c,d,e,vo,vu,.bool r.lost]
theorem RdRep.keep {n:Nat} {w w':World} {a b c d e vo vu:Value} {r:RepV n} (h:RdRep n w a b c d e vo vu r) (hb:Below w.heap.size w w'):RdRep n w' a b c d e vo vu r:=⟨h.1.keep hb,h.2.1.keep hb,h.2.2.keep hb⟩
def OwRep (n:Nat) (w:World) (a b c d e vo vu:Value) (r:RepV n) (F:List Nat):Prop:=∃F1 F2 F3,OwNode (n+1) w [a,b,c,d,e] r.first F1∧OwOps w vo r.ops F2∧OwIds w vu r.und F3∧F=F1++F2++F3
theorem OwRep.rd {n:Nat} {w:World} {a b c d e vo vu:Value} {r:RepV n} {F:List Nat} (h:OwRep n w a b c d e vo vu r F):RdRep n w a b c d e vo vu r:=by
 obtain⟨F1,F2,F3,h1,h2,h3,_⟩:=h
 exact⟨h1.rd,h2.rd,h3.rd⟩
theorem OwRep.frm {n:Nat} {w w':World} {a b c d e vo vu:Value} {r:RepV n} {F S:List Nat} (h:OwRep n w a b c d e vo vu r F) (f:Frm w w' S) (hd:∀g∈F,g∉S):OwRep n w' a b c d e vo vu r F:=by
 obtain⟨F1,F2,F3,h1,h2,h3,rfl⟩:=h
 exact⟨F1,F2,F3,h1.frm f (fun g hg=>hd g (by simp [hg])),OwOps.frm h2 f (fun g hg=>hd g (by simp [hg])),OwIds.frm h3 f (fun g hg=>hd g (by simp [hg])),rfl⟩
theorem OwRep.keep {n:Nat} {w w':World} {a b c d e vo vu:Value} {r:RepV n} {F:List Nat} (h:OwRep n w a b c d e vo vu r F) (hb:Below w.heap.size w w'):OwRep n w' a b c d e vo vu r F:=h.frm (Frm.ofBelow hb []) (fun _ _=>by simp)
theorem Loc.ten {w:World} {g:Nat} {v0 v1 v2 v3 v4 v5 v6 v7 v8 v9:Value} {T:TypeId} (h:Loc w g #[v0,v1,v2,v3,v4,v5,v6,v7,v8,v9] T):w.cell? ⟨g,0,none⟩=some v0∧w.cell? ⟨g,1,none⟩=some v1∧w.cell? ⟨g,2,none⟩=some v2∧w.cell? ⟨g,3,none⟩=some v3∧w.cell? ⟨g,4,none⟩=some v4∧w.cell? ⟨g,5,none⟩=some v5∧w.cell? ⟨g,6,none⟩=some v6∧w.cell? ⟨g,7,none⟩=some v7∧w.cell? ⟨g,8,none⟩=some v8∧w.cell? ⟨g,9,none⟩=some v9:=
 ⟨h.cell 0,h.cell 1,h.cell 2,h.cell 3,h.cell 4,h.cell 5,h.cell 6,h.cell 7,h.cell 8,h.cell 9⟩
def zcm (l:List OpV) (c:Int):Bool:=l.all fun o=>decide (o.atN≤c)
def zce (l:List (Int×Int)) (id clk:Int) (i:Nat):Bool:=if h:i<l.length then decide (l[i].2=id) && decide (1≤l[i].1) && decide (l[i].1≤clk) && (decide (i=0) || zam (l[i-1]'(by omega)).1 (l[i-1]'(by omega)).2 l[i].1 l[i].2) else true
def undB (l:List (Int×Int)) (id clk:Int):Bool:=decide (l.length≤150) && (List.range l.length).all (zce l id clk)
def repB {n:Nat} (r:RepV n):Bool:=zfM n r.id r.first && decide (0≤r.clock) && decide (r.clock≤1000000) && opsB r.ops && zcm r.ops r.clock && undB r.und r.id r.clock
theorem zgR {l:List OpV} {c:Int} {k:Nat} (hk:k<l.length) (h:c<l[k].atN):zcm l c=false:=by
 unfold zcm
 rw [List.all_eq_false]
 exact⟨l[k],List.getElem_mem hk,by simp;omega⟩
theorem zfT {l:List OpV} {c:Int} (h:∀k (hk:k<l.length),l[k].atN≤c):zcm l c=true:=by
 unfold zcm
 rw [List.all_eq_true]
 intro x hx
 obtain⟨i,hi,rfl⟩:=List.getElem_of_mem hx
 simpa using h i hi
theorem ziy {l:List (Int×Int)} {id clk:Int} (h:150<l.length):undB l id clk=false:=by unfold undB;rw [decide_eq_false (by omega)];rfl
theorem zjS {l:List (Int×Int)} {id clk:Int} {k:Nat} (hk:k<l.length) (h:zce l id clk k=false):undB l id clk=false:=by
 unfold undB
 rw [Bool.and_eq_false_iff]
 right
 rw [List.all_eq_false]
 exact⟨k,by simpa using hk,by simp [h]⟩
theorem zit {l:List (Int×Int)} {id clk:Int} (hn:l.length≤150) (h:∀j,j<l.length→zce l id clk j=true):undB l id clk=true:=by
 unfold undB
 rw [decide_eq_true hn,Bool.true_and,List.all_eq_true]
 intro j hj
 exact h j (by simpa using hj)
theorem zkF {l:List (Int×Int)} {id clk:Int} {k:Nat} (hk:k<l.length):zce l id clk k=(decide (l[k].2=id) && decide (1≤l[k].1) && decide (l[k].1≤clk) && (decide (k=0) || zam (l[k-1]'(by omega)).1 (l[k-1]'(by omega)).2 l[k].1 l[k].2)):=by unfold zce;rw [dif_pos hk]
def sayB (q:Bool) (x:Int):List Int:=if x=38 then [38,97,109,112,59] else if x=60 then [38,108,116,59] else if x=34∧q=true then [38,113,117,111,116,59] else [x]
def say (q:Bool) (l:List Int):List Int:=(l.map (sayB q)).flatten
theorem zpr (q:Bool) (l:List Int) (j:Nat) (h:j<l.length):say q (l.take (j+1))=say q (l.take j)++sayB q l[j]:=by
 unfold say
 rw [List.take_succ_eq_append_getElem h,List.map_append,List.flatten_append]
 simp
theorem zsl (q:Bool) (l:List Int) (j:Nat):(say q (l.take j)).length≤(say q l).length:=by
 have:say q l=say q (l.take j)++say q (l.drop j):=by
  unfold say
  rw [←List.flatten_append,←List.map_append,List.take_append_drop]
 rw [this,List.length_append]
 omega
theorem zpL (q:Bool) (x:Int):(sayB q x).length≤6:=by
 unfold sayB
 split
 ·decide
 ·split
  ·decide
  ·split
   ·decide
   ·simp
theorem zhV (q:Bool):∀l:List Int,(say q l).length≤6*l.length
 | []=>by simp [say]
 | x::l=>by
  have h1:=zhV q l
  have h2:=zpL q x
  unfold say at h1 ⊢
  simp only [List.map_cons,List.flatten_cons,List.length_append,List.length_cons]
  omega
theorem zeH {w:World} {ops:Array Oper} {rest:List Oper} {o:Oper} {a:Act} {Q:Exit→Act→World→Prop} (hgd:o.guard=none) (s x:Operand)
  (ho:o.op=.call { callee:=.builtin .append,args:= #[s,x],argTypes:= #[22,9] })
  (base:Nat) (v:Value) (l:List Int) (hs:a.eval s=v) (hown:Own w base v l) (t:ByteArray) (m:List Int) (hx:a.eval x=.string t) (hm:Lib.strCells t=vals m) (hok:okB m)
  (hlen:l.length+m.length≤134217728) (hbase:base≤w.heap.size)
  (h:∀v' w',Own w' base v' (l++m)→w.grownBy w' v.ownBlock→wpList Tryz.prog ops Q rest (a.put o.dst v') w'):wpList Tryz.prog ops Q (o::rest) a w:=by
 obtain⟨i0,hi,hz0,hz1,hz2⟩:=info_parts Tryz.info5
 have hsz:t.size=m.length:=by rw [←Lib.strCells_length,hm,zcu]
 refine Lib.wpList_append_own_string _ hgd s x 22 9 ho base 5 i0 Tryz.underlying22 Tryz.underlying9 hi hz0 hz1 hz2 v l.length (vals l) hs hown.2 t hx (by rw [hsz];unfold maxLen;omega) (by omega) hbase ?_
 intro v' w' h1 h2 _
 refine h v' w' ⟨hown.1.app hok,?_⟩ h2
 rw [zcN,List.length_append,←hsz,←hm];exact h1
theorem zrJ:okB [38,97,109,112,59]:=fun x hx=>by simp at hx;omega
theorem zsj:okB [38,108,116,59]:=fun x hx=>by simp at hx;omega
theorem zpN:okB [38,113,117,111,116,59]:=fun x hx=>by simp at hx;omega
set_option maxHeartbeats 3200000 in
theorem zkb (w0 w:World) (B:Nat) (v u:Value) (l t:List Int) (q:Bool) (hB:B≤w.heap.size) (ho:Own w B v l) (hu:Byt w0 u t) (hW:Below w0.heap.size w0 w) (h0:w0.heap.size≤B) (hlen:l.length+(say q t).length≤100000000) :
  Calls Tryz.prog 79 #[v,u,.bool q] w fun e w'=>∃v',e=.returned v'∧Own w' B v' (l++say q t)∧Frp (MtB B) w w':=by
 obtain⟨av,cv,rfl,_,_⟩:=ho.byt.shape
 obtain⟨au,cu,rfl,_,_⟩:=hu.shape
 have hml:=hu.2.1
 unfold maxLen at hml
 have hm':(t.length:Int)≤9223372036854775807:=by omega
 go_enter Tryz.func79,Tryz.ntmps79
 go_wp2_with fail
 go_loopw [0,7] (fun b i wr=>∃j:Nat,j≤t.length∧i=.int .i64 j∧Own wr B b (l++say q (t.take j))∧Frp (MtB B) w wr) (fun _ i _=>t.length-(intOf i).toNat)
 case atStart=>exact⟨0,Nat.zero_le _,rfl,by simpa [say]using ho,Frp.refl _ _⟩
 case round=>
  obtain⟨j,hj,rfl,hr,hb⟩:=hrel
  by_cases hjl:j<t.length
  ·have hst:=zpr q t j hjl
   have hle:=zsl q t (j+1)
   obtain⟨hok,_,⟨_,e⟩ | ⟨_,_,_,_,e⟩ | ⟨p,off,cap,e,h1,h2,h3,h4,h5⟩⟩:=hu
   ·subst e;simp at hjl
   ·subst e;simp at hjl
   injection e with e1 _ e3
   subst e1 e3
   have hc:=h5 j hjl
   obtain⟨x,hx⟩:∃x,x=t[j]:=⟨_,rfl⟩
   rw [zcF hjl,←hx]at hc
   rw [←hx]at hst
   have hx1:0≤x:=by rw [hx];exact (hok _ (List.getElem_mem hjl)).1
   have hx2:x≤255:=by rw [hx];exact (hok _ (List.getElem_mem hjl)).2
   have hW2:Below w0.heap.size w0 wr:=hW.trans ((hb.toBelow hB).mono h0)
   have hcx:wr.cell? ⟨p,off+j,none⟩=some (.int .u8 x):=(hW2.cell (p:=⟨p,off+j,none⟩) h4).trans hc
   have hBr:B≤wr.heap.size:=Nat.le_trans hB hb.size
   obtain⟨ab,cb,hbv,_,_⟩:=hr.byt.shape
   subst hbv
   have hl2:(l++say q (t.take j)).length+(sayB q x).length≤100000000:=by
    rw [hst]at hle
    simp only [List.length_append]at hle ⊢
    omega
   have hjl':(j:Int)<(t.length:Int):=by omega
   have HST:=hide hst
   obtain⟨L,hL⟩:∃L,L=l++say q (t.take j):=⟨_,rfl⟩
   have HL:=hide (show l++say q (t.take (j+1))=L++sayB q x by rw [hst,hL,List.append_assoc])
   rw [←hL]at hr hl2 ⊢
   have hl3:L.length≤100000000:=by omega
   have HR:=hide hr
   clear hr hst hx hc hle h5 hL HST
   by_cases k1:x=38
   ·have d1:(x == 38)=true:=by simpa using k1
    have HY:=hide (show sayB q x=[38,97,109,112,59] by unfold sayB;rw [if_pos k1])
    clear k1
    go_wp2_with (at_builtin;refine zeH rfl _ _ rfl B _ L rfl (zaa HR) _ [38,97,109,112,59] rfl rfl zrJ (by first | omega | (simp;omega)) (by first | exact hBr | (simp;omega)) ?_)
    intro v2 w2 ho2 hg2
    have hb2:Frp (MtB B) w w2:=hb.trans (Frp.ofAppend (zaa HR) hg2)
    have HO:=hide (show Own w2 B v2 (l++say q (t.take (j+1))) by rw [zaa HL,zaa HY];exact ho2)
    obtain⟨a2,c2,hv2,_,_⟩:=ho2.byt.shape
    subst hv2
    clear ho2 hg2
    go_wp2_with fail
    go_roundw
    case rel=>exact⟨j+1,by omega,by go_num,zaa HO,hb2⟩
    case measure=>simp [intOf];omega
   ·have d1:(x == 38)=false:=by simpa using k1
    by_cases k2:x=60
    ·have d2:(x == 60)=true:=by simpa using k2
     have HY:=hide (show sayB q x=[38,108,116,59] by unfold sayB;rw [if_neg k1,if_pos k2])
     clear k1 k2
     go_wp2_with (at_builtin;refine zeH rfl _ _ rfl B _ L rfl (zaa HR) _ [38,108,116,59] rfl rfl zsj (by first | omega | (simp;omega)) (by first | exact hBr | (simp;omega)) ?_)
     intro v2 w2 ho2 hg2
     have hb2:Frp (MtB B) w w2:=hb.trans (Frp.ofAppend (zaa HR) hg2)
     have HO:=hide (show Own w2 B v2 (l++say q (t.take (j+1))) by rw [zaa HL,zaa HY];exact ho2)
     obtain⟨a2,c2,hv2,_,_⟩:=ho2.byt.shape
     subst hv2
     clear ho2 hg2
     go_wp2_with fail
     go_roundw
     case rel=>exact⟨j+1,by omega,by go_num,zaa HO,hb2⟩
     case measure=>simp [intOf];omega
    ·have d2:(x == 60)=false:=by simpa using k2
     by_cases k3:x=34∧q=true
     ·have d3:(x == 34)=true:=by simpa using k3.1
      have HY:=hide (show sayB q x=[38,113,117,111,116,59] by unfold sayB;rw [if_neg k1,if_neg k2,if_pos k3])
      obtain⟨_,hq⟩:=k3
      subst hq
      clear k1 k2
      go_wp2_with (at_builtin;refine zeH rfl _ _ rfl B _ L rfl (zaa HR) _ [38,113,117,111,116,59] rfl rfl zpN (by first | omega | (simp;omega)) (by first | exact hBr | (simp;omega)) ?_)
      intro v2 w2 ho2 hg2
      have hb2:Frp (MtB B) w w2:=hb.trans (Frp.ofAppend (zaa HR) hg2)
      have HO:=hide (show Own w2 B v2 (l++say true (t.take (j+1))) by rw [zaa HL,zaa HY];exact ho2)
      obtain⟨a2,c2,hv2,_,_⟩:=ho2.byt.shape
      subst hv2
      clear ho2 hg2
      go_wp2_with fail
      go_roundw
      case rel=>exact⟨j+1,by omega,by go_num,zaa HO,hb2⟩
      case measure=>simp [intOf];omega
     ·have HY:=hide (show sayB q x=[x] by unfold sayB;rw [if_neg k1,if_neg k2,if_neg k3])
      have d3:((x == 34)=true∧q=false)∨(x == 34)=false:=by
       by_cases h34:x=34
       ·left
        refine⟨by simpa using h34,?_⟩
        cases q with
        | true=>exact absurd ⟨h34,rfl⟩ k3
        | false=>rfl
       ·right;simpa using h34
      clear k1 k2 k3
      rcases d3 with ⟨d3,rfl⟩ | d3
      ·go_wp2_with (at_builtin;(refine zcZ rfl _ _ rfl B _ L rfl ((zaa HR).alloc _) _ [x] rfl (zdb wr x hx1 hx2) (by first | omega | (simp;omega)) (by first | exact hBr | (simp;omega)) ?_))
       intro v2 w2 ho2 hg2
       have hb2:Frp (MtB B) w w2:=(hb.trans (Frp.ofBelow ((Below.refl _ _).alloc (Nat.le_refl _) _) _)).trans (Frp.ofAppend ((zaa HR).alloc _) hg2)
       have HO:=hide (show Own w2 B v2 (l++say false (t.take (j+1))) by rw [zaa HL,zaa HY];exact ho2)
       obtain⟨a2,c2,hv2,_,_⟩:=ho2.byt.shape
       subst hv2
       clear ho2 hg2
       go_wp2_with fail
       go_roundw
       case rel=>exact⟨j+1,by omega,by go_num,zaa HO,hb2⟩
       case measure=>simp [intOf];omega
      ·go_wp2_with (at_builtin;(refine zcZ rfl _ _ rfl B _ L rfl ((zaa HR).alloc _) _ [x] rfl (zdb wr x hx1 hx2) (by first | omega | (simp;omega)) (by first | exact hBr | (simp;omega)) ?_))
       intro v2 w2 ho2 hg2
       have hb2:Frp (MtB B) w w2:=(hb.trans (Frp.ofBelow ((Below.refl _ _).alloc (Nat.le_refl _) _) _)).trans (Frp.ofAppend ((zaa HR).alloc _) hg2)
       have HO:=hide (show Own w2 B v2 (l++say q (t.take (j+1))) by rw [zaa HL,zaa HY];exact ho2)
       obtain⟨a2,c2,hv2,_,_⟩:=ho2.byt.shape
       subst hv2
       clear ho2 hg2
       go_wp2_with fail
       go_roundw
       case rel=>exact⟨j+1,by omega,by go_num,zaa HO,hb2⟩
       case measure=>simp [intOf];omega
  ·have e:j=t.length:=by omega
   subst e
   rw [List.take_length]at hr
   obtain⟨ab,cb,hbv,_,_⟩:=hr.byt.shape
   subst hbv
   clear hu
   go_wp2_with fail
   go_ret
   exact⟨_,rfl,hr,hb⟩
theorem zch {w:World} {ops:Array Oper} {o:Oper} {a:Act} {K:Act→World→Prop} {Q:Exit→Act→World→Prop} {E:Prop} (hgd:o.guard=none) (s x:Operand)
  (ho:o.op=.call { callee:=.builtin .append,args:= #[s,x],argTypes:= #[22,22] })
  (base:Nat) (v:Value) (l:List Int) (hs:a.eval s=v) (hown:Own w base v l) (u:Value) (m:List Int) (hx:a.eval x=u) (hu:Byt w u m)
  (hlen:l.length+m.length≤134217728) (hbase:base≤w.heap.size)
  (h:∀v' w',Own w' base v' (l++m)→w.grownBy w' v.ownBlock→K (a.put o.dst v') w'):if Region.wanted o (yielded ops a.tmps)=true then Oper.wp Tryz.prog o a w K Q else E:=by
 have hw:Region.wanted o (yielded ops a.tmps)=true:=by simp [Region.wanted,hgd]
 rw [if_pos hw]
 obtain⟨i0,hi,hz0,hz1,hz2⟩:=info_parts Tryz.info5
 have hfull:∀(ad:Addr) (c:Nat),a.eval x=.slice (some ad) m.length c→(∀j,j<m.length→w.cell? (ad.add j)=some (.int .u8 (m.getD j 0)))→Oper.wp Tryz.prog o a w K Q:=by
  intro ad c hx' hc
  refine wp_append_own w s x 22 ho base 5 i0 (.int .u8 0) 1 1 Tryz.underlying22 hi hz0 hz1 hz2 rfl (by decide) v l.length (vals l) hs hown.2 ad m.length c (vals m) hx' (by rw [zcu];omega) ?_ (zjE m) (by unfold maxLen;omega) (by omega) hbase ?_
  ·intro j y hj
   have hlt:j<m.length:=by
    by_cases hlt:j<m.length
    ·exact hlt
    ·rw [List.getElem?_eq_none (by rw [zcu];omega)]at hj;cases hj
   rw [zdd hlt]at hj
   rw [hc j hlt];exact hj
  ·intro v' w' h1 h2 _
   refine h v' w' ⟨hown.1.app hu.1,?_⟩ h2
   rw [zcN,List.length_append];exact h1
 obtain⟨hok,hm,⟨rfl,rfl⟩ | ⟨y,cap,rfl,hc,rfl⟩ | ⟨b,off,cap,rfl,h1,h2,h3,h4,h5⟩⟩:=hu
 ·have hrun:=run_append_owned_none (P:=Tryz.prog) (w:=w) base 22 o.type 5 i0 1 Tryz.underlying22 hi v l.length (vals l) hown.2
  unfold Oper.wp
  simp [execOp,ho,resolve,invoke,builtin,hs,hx,hrun,Result.andThen]
  exact h v w (by rw [List.append_nil];exact hown) (World.grownBy.refl _ _)
 ·exact hfull y cap hx (fun j hj=>by simp at hj)
 ·exact hfull ⟨b,off,none⟩ cap hx (fun j hj=>by rw [zaX];exact h5 j hj)
theorem zfY {w:World} {ops:Array Oper} {o:Oper} {a:Act} {K:Act→World→Prop} {Q:Exit→Act→World→Prop} {E:Prop} (hgd:o.guard=none) (s x:Operand)
  (ho:o.op=.call { callee:=.builtin .append,args:= #[s,x],argTypes:= #[22,9] })
  (base:Nat) (v:Value) (l:List Int) (hs:a.eval s=v) (hown:Own w base v l) (t:ByteArray) (m:List Int) (hx:a.eval x=.string t) (hm:Lib.strCells t=vals m) (hok:okB m)
  (hlen:l.length+m.length≤134217728) (hbase:base≤w.heap.size)
  (h:∀v' w',Own w' base v' (l++m)→w.grownBy w' v.ownBlock→K (a.put o.dst v') w'):if Region.wanted o (yielded ops a.tmps)=true then Oper.wp Tryz.prog o a w K Q else E:=by
 have hw:Region.wanted o (yielded ops a.tmps)=true:=by simp [Region.wanted,hgd]
 rw [if_pos hw]
 obtain⟨i0,hi,hz0,hz1,hz2⟩:=info_parts Tryz.info5
 have hsz:t.size=m.length:=by rw [←Lib.strCells_length,hm,zcu]
 obtain⟨v',w',hr,h2,h3,_⟩:=Lib.run_append_own_string (P:=Tryz.prog) w base 22 9 o.type 5 i0 Tryz.underlying22 Tryz.underlying9 hi hz0 hz1 hz2 v l.length (vals l) hown.2 t (by rw [hsz];unfold maxLen;omega) (by omega) hbase
 unfold Oper.wp execOp
 simp only [ho,resolve,invoke,builtin,Sem.run_bind,Sem.run_pure,Result.andThen_ok,List.map_toArray,List.map_cons,List.map_nil,hs,hx,hr]
 refine h v' w' ⟨hown.1.app hok,?_⟩ h3
 rw [zcN,List.length_append,←hsz,←hm];exact h2
def zeA (x:List Int×List Int):List Int:=[32]++x.1++[61,34]++say true x.2++[34]
def zbi (l:List (List Int×List Int)):List Int:=(l.map zeA).flatten
def mkup:(n:Nat)→Tr n→List Int
 | 0=>fun _=>[]
 | n+1=>fun t=>if t.kind=1 then say false t.text else [60]++t.name++zbi t.attrs++[62]++(if zar t.name=true then [] else (t.kids.map (mkup n)).flatten++[60,47]++t.name++[62])
theorem ziZ (n:Nat) (t:Tr (n+1)):mkup (n+1) t=if t.kind=1 then say false t.text else [60]++t.name++zbi t.attrs++[62]++(if zar t.name=true then [] else (t.kids.map (mkup n)).flatten++[60,47]++t.name++[62]):=rfl
theorem zhN {α β:Type} (f:α→List β) (l:List α) (j:Nat) (h:j<l.length):((l.take (j+1)).map f).flatten=((l.take j).map f).flatten++f l[j]:=by
 rw [List.take_succ_eq_append_getElem h,List.map_append,List.flatten_append]
 simp
theorem zkz {α β:Type} (f:α→List β) (l:List α) (j:Nat):((l.take j).map f).flatten.length≤(l.map f).flatten.length:=by
 have:(l.map f).flatten=((l.take j).map f).flatten++((l.drop j).map f).flatten:=by rw [←List.flatten_append,←List.map_append,List.take_append_drop]
 rw [this,List.length_append]
 omega
def zka (n:Nat):Prop:=∀(w0 w:World) (B:Nat) (v:Value) (l:List Int) (a b c d e:Value) (t:Tr n),RdNode n w0 [a,b,c,d,e] t→Below w0.heap.size w0 w→w0.heap.size≤B→B≤w.heap.size→Own w B v l→l.length+(mkup n t).length≤100000000→
  Calls Tryz.prog 40 #[v,.agg #[a,b,c,d,e]] w fun e w'=>∃v',e=.returned v'∧Own w' B v' (l++mkup n t)∧Frp (MtB B) w w'
theorem zaD (B g:Nat) (cs:Array Value):¬ MtB B g (.cells cs 37 (0,0)):=by
 rintro⟨_,cs',h⟩
 injection h with _ h2
 revert h2
 decide
theorem zrW:okB [61,34]:=fun x hx=>by simp at hx;omega
theorem zlE:okB [60,47]:=fun x hx=>by simp at hx;omega
theorem zqN {w:World} {B K:Nat} {v:Value} {l:List Int} {x:Value} (ho:Own w B v l) (h2:2≤l.length) (hK:Loc w K #[x] 5):v.ownBlock≠some K:=by
 intro e
 rcases ho.2.2 with ⟨rfl,_⟩ | ⟨g,cap,cur,rfl,_,hg,h3,_,h5,_⟩
 ·cases e
 ·cases e
  unfold Loc at hK
  rw [hK]at hg
  injection hg with hg
  injection hg with hg
  subst hg
  simp at h5
  omega
theorem zfZ {w w':World} {K:Nat} {row:Option Nat} {cs:Array Value} {T:TypeId} (hK:Loc w K cs T) (hg:w.grownBy w' row) (hn:row≠some K):Loc w' K cs T:=by
 unfold Loc at hK ⊢
 rw [hg.block K (Array.getElem?_eq_some_iff.1 hK).1 (fun e=>hn e.symm)]
 exact hK
theorem zma {w:World} {B:Nat} {v:Value} {l:List Int} (ho:Own w B v l):v.ownBlock≠some w.heap.size:=fun e=>by
 have:=(ho.2.lt _ e).2
 omega
theorem zru {w:World} {K:Nat} {x:Int} (hK:Loc w K #[.int .u8 x] 5) (h0:0≤x) (h1:x≤255):Byt w (.slice (some ⟨K,0,none⟩) 1 1) [x]:=by
 refine⟨fun y hy=>by simp at hy;omega,by simp [maxLen],.inr (.inr ⟨K,0,1,rfl,by simp,by simp [maxLen],by simp,hK.lt,fun i hi=> ?_⟩)⟩
 have e:i=0:=by simpa using hi
 subst e
 exact hK.cell 0
set_option maxHeartbeats 6400000 in
theorem zqL (n:Nat) (H:zka n):zka (n+1):=by
 intro w0 w B v l a b c d e t hrd hW h0 hB ho hlen
 obtain⟨_,_,_,_,e0,k1,k2,hb,hc,hd,he⟩:=hrd
 simp only [List.cons.injEq,and_true]at e0
 obtain⟨rfl,rfl,rfl,rfl,rfl⟩:=e0
 obtain⟨ab,cb,rfl,_,_⟩:=hb.shape
 obtain⟨ac,cc,rfl,_,_⟩:=hc.shape
 obtain⟨ad,cd,rfl,_,_⟩:=Elems.shape hd
 obtain⟨ae,ce,rfl,_,_⟩:=Elems.shape he
 obtain⟨av,cv,rfl,_,_⟩:=ho.byt.shape
 have hB1:Below w.heap.size w (w.alloc (.cells #[.int .i64 t.kind,.slice ab t.name.length cb,.slice ac t.text.length cc,.slice ad t.attrs.length cd,.slice ae t.kids.length ce] 37)):=(Below.refl _ _).alloc (Nat.le_refl _) _
 have l1:=Loc.made w #[.int .i64 t.kind,.slice ab t.name.length cb,.slice ac t.text.length cc,.slice ad t.attrs.length cd,.slice ae t.kids.length ce] 37
 have F1:Frp (MtB B) w _:=Frp.ofBelow hB1 (MtB B)
 have ho1:=ho.keep hB1
 have hW1:=hW.trans (hB1.mono hW.size)
 have hBw1:B≤(w.alloc (.cells #[.int .i64 t.kind,.slice ab t.name.length cb,.slice ac t.text.length cc,.slice ad t.attrs.length cd,.slice ae t.kids.length ce] 37)).heap.size:=Nat.le_trans hB hB1.size
 have hmk:=ziZ n t
 by_cases hz:t.kind=1
 ·have dz:(t.kind == 1)=true:=by simpa using hz
  rw [if_pos hz]at hmk
  rw [hmk]at hlen ⊢
  clear hz hmk
  go_enter Tryz.func40,Tryz.ntmps40
  go_wp2_with fail
  refine (zkb w0 _ B _ _ l t.text false hBw1 ho1 hc hW1 h0 hlen).mono ?_
  rintro e w2 ⟨v2,rfl,ho2,F2⟩
  obtain⟨a2,c2,hv2,_,_⟩:=ho2.byt.shape
  subst hv2
  generalize (l++say false t.text).length=n2 at *
  go_wp2_with fail
  go_ret
  exact⟨_,rfl,ho2,F1.trans F2⟩
 ·have dz:(t.kind == 1)=false:=by simpa using hz
  rw [if_neg hz]at hmk
  rw [hmk]at hlen ⊢
  obtain⟨G,hG⟩:∃G,G=l++([60]++t.name++zbi t.attrs++[62]++(if zar t.name=true then [] else (t.kids.map (mkup n)).flatten++[60,47]++t.name++[62])):=⟨_,rfl⟩
  rw [←hG]
  have HG:=hide hG
  clear hz hmk hG
  obtain⟨x0,x1,x2,x3,x4⟩:=l1.five
  go_enter Tryz.func40,Tryz.ntmps40
  go_wp2_with fail
  generalize (w.alloc (.cells #[.int .i64 t.kind,.slice ab t.name.length cb,.slice ac t.text.length cc,.slice ad t.attrs.length cd,.slice ae t.kids.length ce] 37))=w1 at *
  generalize hS:w.heap.size=S at *
  have hln:l.length+1+t.name.length≤100000000:=by simp only [List.length_append,List.length_cons,List.length_nil]at hlen;omega
  have z1:(w1.alloc (.cells #[.int .u8 60] 5)).drew.cell? ⟨S,1,none⟩=some (.slice ab t.name.length cb):=(l1.alloc _).cell 1
  go_region_held3 (fun w'=>w'.cell? ⟨S,1,none⟩=some (.slice ab t.name.length cb))
   (first | assumption | simp [*])
   (first
    | (refine zch rfl (.tmp 14) (.tmp 15) rfl B _ l (by rfl) (ho1.alloc _) _ [60] (by rfl) (zdb w1 60 (by omega) (by omega)) (by simp;omega) (by simp;omega) ?_;intro v5 w5 ho5 hg5;have F5:Frp (MtB B) w1 w5:=(Frp.ofBelow (((Below.refl w1.heap.size w1).alloc (Nat.le_refl _) _).drew) _).trans (Frp.ofAppend (ho1.alloc _) hg5);obtain⟨x0,x1,x2,x3,x4⟩:=(l1.frp F5 (zaD _ _ _)).five)
    | (refine zch rfl (.tmp 16) (.tmp 18) rfl B _ (l++[60]) (by rfl) ho5 _ t.name (by rfl) (hb.keep (hW1.trans ((F5.toBelow hBw1).mono h0))) (by simp;omega) (Nat.le_trans hBw1 F5.size) ?_;intro v6 w6 ho6 hg6;have F6:Frp (MtB B) w1 w6:=F5.trans (Frp.ofAppend ho5 hg6);obtain⟨x0,x1,x2,x3,x4⟩:=(l1.frp F6 (zaD _ _ _)).five))
  have HW:=hide (fun (W:World) (F:Frp (MtB B) w1 W)=>hW1.trans ((F.toBelow hBw1).mono h0))
  have hmA:(t.attrs.length:Int)≤9223372036854775807:=by have:=hd.1;unfold maxLen at this;omega
  have hmK:(t.kids.length:Int)≤9223372036854775807:=by have:=he.1;unfold maxLen at this;omega
  obtain⟨A0,hA0⟩:∃A0,A0=l++[60]++t.name:=⟨_,rfl⟩
  rw [←hA0]at ho6
  have hlA:A0.length+(zbi t.attrs).length+1≤100000000:=by
   simp only [List.length_append,List.length_cons,List.length_nil]at hlen
   rw [hA0];simp only [List.length_append,List.length_cons,List.length_nil];omega
  clear hg5 hg6 ho5 z1 F5 x0 x1 x2 x3 x4 ho1 ho
  go_wp2_with fail
  go_loopw [0,5] (fun b i wr=>∃j:Nat,j≤t.attrs.length∧i=.int .i64 j∧Own wr B b (A0++zbi (t.attrs.take j))∧Frp (MtB B) w1 wr) (fun _ i _=>t.attrs.length-(intOf i).toNat)
  case atStart=>exact⟨0,Nat.zero_le _,rfl,by simpa [zbi]using ho6,F6⟩
  case round=>
   obtain⟨j,hj,rfl,hr,hf⟩:=hrel
   have hBr:B≤wr.heap.size:=Nat.le_trans hBw1 hf.size
   by_cases hjl:j<t.attrs.length
   ·have hst:zbi (t.attrs.take (j+1))=zbi (t.attrs.take j)++zeA t.attrs[j]:=zhN zeA t.attrs j hjl
    have hle:(zbi (t.attrs.take (j+1))).length≤(zbi t.attrs).length:=zkz zeA t.attrs (j+1)
    obtain⟨pb,poff,rfl,hpl,hun,_,C,hC,hcell,hra⟩:=hd.at hjl
    clear hun
    obtain⟨x,hx⟩:∃x,x=t.attrs[j]:=⟨_,rfl⟩
    rw [←hx]at hra hst
    obtain⟨y0,y1,rfl,hy0,hy1⟩:=hra
    have q0:=hcell 0 (by omega)
    have q1:=hcell 1 (by omega)
    simp only [List.getElem?_cons_zero,List.getElem?_cons_succ,Nat.add_zero]at q0 q1
    obtain⟨s0,g0,rfl,_,_⟩:=hy0.shape
    obtain⟨s1,g1,rfl,_,_⟩:=hy1.shape
    obtain⟨L,hL⟩:∃L,L=A0++zbi (t.attrs.take j):=⟨_,rfl⟩
    have HL:=hide (show A0++zbi (t.attrs.take (j+1))=L++[32]++x.1++[61,34]++say true x.2++[34] by rw [hst,hL];simp [zeA])
    have hll:L.length+4+x.1.length+(say true x.2).length≤100000000:=by
     rw [hst]at hle
     rw [hL]
     simp only [List.length_append,zeA,List.length_cons,List.length_nil]at hle ⊢
     omega
    rw [←hL]at hr
    have HR:=hide hr
    have hjl':(j:Int)<(t.attrs.length:Int):=by omega
    have hj0:(0:Int)≤(j:Int):=by omega
    have c3:wr.cell? ⟨S,3,none⟩=some (.slice (some ⟨pb,poff,none⟩) t.attrs.length cd):=(l1.frp hf (zaD _ _ _)).cell 3
    have u0:wr.cell? ⟨pb,poff+j*2,none⟩=some (.slice s0 x.1.length g0):=((zaa HW wr hf).cell (p:=⟨pb,poff+j*2,none⟩) hpl).trans q0
    have hBz:Below wr.heap.size wr (wr.alloc (.cells #[.int .u8 32] 5)).drew:=((Below.refl _ _).alloc (Nat.le_refl _) _).drew
    have Fz:=hf.trans (Frp.ofBelow hBz _)
    have z3:(wr.alloc (.cells #[.int .u8 32] 5)).drew.cell? ⟨S,3,none⟩=some (.slice (some ⟨pb,poff,none⟩) t.attrs.length cd):=(l1.frp Fz (zaD _ _ _)).cell 3
    have z0:(wr.alloc (.cells #[.int .u8 32] 5)).drew.cell? ⟨pb,poff+j*2,none⟩=some (.slice s0 x.1.length g0):=((zaa HW _ Fz).cell (p:=⟨pb,poff+j*2,none⟩) hpl).trans q0
    clear hr hst hle hx hL hcell
    go_wp2_with fail
    go_region_held3 (fun w'=>w'.cell? ⟨S,3,none⟩=some (.slice (some ⟨pb,poff,none⟩) t.attrs.length cd)∧w'.cell? ⟨pb,poff+j*2,none⟩=some (.slice s0 x.1.length g0))
     (first | exact⟨by assumption,by assumption⟩ | simp [*])
     (first
      | (refine zch rfl (.tmp 27) (.tmp 28) rfl B _ L (by rfl) ((zaa HR).alloc _) _ [32] (by rfl) (zdb wr 32 (by omega) (by omega)) (by simp;omega) (by simp;omega) ?_;intro v2 w2 ho2 hg2;have F2:Frp (MtB B) w1 w2:=Fz.trans (Frp.ofAppend ((zaa HR).alloc _) hg2);have c3:w2.cell? ⟨S,3,none⟩=some (.slice (some ⟨pb,poff,none⟩) t.attrs.length cd):=(l1.frp F2 (zaD _ _ _)).cell 3;have u0:w2.cell? ⟨pb,poff+j*2,none⟩=some (.slice s0 x.1.length g0):=((zaa HW _ F2).cell (p:=⟨pb,poff+j*2,none⟩) hpl).trans q0)
      | (refine zch rfl (.tmp 29) (.tmp 35) rfl B _ (L++[32]) (by rfl) ho2 _ x.1 (by rfl) (hy0.keep (zaa HW _ F2)) (by simp;omega) (Nat.le_trans hBw1 F2.size) ?_;intro v3 w3 ho3 hg3;have F3:Frp (MtB B) w1 w3:=F2.trans (Frp.ofAppend ho2 hg3);have c3:w3.cell? ⟨S,3,none⟩=some (.slice (some ⟨pb,poff,none⟩) t.attrs.length cd):=(l1.frp F3 (zaD _ _ _)).cell 3;have u0:w3.cell? ⟨pb,poff+j*2,none⟩=some (.slice s0 x.1.length g0):=((zaa HW _ F3).cell (p:=⟨pb,poff+j*2,none⟩) hpl).trans q0)
      | (refine zfY rfl (.tmp 36) (.const (.string ⟨#[61,34]⟩)) rfl B _ (L++[32]++x.1) (by rfl) ho3 ⟨#[61,34]⟩ [61,34] (by rfl) rfl zrW (by simp;omega) (Nat.le_trans hBw1 F3.size) ?_;intro v4 w4 ho4 hg4;have F4:Frp (MtB B) w1 w4:=F3.trans (Frp.ofAppend ho3 hg4);have c3:w4.cell? ⟨S,3,none⟩=some (.slice (some ⟨pb,poff,none⟩) t.attrs.length cd):=(l1.frp F4 (zaD _ _ _)).cell 3;have u0:w4.cell? ⟨pb,poff+j*2,none⟩=some (.slice s0 x.1.length g0):=((zaa HW _ F4).cell (p:=⟨pb,poff+j*2,none⟩) hpl).trans q0))
    have u1:w4.cell? ⟨pb,poff+j*2+1,none⟩=some (.slice s1 x.2.length g1):=((zaa HW _ F4).cell (p:=⟨pb,poff+j*2+1,none⟩) hpl).trans q1
    obtain⟨L4,hL4⟩:∃L4,L4=L++[32]++x.1++[61,34]:=⟨_,rfl⟩
    have hl4:L4.length+(say true x.2).length+1≤100000000:=by rw [hL4];simp only [List.length_append,List.length_cons,List.length_nil];omega
    rw [←hL4]at ho4 HL
    have HO4:=hide ho4
    clear ho2 ho3 ho4 hg2 hg3 hg4 hL4 z3 z0 hll
    go_wp2_with fail
    refine (zkb w0 _ B _ _ L4 x.2 true (Nat.le_trans hBw1 F4.size) (zaa HO4) hy1 (zaa HW _ F4) h0 (by omega)).mono ?_
    rintro e w5 ⟨v5,rfl,ho5,F5⟩
    have F5':=F4.trans F5
    have hB5:B≤w5.heap.size:=Nat.le_trans hBw1 F5'.size
    have HO5:=hide ho5
    have hl5:(L4++say true x.2).length+1≤100000000:=by rw [List.length_append];omega
    generalize L4++say true x.2=L5 at *
    clear ho5 c3 u0 u1
    go_wp2_with (at_builtin;(refine zcZ rfl _ _ rfl B _ L5 rfl ((zaa HO5).alloc _) _ [34] rfl (zdb w5 34 (by omega) (by omega)) (by first | omega | (simp;omega)) (by first | exact hB5 | (simp;omega)) ?_))
    intro v7 w7 ho7 hg7
    have F7:Frp (MtB B) w1 w7:=(F5'.trans (Frp.ofBelow ((Below.refl _ _).alloc (Nat.le_refl _) _) _)).trans (Frp.ofAppend ((zaa HO5).alloc _) hg7)
    have HO:=hide (show Own w7 B v7 (A0++zbi (t.attrs.take (j+1))) by rw [zaa HL];exact ho7)
    clear ho7 hg7
    go_wp2_with fail
    go_roundw
    case rel=>exact⟨j+1,by omega,by go_num,zaa HO,F7⟩
    case measure=>simp [intOf];omega
   ·have hje:j=t.attrs.length:=by omega
    subst hje
    rw [List.take_length]at hr
    have c3:wr.cell? ⟨S,3,none⟩=some (.slice ad t.attrs.length cd):=(l1.frp hf (zaD _ _ _)).cell 3
    obtain⟨A1,hA1⟩:∃A1,A1=A0++zbi t.attrs:=⟨_,rfl⟩
    rw [←hA1]at hr
    have hl1:A1.length+1≤100000000:=by rw [hA1,List.length_append];omega
    have HR:=hide hr
    have HA:=hide (show l++[60]++t.name++zbi t.attrs++[62]=A1++[62] by rw [hA1,hA0])
    clear hr hd hA1 hA0
    go_wp2_with (at_builtin;(refine zcZ rfl _ _ rfl B _ A1 rfl ((zaa HR).alloc _) _ [62] rfl (zdb wr 62 (by omega) (by omega)) (by first | omega | (simp;omega)) (by first | exact hBr | (simp;omega)) ?_))
    intro v7 w7 ho7 hg7
    have F7:Frp (MtB B) w1 w7:=(hf.trans (Frp.ofBelow ((Below.refl _ _).alloc (Nat.le_refl _) _) _)).trans (Frp.ofAppend ((zaa HR).alloc _) hg7)
    obtain⟨A2,hA2⟩:∃A2,A2=A1++[62]:=⟨_,rfl⟩
    rw [←hA2]at ho7
    have eA:l++[60]++t.name++zbi t.attrs++[62]=A2:=(zaa HA).trans hA2.symm
    obtain⟨x0,x1,x2,x3,x4⟩:=(l1.frp F7 (zaD _ _ _)).five
    have HO7:=hide ho7
    clear hg7 ho7 c3
    by_cases hv:zar t.name=true
    ·have HE:=hide (show l++([60]++t.name++zbi t.attrs++[62]++(if zar t.name=true then [] else (t.kids.map (mkup n)).flatten++[60,47]++t.name++[62]))=A2 by rw [if_pos hv,←eA];simp)
     have HV:=hide ((zaT _).1 hv)
     have HE2:=hide ((zaa HG).trans (zaa HE))
     clear hv hA2 eA hlen HE HA HG
     go_wp2_with fail
     refine (zdw _ _ t.name (hb.keep (zaa HW _ F7)) (zaa HV)).mono ?_
     rintro e w8 ⟨rfl,rfl⟩
     obtain⟨a8,c8,hv8,_,_⟩:=(zaa HO7).byt.shape
     subst hv8
     go_wp2_with fail
     go_ret
     exact⟨_,rfl,by rw [zaa HE2];exact zaa HO7,F1.trans F7⟩
    ·have HE:=hide (show l++([60]++t.name++zbi t.attrs++[62]++(if zar t.name=true then [] else (t.kids.map (mkup n)).flatten++[60,47]++t.name++[62]))=A2++(t.kids.map (mkup n)).flatten++[60,47]++t.name++[62] by rw [if_neg hv,←eA];simp)
     have HV:=hide (fun h=>hv ((zaT _).2 h))
     have HE2:=hide ((zaa HG).trans (zaa HE))
     have hlK:A2.length+(t.kids.map (mkup n)).flatten.length+3+t.name.length≤100000000:=by
      rw [if_neg hv]at hlen
      rw [←eA]
      simp only [List.length_append,List.length_cons,List.length_nil]at hlen ⊢
      omega
     clear hv hA2 eA hlen HE HA HG
     go_wp2_with fail
     refine (zeQ _ _ t.name (hb.keep (zaa HW _ F7)) (zaa HV)).mono ?_
     rintro e w8 ⟨rfl,rfl⟩
     go_wp2_with fail
     go_loopw [0,6] (fun b i wr=>∃j:Nat,j≤t.kids.length∧i=.int .i64 j∧Own wr B b (A2++((t.kids.take j).map (mkup n)).flatten)∧Frp (MtB B) w1 wr) (fun _ i _=>t.kids.length-(intOf i).toNat)
     case atStart=>exact⟨0,Nat.zero_le _,rfl,by simpa using (zaa HO7),F7⟩
     case round=>
      clear x0 x1 x2 x3 x4 HO7 F7 hf HR
      obtain⟨j,hj,rfl,hr,hf⟩:=hrel
      have hBr:B≤wr.heap.size:=Nat.le_trans hBw1 hf.size
      by_cases hjl:j<t.kids.length
      ·have hst:=zhN (mkup n) t.kids j hjl
       have hle:=zkz (mkup n) t.kids (j+1)
       obtain⟨pb,poff,rfl,hpl,hun,_,hC⟩:=he.at hjl
       clear hun
       obtain⟨c0,c1,c2,c3,c4,e0,e1,e2,e3,e4,hx⟩:=zeL hC
       have hBx:=zaa HW wr hf
       replace e0:=(hBx.cell (p:=⟨pb,poff+j*5,none⟩) hpl).trans e0
       replace e1:=(hBx.cell (p:=⟨pb,poff+j*5+1,none⟩) hpl).trans e1
       replace e2:=(hBx.cell (p:=⟨pb,poff+j*5+2,none⟩) hpl).trans e2
       replace e3:=(hBx.cell (p:=⟨pb,poff+j*5+3,none⟩) hpl).trans e3
       replace e4:=(hBx.cell (p:=⟨pb,poff+j*5+4,none⟩) hpl).trans e4
       have x4:wr.cell? ⟨S,4,none⟩=some (.slice (some ⟨pb,poff,none⟩) t.kids.length ce):=(l1.frp hf (zaD _ _ _)).cell 4
       have hjl':(j:Int)<(t.kids.length:Int):=by omega
       have hl2:(A2++((t.kids.take j).map (mkup n)).flatten).length+(mkup n t.kids[j]).length≤100000000:=by
        rw [hst]at hle
        simp only [List.length_append]at hle ⊢
        omega
       have HST:=hide (show A2++((t.kids.take (j+1)).map (mkup n)).flatten=A2++((t.kids.take j).map (mkup n)).flatten++mkup n t.kids[j] by rw [hst,List.append_assoc])
       generalize A2++((t.kids.take j).map (mkup n)).flatten=L at *
       have HR:=hide hr
       clear hr hst hle hC
       go_wp2_with fail
       refine (H w0 wr B _ L c0 c1 c2 c3 c4 t.kids[j] hx hBx h0 hBr (zaa HR) hl2).mono ?_
       rintro e w9 ⟨v9,rfl,ho9,F9⟩
       have F9':=hf.trans F9
       have HO:=hide (show Own w9 B v9 (A2++((t.kids.take (j+1)).map (mkup n)).flatten) by rw [zaa HST];exact ho9)
       clear ho9 e0 e1 e2 e3 e4 x4
       go_wp2_with fail
       go_roundw
       case rel=>exact⟨j+1,by omega,by go_num,zaa HO,F9'⟩
       case measure=>simp [intOf];omega
      ·have hje:j=t.kids.length:=by omega
       subst hje
       rw [List.take_length]at hr
       have x4:wr.cell? ⟨S,4,none⟩=some (.slice ae t.kids.length ce):=(l1.frp hf (zaD _ _ _)).cell 4
       have x1:wr.cell? ⟨S,1,none⟩=some (.slice ab t.name.length cb):=(l1.frp hf (zaD _ _ _)).cell 1
       have hl2:(A2++(t.kids.map (mkup n)).flatten).length+3+t.name.length≤100000000:=by rw [List.length_append];omega
       have HE3:=zaa HE2
       clear HE2
       generalize A2++(t.kids.map (mkup n)).flatten=L at *
       have HE2:=hide HE3
       clear HE3
       have HR:=hide hr
       clear hr he
       go_wp2_with fail
       have Fd:Frp (MtB B) w1 wr.drew:=hf.trans (Frp.ofBelow ((Below.refl _ _).drew) _)
       have xd:wr.drew.cell? ⟨S,1,none⟩=some (.slice ab t.name.length cb):=(l1.frp Fd (zaD _ _ _)).cell 1
       have Fz:Frp (MtB B) w1 (wr.alloc (.cells #[.int .u8 62] 5)).drew:=hf.trans (Frp.ofBelow (((Below.refl _ _).alloc (Nat.le_refl _) _).drew) _)
       have z1:(wr.alloc (.cells #[.int .u8 62] 5)).drew.cell? ⟨S,1,none⟩=some (.slice ab t.name.length cb):=(l1.frp Fz (zaD _ _ _)).cell 1
       have K4:Loc (wr.alloc (.cells #[.int .u8 62] 5)).drew wr.heap.size #[.int .u8 62] 5:=Loc.made wr _ _
       have hne:=zma (zaa HR)
       have hBz:B≤(wr.alloc (.cells #[.int .u8 62] 5)).drew.heap.size:=Nat.le_trans hBw1 Fz.size
       go_region_held3 (fun w'=>w'.cell? ⟨S,1,none⟩=some (.slice ab t.name.length cb))
        (first | assumption | simp [*])
        (first
         | (refine zfY rfl (.tmp 69) (.const (.string ⟨#[60,47]⟩)) rfl B _ L (by rfl) (zaa HR) ⟨#[60,47]⟩ [60,47] (by rfl) rfl zlE (by simp;omega) hBr ?_;intro v5 w5 ho5 hg5;have F5:Frp (MtB B) w1 w5:=Fd.trans (Frp.ofAppend (show Own wr.drew B _ L from zaa HR) hg5);have x1:w5.cell? ⟨S,1,none⟩=some (.slice ab t.name.length cb):=(l1.frp F5 (zaD _ _ _)).cell 1;have F5z:Frp (MtB B) w1 (w5.alloc (.cells #[.int .u8 62] 5)):=F5.trans (Frp.ofBelow (((Below.refl _ _).alloc (Nat.le_refl _) _)) _);have z1:(w5.alloc (.cells #[.int .u8 62] 5)).cell? ⟨S,1,none⟩=some (.slice ab t.name.length cb):=(l1.frp F5z (zaD _ _ _)).cell 1)
         | (refine zfY rfl (.tmp 69) (.const (.string ⟨#[60,47]⟩)) rfl B _ L (by rfl) ((zaa HR).alloc _) ⟨#[60,47]⟩ [60,47] (by rfl) rfl zlE (by simp;omega) hBz ?_;intro v5 w5 ho5 hg5;have F5:Frp (MtB B) w1 w5:=Fz.trans (Frp.ofAppend ((zaa HR).alloc _) hg5);have x1:w5.cell? ⟨S,1,none⟩=some (.slice ab t.name.length cb):=(l1.frp F5 (zaD _ _ _)).cell 1;have K5:=zfZ K4 hg5 hne)
         | (refine zch rfl (.tmp 70) (.tmp 72) rfl B _ (L++[60,47]) (by rfl) ho5 _ t.name (by rfl) (hb.keep (zaa HW _ F5)) (by simp;omega) (Nat.le_trans hBw1 F5.size) ?_;intro v6 w6 ho6 hg6;have F6:Frp (MtB B) w1 w6:=F5.trans (Frp.ofAppend ho5 hg6);have x1:w6.cell? ⟨S,1,none⟩=some (.slice ab t.name.length cb):=(l1.frp F6 (zaD _ _ _)).cell 1;have K6:=zfZ K5 hg6 (zqN ho5 (by simp) K5))
         | (refine zch rfl (.tmp 70) (.tmp 72) rfl B _ (L++[60,47]) (by rfl) ho5 _ t.name (by rfl) (hb.keep (zaa HW _ F5)) (by simp;omega) (Nat.le_trans hBw1 F5.size) ?_;intro v6 w6 ho6 hg6;have F6:Frp (MtB B) w1 w6:=F5.trans (Frp.ofAppend ho5 hg6);have x1:w6.cell? ⟨S,1,none⟩=some (.slice ab t.name.length cb):=(l1.frp F6 (zaD _ _ _)).cell 1;have z1:(w6.alloc (.cells #[.int .u8 62] 5)).cell? ⟨S,1,none⟩=some (.slice ab t.name.length cb):=((l1.frp F6 (zaD _ _ _)).alloc _).cell 1)
         | (refine zch rfl (.tmp 70) (.tmp 72) rfl B _ (L++[60,47]) (by rfl) (ho5.alloc _) _ t.name (by rfl) (hb.keep (zaa HW _ F5z)) (by simp;omega) (Nat.le_trans hBw1 F5z.size) ?_;intro v6 w6 ho6 hg6;have F6:Frp (MtB B) w1 w6:=F5z.trans (Frp.ofAppend (ho5.alloc _) hg6);have x1:w6.cell? ⟨S,1,none⟩=some (.slice ab t.name.length cb):=(l1.frp F6 (zaD _ _ _)).cell 1;have K6:=zfZ (Loc.made w5 #[.int .u8 62] 5) hg6 (zma ho5))
         | (refine zch rfl (.tmp 73) (.tmp 74) rfl B _ (L++[60,47]++t.name) (by rfl) ho6 _ [62] (by rfl) (zru K6 (by omega) (by omega)) (by simp;omega) (Nat.le_trans hBw1 F6.size) ?_;intro v7 w7 ho7 hg7;have F7:Frp (MtB B) w1 w7:=F6.trans (Frp.ofAppend ho6 hg7);have x1:w7.cell? ⟨S,1,none⟩=some (.slice ab t.name.length cb):=(l1.frp F7 (zaD _ _ _)).cell 1)
         | (refine zch rfl (.tmp 73) (.tmp 74) rfl B _ (L++[60,47]++t.name) (by rfl) (ho6.alloc _) _ [62] (by rfl) (zdb w6 62 (by omega) (by omega)) (by simp;omega) (by have:=Nat.le_trans hBw1 F6.size;simp;omega) ?_;intro v7 w7 ho7 hg7;have F7:Frp (MtB B) w1 w7:=(F6.trans (Frp.ofBelow (((Below.refl w6.heap.size w6).alloc (Nat.le_refl _) _)) _)).trans (Frp.ofAppend (ho6.alloc _) hg7);have x1:w7.cell? ⟨S,1,none⟩=some (.slice ab t.name.length cb):=(l1.frp F7 (zaD _ _ _)).cell 1))
       all_goals
        rw [←zaa HE2]at ho7
        obtain⟨a7,c7,hv7,_,_⟩:=ho7.byt.shape
        subst hv7
        go_wp2_with fail
        go_ret
        exact⟨_,rfl,ho7,F1.trans F7⟩
theorem zob:∀n,zka n
 | 0=>fun w0 w B v l a b c d e t hrd=>absurd hrd (by unfold RdNode;exact id)
 | n+1=>zqL n (zob n)
theorem zeS {α β:Type} (f:α→List β) (g:α→Nat) (H:∀x,(f x).length≤6*g x+6):∀l:List α,(l.map f).flatten.length≤6*(l.length+(l.map g).sum)
 | []=>by simp
 | x::l=>by
  have h1:=zeS f g H l
  have h2:=H x
  simp only [List.map_cons,List.flatten_cons,List.length_append,List.length_cons,List.sum_cons]
  omega
theorem zmL (l:List (List Int×List Int)):(zbi l).length≤6*szA l:=by
 unfold zbi szA
 refine zeS zeA (fun x=>x.1.length+x.2.length) (fun x=> ?_) l
 have:=zhV true x.2
 unfold zeA
 simp only [List.length_append,List.length_cons,List.length_nil]
 omega
theorem zgY:∀(n:Nat) (t:Tr n),(mkup n t).length≤6*szT n t+5
 | 0,t=>by show ([]:List Int).length≤_;simp
 | n+1,t=>by
  have h1:=zhV false t.text
  have h2:=zmL t.attrs
  have h3:=zeS (mkup n) (szT n) (fun x=>by have:=zgY n x;omega) t.kids
  have h4:szT (n+1) t=t.name.length+t.text.length+szA t.attrs+(t.kids.length+(t.kids.map (szT n)).sum):=rfl
  rw [ziZ,h4]
  split
  ·omega
  ·split
   ·simp only [List.length_append,List.length_cons,List.length_nil]
    omega
   ·simp only [List.length_append,List.length_cons,List.length_nil]
    omega
def docT {n:Nat} (t:Tr (n+1)) (ops:List OpV):Tr 20:=(prj (zaJ t ops) 19 0 120).1
def docV {n:Nat} (r:RepV n):List Int:=if repB r=true then mkup 20 (docT r.first r.ops) else []
theorem zfO {n:Nat} {r:RepV n} (h:repB r=true):okN n r.first=true∧zar r.first.name=false∧opsB r.ops=true:=by
 unfold repB zfM zhK at h
 simp only [Bool.and_eq_true,Bool.not_eq_true']at h
 exact⟨h.1.1.1.1.1.2.1,h.1.1.1.1.1.2.2,h.1.1.2⟩
theorem zem {n:Nat} {r:RepV n} (h:repB r=true):stB (zaJ r.first r.ops)=true:=by
 obtain⟨h1,h2,h3⟩:=zfO h
 exact zrj h1 h2 h3
theorem znK {n:Nat} {r:RepV n} (h:repB r=true):szT 20 (docT r.first r.ops)≤24120:=by
 have:=zsh (zaJ r.first r.ops)
 rw [zgq (zem h)]at this
 exact this
theorem zrO {n:Nat} {r:RepV n} (h:repB r=true):okN 19 (docT r.first r.ops)=true:=zoU (zem h)
theorem zlH {n:Nat} {r:RepV n} (h:repB r=true):(mkup 20 (docT r.first r.ops)).length≤144725:=by
 have h1:=zgY 20 (docT r.first r.ops)
 have h2:=znK h
 omega
theorem zjL {l:List PlV} (h:stB l=true):∀p∈l,(-9223372036854775808≤p.kind∧p.kind≤9223372036854775807)∧okI p.id∧okI p.par:=by
 have hids:∀p∈l,okI p.id:=fun p hp=>by
  obtain⟨i,hi,rfl⟩:=List.getElem_of_mem hp
  have h1:=h
  unfold stB at h1
  simp only [Bool.and_eq_true,zbc]at h1
  have h2:=h1.2 i l[i] (by simp [hi])
  unfold zcH at h2
  simp only [Bool.and_eq_true]at h2
  exact zef h2.1.1.2
 intro p hp
 refine⟨?_,hids p hp,?_⟩
 ·obtain⟨i,hi,rfl⟩:=List.getElem_of_mem hp
  rcases znE (zcR h i l[i] (by simp [hi])).1 with e | e<;>(rw [e];omega)
 ·obtain⟨i,hi,rfl⟩:=List.getElem_of_mem hp
  have hp':l[i]? = some l[i]:=by simp [hi]
  by_cases h2:2≤i
  ·obtain⟨j,hj⟩:=zcC ((zcR h i _ hp').2.2 h2)
   obtain⟨q,hq,hqi⟩:=zbm hj
   rw [←hqi]
   exact hids q (List.mem_of_getElem? hq)
  ·have h1:=h
   unfold stB at h1
   simp only [Bool.and_eq_true,zbc]at h1
   have h3:=h1.2 i l[i] hp'
   unfold zcH at h3
   simp only [Bool.and_eq_true]at h3
   have h4:=h3.2
   rw [if_pos (by omega)]at h4
   unfold topB at h4
   simp only [Bool.and_eq_true]at h4
   rw [(zfs _).1 h4.1.2]
   exact zef (by decide)
def cmpZ (x y:Int):Int:=if x<y then -1 else if y<x then 1 else 0
set_option maxHeartbeats 1600000 in
theorem zij (w:World) (x:Int):Calls Tryz.prog 164 #[.int .i64 x] w fun e w'=>e=.returned (.bool false)∧w'=w:=by
 go_enter Tryz.func164,Tryz.ntmps164
 go_wp2_with fail
 go_ret
 exact⟨by simp,rfl⟩
set_option maxHeartbeats 1600000 in
theorem zqa (w:World) (x y:Int):Calls Tryz.prog 146 #[.int .i64 x,.int .i64 y] w fun e w'=>e=.returned (.int .i64 (cmpZ x y))∧w'=w:=by
 have H1:=hide (zij w x)
 have H2:=hide (zij w y)
 by_cases h1:x<y
 ·have d1:decide (x<y)=true:=decide_eq_true h1
  have HE:=hide (show cmpZ x y = -1 by unfold cmpZ;rw [if_pos h1])
  clear h1
  go_enter Tryz.func146,Tryz.ntmps146
  go_wp2_with fail
  refine (zaa H1).mono ?_
  rintro e w' ⟨rfl,rfl⟩
  go_wp2_with fail
  refine (zaa H2).mono ?_
  rintro e w' ⟨rfl,rfl⟩
  go_wp2_with fail
  go_ret
  exact⟨by rw [zaa HE];rfl,rfl⟩
 ·have d1:decide (x<y)=false:=decide_eq_false h1
  by_cases h2:y<x
  ·have d2:decide (y<x)=true:=decide_eq_true h2
   have HE:=hide (show cmpZ x y=1 by unfold cmpZ;rw [if_neg h1,if_pos h2])
   clear h1 h2
   go_enter Tryz.func146,Tryz.ntmps146
   go_wp2_with fail
   refine (zaa H1).mono ?_
   rintro e w' ⟨rfl,rfl⟩
   go_wp2_with fail
   refine (zaa H2).mono ?_
   rintro e w' ⟨rfl,rfl⟩
   go_wp2_with fail
   go_ret
   exact⟨by rw [zaa HE];rfl,rfl⟩
  ·have d2:decide (y<x)=false:=decide_eq_false h2
   have HE:=hide (show cmpZ x y=0 by unfold cmpZ;rw [if_neg h1,if_neg h2])
   clear h1 h2
   go_enter Tryz.func146,Tryz.ntmps146
   go_wp2_with fail
   refine (zaa H1).mono ?_
   rintro e w' ⟨rfl,rfl⟩
   go_wp2_with fail
   refine (zaa H2).mono ?_
   rintro e w' ⟨rfl,rfl⟩
   go_wp2_with fail
   go_ret
   exact⟨by rw [zaa HE];rfl,rfl⟩
def cmpK:List Int→List Int→Int
 | [],[]=>0
 | [],_::_=> -1
 | _::_,[]=>1
 | x::a,y::b=>if cmpZ x y=0 then cmpK a b else cmpZ x y
theorem zdz (x y:Int):cmpZ x y=0↔x=y:=by
 unfold cmpZ
 by_cases h1:x<y
 ·rw [if_pos h1];omega
 ·rw [if_neg h1]
  by_cases h2:y<x
  ·rw [if_pos h2];omega
  ·rw [if_neg h2];omega
theorem zgi:∀(a b:List Int),decide (cmpK a b<0)=klB a b
 | [],[]=>rfl
 | [],_::_=>rfl
 | _::_,[]=>rfl
 | x::a,y::b=>by
  rw [cmpK,klB]
  by_cases h:x=y
  ·rw [if_pos ((zdz x y).2 h),if_pos h]
   exact zgi a b
  ·rw [if_neg (fun e=>h ((zdz x y).1 e)),if_neg h]
   unfold cmpZ
   by_cases h1:x<y
   ·simp [h1]
   ·have h2:y<x:=by omega
    simp [h1,h2]
theorem zep:∀(a b:List Int),cmpK a b=0↔a=b
 | [],[]=>by simp [cmpK]
 | [],_::_=>by simp [cmpK]
 | _::_,[]=>by simp [cmpK]
 | x::a,y::b=>by
  rw [cmpK]
  by_cases h:x=y
  ·rw [if_pos ((zdz x y).2 h),zep a b]
   simp [h]
  ·rw [if_neg (fun e=>h ((zdz x y).1 e))]
   constructor
   ·intro e;exact absurd ((zdz x y).1 e) h
   ·intro e;exact absurd (List.cons.inj e).1 h
set_option maxRecDepth 1000000
theorem zof {a b:List Int} {k:Nat} (ha:k<a.length) (hb:k<b.length):cmpK (a.drop k) (b.drop k)=if cmpZ (a.getD k 0) (b.getD k 0)=0 then cmpK (a.drop (k+1)) (b.drop (k+1)) else cmpZ (a.getD k 0) (b.getD k 0):=by
 rw [zcd ha,zcd hb,cmpK]
theorem ziw {a b:List Int} {k:Nat} (ha:k<a.length) (hb:k=b.length):cmpK (a.drop k) (b.drop k)=1:=by
 rw [zcd ha,hb,List.drop_length]
 rfl
theorem ziq {a b:List Int} {k:Nat} (ha:k=a.length) (hb:k≤b.length):cmpK (a.drop k) (b.drop k)=if k<b.length then -1 else 0:=by
 rw [ha,List.drop_length]
 by_cases h:a.length<b.length
 ·rw [if_pos h,zcd h]
  rfl
 ·rw [if_neg h,List.drop_of_length_le (by omega)]
  rfl
set_option maxHeartbeats 3200000 in
theorem zpy (w:World) (u v:Value) (a b:List Int) (hu:Ints w u a) (hv:Ints w v b) :
  Calls Tryz.prog 130 #[u,v] w fun e w'=>e=.returned (.int .i64 (cmpK a b))∧w'=w:=by
 have hma:=hu.2.1
 have hmb:=hv.2.1
 unfold maxLen at hma hmb
 by_cases h0:a=[]
 ·subst h0
  obtain⟨a1,c1,rfl,_⟩:=hu.shape
  obtain⟨a2,c2,rfl,_⟩:=hv.shape
  have HE:=hide (ziq (a:=[]) (b:=b) (k:=0) rfl (Nat.zero_le _))
  simp only [List.drop_zero]at HE
  clear hu hv
  generalize b.length=m at *
  by_cases hm:0<m
  ·have d:decide (0<m)=true:=decide_eq_true hm
   have d':(0:Int)<(m:Int):=by omega
   rw [if_pos hm]at HE
   go_enter Tryz.func130,Tryz.ntmps130
   go_wp2_with fail
   refine wp_loop_rounds 1 ?_
   rw [rounds_succ]
   go_wp2_with fail
   go_ret
   exact⟨by rw [zaa HE];rfl,rfl⟩
  ·have e:m=0:=by omega
   subst e
   rw [if_neg hm]at HE
   go_enter Tryz.func130,Tryz.ntmps130
   go_wp2_with fail
   refine wp_loop_rounds 1 ?_
   rw [rounds_succ]
   go_wp2_with fail
   go_ret
   exact⟨by rw [zaa HE];rfl,rfl⟩
 obtain⟨hoka,_,⟨rfl,rfl⟩ | ⟨x,cap,rfl,hc,rfl⟩ | ⟨p,off,cap,rfl,h1,h2,h3,h4,h5⟩⟩:=hu
 ·exact absurd rfl h0
 ·exact absurd rfl h0
 have hl0:0<a.length:=by
  cases a with
  | nil=>exact absurd rfl h0
  | cons x r=>simp
 by_cases hb0:b=[]
 ·subst hb0
  obtain⟨a2,c2,rfl,_⟩:=hv.shape
  have HE:=hide (ziw (a:=a) (b:=[]) (k:=0) hl0 rfl)
  simp only [List.drop_zero]at HE
  have c1:=h5 0 hl0
  rw [Nat.add_zero]at c1
  generalize a.getD 0 0=x at *
  have hl0':(0:Int)<(a.length:Int):=by omega
  clear h5 hv
  generalize a.length=n at *
  go_enter Tryz.func130,Tryz.ntmps130
  go_wp2_with fail
  refine wp_loop_rounds 1 ?_
  rw [rounds_succ]
  go_wp2_with fail
  go_ret
  exact⟨by rw [zaa HE];rfl,rfl⟩
 obtain⟨hokb,_,⟨rfl,rfl⟩ | ⟨x,cap',rfl,hc,rfl⟩ | ⟨q,off',cap',rfl,g1,g2,g3,g4,g5⟩⟩:=hv
 ·exact absurd rfl hb0
 ·exact absurd rfl hb0
 generalize hA:a.length=n at *
 generalize hC:b.length=m at *
 have HA:=hide hA
 have HC:=hide hC
 clear hA hC h0 hb0
 go_enter Tryz.func130,Tryz.ntmps130
 go_wp2_with fail
 go_loop [11] (fun i=>∃k:Nat,k≤n∧k≤m∧i=.int .i64 k∧Hid (cmpK a b=cmpK (a.drop k) (b.drop k))) (fun i=>n-(intOf i).toNat)
 case atStart=>exact⟨0,Nat.zero_le _,Nat.zero_le _,rfl,hide rfl⟩
 case round=>
  obtain⟨k,hk,hk',rfl,ht⟩:=hrel
  by_cases hka:k<n
  ·have hlt':(k:Int)<(n:Int):=by omega
   have hk0:(0:Int)≤(k:Int):=by omega
   have c1:=h5 k hka
   by_cases hkb:k<m
   ·have hlt2:¬ (m:Int)≤(k:Int):=by omega
    have hlt3:(k:Int)<(m:Int):=by omega
    have c2:=g5 k hkb
    have HS:=hide (zof (a:=a) (b:=b) (k:=k) (by rw [zaa HA];exact hka) (by rw [zaa HC];exact hkb))
    generalize a.getD k 0=x at *
    generalize b.getD k 0=y at *
    clear h5 g5
    have HZ:=hide (zqa w x y)
    go_wp2_with fail
    refine (zaa HZ).mono ?_
    rintro e w' ⟨rfl,rfl⟩
    clear HZ
    generalize cmpZ x y=z at *
    by_cases hz:z=0
    ·subst hz
     have HT:=hide ((zaa ht).trans (show cmpK (a.drop k) (b.drop k)=cmpK (a.drop (k+1)) (b.drop (k+1)) by rw [zaa HS,if_pos rfl]))
     clear c1 c2
     go_wp2_with fail
     go_round
     case rel=>exact⟨k+1,by omega,by omega,by go_num,HT⟩
     case measure=>simp [intOf];omega
    ·have dz:(z != 0)=true:=by simpa using hz
     have HT:=hide ((zaa ht).trans (show cmpK (a.drop k) (b.drop k)=z by rw [zaa HS,if_neg hz]))
     clear c1 c2 hz
     go_wp2_with fail
     go_ret
     exact⟨by rw [zaa HT];rfl,rfl⟩
   ·have hlt2:(m:Int)≤(k:Int):=by omega
    have HT:=hide ((zaa ht).trans (ziw (by rw [zaa HA];exact hka) (by rw [zaa HC];omega)))
    generalize a.getD k 0=x at *
    clear h5 g5
    go_wp2_with fail
    go_ret
    exact⟨by rw [zaa HT];rfl,rfl⟩
  ·have hlt':¬ (k:Int)<(n:Int):=by omega
   have HT:=hide ((zaa ht).trans (ziq (by rw [zaa HA];omega) (by rw [zaa HC];exact hk')))
   have e:k=n:=by omega
   subst e
   clear h5 g5
   by_cases hm:k<m
   ·have hm':(k:Int)<(m:Int):=by omega
    rw [if_pos (by rw [zaa HC];exact hm)]at HT
    go_wp2_with fail
    go_ret
    exact⟨by rw [zaa HT];rfl,rfl⟩
   ·have hm':¬ (k:Int)<(m:Int):=by omega
    rw [if_neg (by rw [zaa HC];exact hm)]at HT
    go_wp2_with fail
    go_ret
    exact⟨by rw [zaa HT];rfl,rfl⟩
set_option maxHeartbeats 3200000 in
theorem zoa (w:World) (b c:Nat) (x y:Int) (c0:w.cell? ⟨b,0,none⟩=some (.int .i64 x)) (c1:w.cell? ⟨b,1,none⟩=some (.int .i64 y)) :
  Calls Tryz.prog 129 #[.slice (some ⟨b,0,none⟩) 2 c] w fun e w'=>e=.returned (.int .i64 (if x=0 then y else x))∧w'=w:=by
 by_cases hx:x=0
 ·subst hx
  rw [if_pos rfl]
  by_cases hy:y=0
  ·subst hy
   go_enter Tryz.func129,Tryz.ntmps129
   go_wp2_with fail
   refine wp_loop_rounds 3 ?_
   rw [rounds_succ]
   go_wp2_with fail
   rw [rounds_succ]
   go_wp2_with fail
   rw [rounds_succ]
   go_wp2_with fail
   go_ret
   exact⟨rfl,rfl⟩
  ·have dy:(y != 0)=true:=by simpa using hy
   clear hy
   go_enter Tryz.func129,Tryz.ntmps129
   go_wp2_with fail
   refine wp_loop_rounds 3 ?_
   rw [rounds_succ]
   go_wp2_with fail
   rw [rounds_succ]
   go_wp2_with fail
   go_ret
   exact⟨rfl,rfl⟩
 ·rw [if_neg hx]
  have dx:(x != 0)=true:=by simpa using hx
  clear hx
  go_enter Tryz.func129,Tryz.ntmps129
  go_wp2_with fail
  refine wp_loop_rounds 3 ?_
  rw [rounds_succ]
  go_wp2_with fail
  go_ret
  exact⟨rfl,rfl⟩
set_option maxHeartbeats 1600000 in
theorem zky (w:World) (n r n' r':Int) :
  Calls Tryz.prog 117 #[.agg #[.int .i64 n,.int .i64 r],.agg #[.int .i64 n',.int .i64 r']] w fun e w'=>e=.returned (.int .i64 (ordI n r n' r'))∧w'=(w.alloc (.cells #[.int .i64 n,.int .i64 r] 81)).alloc (.cells #[.int .i64 n',.int .i64 r'] 81):=by
 have l0:=(Loc.made w #[.int .i64 n,.int .i64 r] 81).alloc (.cells #[.int .i64 n',.int .i64 r'] 81)
 have l1:=Loc.made (w.alloc (.cells #[.int .i64 n,.int .i64 r] 81)) #[.int .i64 n',.int .i64 r'] 81
 simp only [World.size_alloc]at l1
 have x0:=l0.cell 0
 have x1:=l0.cell 1
 have y0:=l1.cell 0
 have y1:=l1.cell 1
 clear l0 l1
 by_cases e1:n=n'
 ·have d1:(n == n')=true:=by simpa using e1
  have d3:decide (n<n')=false:=by simp;omega
  by_cases e2:r=r'
  ·have d2:(r == r')=true:=by simpa using e2
   have HE:=hide (show ordI n r n' r'=0 by unfold ordI;rw [if_pos ⟨e1,e2⟩])
   clear e1 e2
   go_enter Tryz.func117,Tryz.ntmps117
   go_wp2_with fail
   go_ret
   exact⟨by rw [zaa HE];rfl,rfl⟩
  ·have d2:(r == r')=false:=by simpa using e2
   by_cases e3:r<r'
   ·have d4:decide (r<r')=true:=by simpa using e3
    have HE:=hide (show ordI n r n' r' = -1 by unfold ordI zam;rw [if_neg (fun h=>e2 h.2),if_pos (by simp [e1,e3])])
    clear e1 e2 e3
    go_enter Tryz.func117,Tryz.ntmps117
    go_wp2_with fail
    go_ret
    exact⟨by rw [zaa HE];rfl,rfl⟩
   ·have d4:decide (r<r')=false:=by simp;omega
    have HE:=hide (show ordI n r n' r'=1 by unfold ordI zam;rw [if_neg (fun h=>e2 h.2),if_neg (by simp [e1,e3])])
    clear e1 e2 e3
    go_enter Tryz.func117,Tryz.ntmps117
    go_wp2_with fail
    go_ret
    exact⟨by rw [zaa HE];rfl,rfl⟩
 ·have d1:(n == n')=false:=by simpa using e1
  by_cases e3:n<n'
  ·have d4:decide (n<n')=true:=by simpa using e3
   have HE:=hide (show ordI n r n' r' = -1 by unfold ordI zam;rw [if_neg (fun h=>e1 h.1),if_pos (by simp [e3])])
   clear e1 e3
   go_enter Tryz.func117,Tryz.ntmps117
   go_wp2_with fail
   go_ret
   exact⟨by rw [zaa HE];rfl,rfl⟩
  ·have d4:decide (n<n')=false:=by simp;omega
   have HE:=hide (show ordI n r n' r'=1 by unfold ordI zam;rw [if_neg (fun h=>e1 h.1),if_neg (by simp [e1,e3])])
   clear e1 e3
   go_enter Tryz.func117,Tryz.ntmps117
   go_wp2_with fail
   go_ret
   exact⟨by rw [zaa HE];rfl,rfl⟩
end Go.Proofs.YtlpnibbdmkeklaaGreatDoor
namespace Go.Proofs.YtlpnibbdmkeklaaGreatDoor
set_option linter.unusedVariables false
def cmpP (p q:PlV):Int:=if cmpK p.key q.key=0 then ordI p.idN p.idR q.idN q.idR else cmpK p.key q.key
theorem zrL (p q:PlV):decide (cmpP p q<0)=zaw p q:=by
 unfold cmpP zaw
 by_cases h:cmpK p.key q.key=0
 ·rw [if_pos h,zlA]
  have e:=(zep _ _).1 h
  have k1:klB p.key q.key=false:=by rw [←zgi,h];rfl
  have k2:klB q.key p.key=false:=by rw [←zgi,←e,(zep _ _).2 rfl];rfl
  rw [k1,k2]
  simp
 ·rw [if_neg h,zgi]
  have hne:p.key≠q.key:=fun e=>h ((zep _ _).2 e)
  have ht:=zec p.key q.key
  rw [decide_eq_false hne]at ht
  cases h1:klB p.key q.key with
  | true=>rfl
  | false=>
   rw [h1]at ht
   simp at ht
   rw [ht]
   rfl
theorem zod {n r n' r':Int} (h:zam n r n' r'=false) (h':zam n' r' n r=false):n=n'∧r=r':=by
 unfold zam at *
 simp only [Bool.or_eq_false_iff,decide_eq_false_iff_not,Bool.and_eq_false_iff,beq_eq_false_iff_ne]at h h'
 omega
theorem zmA {a b:PlV} (h:zaw a b=false) (h':zaw b a=false):a.key=b.key∧a.idN=b.idN∧a.idR=b.idR:=by
 unfold zaw at h h'
 simp only [Bool.or_eq_false_iff,Bool.and_eq_false_iff,Bool.not_eq_false']at h h'
 have ht:=zec a.key b.key
 rw [h.1,h'.1]at ht
 have e:a.key=b.key:=by simpa using ht
 have l1:zam a.idN a.idR b.idN b.idR=false:=by
  rcases h.2 with k | k
  ·rw [h'.1]at k;cases k
  ·exact k
 have l2:zam b.idN b.idR a.idN a.idR=false:=by
  rcases h'.2 with k | k
  ·rw [h.1]at k;cases k
  ·exact k
 exact⟨e,zod l1 l2⟩
theorem zmu {a b c:PlV} (h:a.key=b.key∧a.idN=b.idN∧a.idR=b.idR):zaw a c=zaw b c∧zaw c a=zaw c b:=by
 unfold zaw
 rw [h.1,h.2.1,h.2.2]
 exact⟨rfl,rfl⟩
theorem zjW {a b c:PlV} (h:zaw a b=false) (k:zaw b c=false):zaw a c=false:=by
 cases hac:zaw a c with
 | false=>rfl
 | true=>
  cases hcb:zaw c b with
  | true=>rw [zdt hac hcb]at h;cases h
  | false=>rw [←(zmu (zmA k hcb)).2,h]at hac;cases hac
def zjy:Option PlV→Option PlV→Prop
 | some a,some b=>zaw a b=true
 | _,_=>False
theorem zlk (a b:Option PlV) (h:zjy a b) (k:zjy b a):False:=by
 cases a with
 | none=>exact h
 | some a=>
  cases b with
  | none=>exact h
  | some b=>exact zmK h k
theorem zoZ {l:List PlV} {i j:Nat} (h:zaY l i j=true):zjy l[i]? l[j]? :=by
 unfold zaY at h
 cases ha:l[i]? with
 | none=>rw [ha]at h;cases h
 | some x=>
  cases hb:l[j]? with
  | none=>rw [ha,hb]at h;cases h
  | some y=>rw [ha,hb]at h;exact h
def zax (l:List PlV) (id:IdV) (n:Nat):List PlV:=((l.take n).drop 2).filter (fun p=>decide (p.par=id))
theorem zcw (l:List PlV) (id:IdV) {n:Nat} (h:n≤2):zax l id n=[]:=by
 unfold zax
 rw [List.drop_eq_nil_of_le (by rw [List.length_take];omega)]
 rfl
theorem zgL (l:List PlV) (id:IdV) {n:Nat} (h2:2≤n) (hn:n<l.length):zax l id (n+1)=zax l id n++(if l[n].par=id then [l[n]] else []):=by
 unfold zax
 rw [List.take_succ_eq_append_getElem hn,List.drop_append_of_le_length (by rw [List.length_take];omega),List.filter_append]
 by_cases h:l[n].par=id
 ·rw [if_pos h];simp [h]
 ·rw [if_neg h];simp [h]
theorem ziz (l:List PlV) (id:IdV):∀n,n≤l.length→((List.range' 2 (n-2)).filter (zbU l id)).map (fun k=>l[k]?)=(zax l id n).map some
 | 0,_=>by rw [zcw l id (by omega)];rfl
 | n+1,hn=>by
  by_cases h2:2≤n
  ·rw [show n+1-2=(n-2)+1 by omega,List.range'_concat,List.filter_append,List.map_append,ziz l id n (by omega),zgL l id h2 (by omega),List.map_append,show 2+1*(n-2)=n by omega]
   congr 1
   have hp:l[n]? = some l[n]:=by simp [show n<l.length by omega]
   have hk:zbU l id n=decide (l[n].par=id):=by unfold zbU;rw [hp]
   by_cases h:l[n].par=id
   ·rw [if_pos h];simp [hk,h,hp]
   ·rw [if_neg h];simp [hk,h]
  ·rw [show n+1-2=0 by omega,zcw l id (by omega)]
   rfl
theorem zgP {l:List PlV} (hu:(l.map PlV.id).Nodup) (id:IdV) {ks:List PlV} (hp:ks.Perm (zax l id l.length)) (hs:∀i j (hi:i<ks.length) (hj:j<ks.length),i<j→zaw ks[j] ks[i]=false):ks.map some=(zao l id).map (fun k=>l[k]?):=by
 obtain⟨h1,h2⟩:=zfW hu id l.length (Nat.le_refl _)
 refine zix zlk ?_ ?_ ?_
 ·refine (hp.map some).trans ?_
  rw [←ziz l id l.length (Nat.le_refl _)]
  exact (h1.map _).symm
 ·have hnd:(ks.map PlV.id).Nodup:=by
   refine (List.Perm.nodup_iff (hp.map PlV.id)).2 ?_
   unfold zax
   rw [List.take_length]
   exact List.Nodup.sublist (List.Sublist.map _ ((List.filter_sublist).trans (List.drop_sublist _ _))) hu
  rw [List.pairwise_map]
  refine List.pairwise_iff_getElem.2 (fun i j hi hj hij=> ?_)
  have hne:ks[i].id≠ks[j].id:=by
   have:=(List.pairwise_iff_getElem.1 hnd) i j (by simpa using hi) (by simpa using hj) hij
   simpa using this
  rcases ziv hne with h | h
  ·exact h
  ·rw [hs i j hi hj hij]at h;cases h
 ·rw [List.pairwise_map]
  exact h2.imp (fun h=>zoZ h)
end Go.Proofs.YtlpnibbdmkeklaaGreatDoor
namespace Go.Proofs.YtlpnibbdmkeklaaGreatDoor
open Go.RowKit Go.Maps
set_option linter.unusedVariables false
set_option maxRecDepth 100000
def PlQ (w0 w:World) (C:List Value) (p:PlV) (F:List Nat):Prop:=RdPlC w0 C p∧F=[]
def PlsQ (w0 w:World) (v:Value) (l:List PlV) (F:List Nat):Prop:=OwElems w 117 9 v l (PlQ w0 w) F
theorem PlQ.frm {w0 w w':World} {C:List Value} {p:PlV} {F S:List Nat} (h:PlQ w0 w C p F) (f:Frm w w' S) (hd:∀g∈F,g∉S):PlQ w0 w' C p F:=h
theorem PlsQ.frm {w0 w w':World} {v:Value} {l:List PlV} {F S:List Nat} (h:PlsQ w0 w v l F) (f:Frm w w' S) (hd:∀g∈F,g∉S):PlsQ w0 w' v l F:=OwElems.frm h f hd (fun C x G hr hG=>hr)
theorem PlQ.lt {w0 w:World} {C:List Value} {p:PlV} {F:List Nat} (h:PlQ w0 w C p F):∀g∈F,g<w.heap.size:=fun g hg=>by rw [h.2]at hg;cases hg
theorem PlsQ.lt {w0 w:World} {v:Value} {l:List PlV} {F:List Nat} (h:PlsQ w0 w v l F):∀g∈F,g<w.heap.size:=OwElems.lt h (fun _ _ _ hr=>hr.lt)
theorem PlQ.typ {w0 w:World} {C:List Value} {p:PlV} {F:List Nat} (h:PlQ w0 w C p F):∀q∈F,CellT w q:=fun g hg=>by rw [h.2]at hg;cases hg
theorem PlsQ.typ {w0 w:World} {v:Value} {l:List PlV} {F:List Nat} (h:PlsQ w0 w v l F):∀q∈F,CellT w q:=zeE h (.inl rfl) (fun _ _ _ hr=>hr.typ)
structure FoQ (w0 w:World) (g mb:Nat) (a:Option Addr) (c:Nat) (l:List PlV) (F:List Nat):Prop where
 set:FSet (mb+1) (.slice a l.length c) (.map (some mb)) w g
 map:AtM w mb l
 row:PlsQ w0 w (.slice a l.length c) l F
 nd:F.Nodup
 ge:∀q∈F,w0.heap.size≤q
 geg:w0.heap.size≤g
 gem:w0.heap.size≤mb
 ids:∀p∈l,okI p.id∧okI p.par
 len:l.length≤100000
theorem FoQ.gF {w0:World} {w:World} {g mb:Nat} {a:Option Addr} {c:Nat} {l:List PlV} {F:List Nat} (h:FoQ w0 w g mb a c l F):g∉F:=fun hg=>by
 obtain⟨cs,hl,_⟩:=h.set.loc
 exact (PlsQ.typ h.row g hg).notL (by decide) hl
theorem FoQ.mF {w0:World} {w:World} {g mb:Nat} {a:Option Addr} {c:Nat} {l:List PlV} {F:List Nat} (h:FoQ w0 w g mb a c l F):mb∉F:=fun hg=>by
 obtain⟨es,k,e⟩:=h.map.isMap
 exact (PlsQ.typ h.row mb hg).notMap e
theorem FoQ.gm {w0:World} {w:World} {g mb:Nat} {a:Option Addr} {c:Nat} {l:List PlV} {F:List Nat} (h:FoQ w0 w g mb a c l F):g≠mb:=fun e=>by
 obtain⟨es,k,e'⟩:=h.map.isMap
 obtain⟨cs,hl,_⟩:=h.set.loc
 unfold Loc at hl
 rw [e,e']at hl
 cases hl
theorem FoQ.frm {w0:World} {w w':World} {g mb:Nat} {a:Option Addr} {c:Nat} {l:List PlV} {F S:List Nat} (h:FoQ w0 w g mb a c l F) (f:Frm w w' S) (hg:g∉S) (hm:mb∉S) (hF:∀q∈F,q∉S) (hS:∀q∈S,Cells w q):FoQ w0 w' g mb a c l F:=
 ⟨h.set.frm f hg (fun q hq=>.inr (hS q hq)),h.map.frm f hm,h.row.frm f hF,h.nd,h.ge,h.geg,h.gem,h.ids,h.len⟩
theorem FoQ.keep {w0:World} {w w':World} {g mb:Nat} {a:Option Addr} {c:Nat} {l:List PlV} {F:List Nat} (h:FoQ w0 w g mb a c l F) (hb:Below w.heap.size w w'):FoQ w0 w' g mb a c l F:=h.frm (Frm.ofBelow hb []) (by simp) (by simp) (fun _ _=>by simp) (fun q hq=>by cases hq)
theorem FoQ.box {w0:World} {w:World} {g mb:Nat} {a:Option Addr} {c:Nat} {l:List PlV} {F:List Nat} (h:FoQ w0 w g mb a c l F) {q:Nat} {cs:Array Value} {T:TypeId} (k:Loc w q cs T) (hT:T≠117∧T≠3∧T≠5∧T≠144) (hT':T≠112):q∉g::mb::F:=fun hq=>by
 rcases List.mem_cons.1 hq with rfl | hq
 ·obtain⟨cs',hl,_⟩:=h.set.loc
  unfold Loc at hl k
  rw [hl]at k
  injection k with k
  injection k with _ k
  exact hT' k.symm
 ·rcases List.mem_cons.1 hq with rfl | hq
  ·obtain⟨es,k',e'⟩:=h.map.isMap
   unfold Loc at k
   rw [e']at k
   cases k
  ·exact (PlsQ.typ h.row q hq).notL hT k
end Go.Proofs.YtlpnibbdmkeklaaGreatDoor
