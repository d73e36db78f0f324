/- Own texts joined: KdM, FqS, KdW, KdC, KdS, FqF, KdO, NdI, CloneI, ToT2, ToT3, Apart, CopyI, CopyL, L5rd, L5rk, KlS, L5ah. -/
import Derived.Test.YtlpnibbdmkeklaaGreatDoorJa
import Derived.Test.YtlpnibbdmkeklaaGreatDoorJb
import Derived.Test.YtlpnibbdmkeklaaGreatDoorJc
import Derived.Test.YtlpnibbdmkeklaaGreatDoorJd
import Derived.Test.YtlpnibbdmkeklaaGreatDoorJe
import Derived.Test.YtlpnibbdmkeklaaGreatDoorJf
import Derived.Test.YtlpnibbdmkeklaaGreatDoorJg
import Derived.Test.YtlpnibbdmkeklaaGreatDoorJh
import Derived.Shelf.SlSortCmp.WholeK
import Derived.Deep.RegionHeld3
import Derived.Shelf.SlSortCmp.NoneTotal
import Derived.Shelf.Lay
import Derived.Ground.SlsfProg
import Derived.Lib.BufferMore
import Derived.Deep.RegionLaw
import Derived.Test.YtlpnibbdmkeklaaGreatDoorChecked
import Derived.Deep.QuietTactic
import Derived.BigQuiet
namespace Go.Proofs.YtlpnibbdmkeklaaGreatDoor
set_option linter.unusedVariables false
def cmpP (p q:PlV):Int:=if cmpK p.key q.key=0 then ordI p.idN p.idR q.idN q.idR else cmpK p.key q.key
theorem zrI (p q:PlV):decide (cmpP p q<0)=zay p q:=by
 unfold cmpP zay
 by_cases h:cmpK p.key q.key=0
 ·rw [if_pos h,zlS]
  have e:=(zeJ _ _).1 h
  have k1:klB p.key q.key=false:=by rw [<-zgA,h];rfl
  have k2:klB q.key p.key=false:=by rw [<-zgA,<-e,(zeJ _ _).2 rfl];rfl
  rw [k1,k2]
  simp
 ·rw [if_neg h,zgA]
  have hne:p.key≠q.key:=fun e=>h ((zeJ _ _).2 e)
  have ht:=zed p.key q.key
  rw [decide_eq_false hne]at ht
  cases h1:klB p.key q.key with
  | true=>rfl
  | false=>
   rw [h1]at ht
   simp at ht
   rw [ht]
   rfl
theorem zpo {n r n' r':Int} (h:zan n r n' r'=false) (h':zan n' r' n r=false):n=n'∧r=r':=by
 unfold zan at *
 simp only [Bool.or_eq_false_iff,decide_eq_false_iff_not,Bool.and_eq_false_iff,beq_eq_false_iff_ne]at h h'
 omega
theorem znd {a b:PlV} (h:zay a b=false) (h':zay b a=false):a.key=b.key∧a.idN=b.idN∧a.idR=b.idR:=by
 unfold zay at h h'
 simp only [Bool.or_eq_false_iff,Bool.and_eq_false_iff,Bool.not_eq_false']at h h'
 have ht:=zed a.key b.key
 rw [h.1,h'.1]at ht
 have e:a.key=b.key:=by simpa using ht
 have l1:zan a.idN a.idR b.idN b.idR=false:=by
  rcases h.2 with k | k
  ·rw [h'.1]at k;cases k
  ·exact k
 have l2:zan b.idN b.idR a.idN a.idR=false:=by
  rcases h'.2 with k | k
  ·rw [h.1]at k;cases k
  ·exact k
 exact⟨e,zpo l1 l2⟩
theorem znm {a b c:PlV} (h:a.key=b.key∧a.idN=b.idN∧a.idR=b.idR):zay a c=zay b c∧zay c a=zay c b:=by
 unfold zay
 rw [h.1,h.2.1,h.2.2]
 exact⟨rfl,rfl⟩
theorem zkY {a b c:PlV} (h:zay a b=false) (k:zay b c=false):zay a c=false:=by
 cases hac:zay a c with
 | false=>rfl
 | true=>
  cases hcb:zay c b with
  | true=>rw [zdv hac hcb]at h;cases h
  | false=>rw [<-(znm (znd k hcb)).2,h]at hac;cases hac
def zjW:Option PlV->Option PlV->Prop
 | some a,some b=>zay a b=true
 | _,_=>False
theorem zlJ (a b:Option PlV) (h:zjW a b) (k:zjW b a):False:=by
 cases a with
 | none=>exact h
 | some a=>
  cases b with
  | none=>exact h
  | some b=>exact zmS h k
theorem zoJ {l:List PlV} {i j:Nat} (h:zba l i j=true):zjW l[i]? l[j]? :=by
 unfold zba at h
 cases ha:l[i]? with
 | none=>rw [ha]at h;cases h
 | some x=>
  cases hb:l[j]? with
  | none=>rw [ha,hb]at h;cases h
  | some y=>rw [ha,hb]at h;exact h
def zax (l:List PlV) (id:IdV) (n:Nat):List PlV:=((l.take n).drop 2).filter (fun p=>decide (p.par=id))
theorem zcx (l:List PlV) (id:IdV) {n:Nat} (h:n<=2):zax l id n=[]:=by
 unfold zax
 rw [List.drop_eq_nil_of_le (by rw [List.length_take];omega)]
 rfl
theorem zhe (l:List PlV) (id:IdV) {n:Nat} (h2:2<=n) (hn:n<l.length):zax l id (n+1)=zax l id n++(if l[n].par=id then [l[n]] else []):=by
 unfold zax
 rw [List.take_succ_eq_append_getElem hn,List.drop_append_of_le_length (by rw [List.length_take];omega),List.filter_append]
 by_cases h:l[n].par=id
 ·rw [if_pos h];simp [h]
 ·rw [if_neg h];simp [h]
theorem zjg (l:List PlV) (id:IdV):∀n,n<=l.length->((List.range' 2 (n-2)).filter (zbY l id)).map (fun k=>l[k]?)=(zax l id n).map some
 | 0,_=>by rw [zcx l id (by omega)];rfl
 | n+1,hn=>by
  by_cases h2:2<=n
  ·rw [show n+1-2=(n-2)+1 by omega,List.range'_concat,List.filter_append,List.map_append,zjg l id n (by omega),zhe l id h2 (by omega),List.map_append,show 2+1*(n-2)=n by omega]
   congr 1
   have hp:l[n]? = some l[n]:=by simp [show n<l.length by omega]
   have hk:zbY l id n=decide (l[n].par=id):=by unfold zbY;rw [hp]
   by_cases h:l[n].par=id
   ·rw [if_pos h];simp [hk,h,hp]
   ·rw [if_neg h];simp [hk,h]
  ·rw [show n+1-2=0 by omega,zcx l id (by omega)]
   rfl
theorem zgW {l:List PlV} (hu:(l.map PlV.id).Nodup) (id:IdV) {ks:List PlV} (hp:ks.Perm (zax l id l.length)) (hs:∀i j (hi:i<ks.length) (hj:j<ks.length),i<j->zay ks[j] ks[i]=false):ks.map some=(zao l id).map (fun k=>l[k]?):=by
 obtain⟨h1,h2⟩:=zgn hu id l.length (Nat.le_refl _)
 refine ziB zlJ ?_ ?_ ?_
 ·refine (hp.map some).trans ?_
  rw [<-zjg l id l.length (Nat.le_refl _)]
  exact (h1.map _).symm
 ·have hnd:(ks.map PlV.id).Nodup:=by
   refine (List.Perm.nodup_iff (hp.map PlV.id)).2 ?_
   unfold zax
   rw [List.take_length]
   exact List.Nodup.sublist (List.Sublist.map _ ((List.filter_sublist).trans (List.drop_sublist _ _))) hu
  rw [List.pairwise_map]
  refine List.pairwise_iff_getElem.2 (fun i j hi hj hij=> ?_)
  have hne:ks[i].id≠ks[j].id:=by
   have:=(List.pairwise_iff_getElem.1 hnd) i j (by simpa using hi) (by simpa using hj) hij
   simpa using this
  rcases ziJ hne with h | h
  ·exact h
  ·rw [hs i j hi hj hij]at h;cases h
 ·rw [List.pairwise_map]
  exact h2.imp (fun h=>zoJ h)
end Go.Proofs.YtlpnibbdmkeklaaGreatDoor
namespace Go.Proofs.YtlpnibbdmkeklaaGreatDoor
open Go.RowKit Go.Maps
set_option linter.unusedVariables false
set_option maxRecDepth 100000
def PlQ (w0 w:Xe) (C:Xd) (p:PlV) (F:Xb):Prop:=RdPlC w0 C p∧F=[]
def PlsQ (w0 w:Xe) (v:Xf) (l:List PlV) (F:Xb):Prop:=OwElems w 117 9 v l (PlQ w0 w) F
theorem PlQ.frm {w0 w w':Xe} {C:Xd} {p:PlV} {F S:Xb} (h:PlQ w0 w C p F) (f:Frm w w' S) (hd:∀g∈F,g∉S):PlQ w0 w' C p F:=h
theorem PlsQ.frm {w0 w w':Xe} {v:Xf} {l:List PlV} {F S:Xb} (h:PlsQ w0 w v l F) (f:Frm w w' S) (hd:∀g∈F,g∉S):PlsQ w0 w' v l F:=OwElems.frm h f hd (fun C x G hr hG=>hr)
theorem PlQ.lt {w0 w:Xe} {C:Xd} {p:PlV} {F:Xb} (h:PlQ w0 w C p F):∀g∈F,g<w.heap.size:=fun g hg=>by rw [h.2]at hg;cases hg
theorem PlsQ.lt {w0 w:Xe} {v:Xf} {l:List PlV} {F:Xb} (h:PlsQ w0 w v l F):∀g∈F,g<w.heap.size:=OwElems.lt h (fun _ _ _ hr=>hr.lt)
theorem PlQ.typ {w0 w:Xe} {C:Xd} {p:PlV} {F:Xb} (h:PlQ w0 w C p F):∀q∈F,CellT w q:=fun g hg=>by rw [h.2]at hg;cases hg
theorem PlsQ.typ {w0 w:Xe} {v:Xf} {l:List PlV} {F:Xb} (h:PlsQ w0 w v l F):∀q∈F,CellT w q:=zeK h (.inl rfl) (fun _ _ _ hr=>hr.typ)
structure FoQ0 (w0 w:Xe) (g mb:Nat) (a:Xc) (c:Nat) (l:List PlV) (F:Xb):Prop where
 set:FSet (mb+1) (.slice a l.length c) (.map (some mb)) w g
 row:PlsQ w0 w (.slice a l.length c) l F
 len:l.length<=100000
theorem FoQ0.keep {w0:Xe} {w w':Xe} {g mb:Nat} {a:Xc} {c:Nat} {l:List PlV} {F:Xb} (h:FoQ0 w0 w g mb a c l F) (hb:Below w.heap.size w w'):FoQ0 w0 w' g mb a c l F:=⟨h.set.frm (Frm.ofBelow hb []) (by simp) (fun q hq=>by cases hq),h.row.frm (Frm.ofBelow hb []) (fun _ _=>by simp),h.len⟩
structure FoQ (w0 w:Xe) (g mb:Nat) (a:Xc) (c:Nat) (l:List PlV) (F:Xb):Prop where
 set:FSet (mb+1) (.slice a l.length c) (.map (some mb)) w g
 map:AtM w mb l
 row:PlsQ w0 w (.slice a l.length c) l F
 nd:F.Nodup
 ge:∀q∈F,w0.heap.size<=q
 geg:w0.heap.size<=g
 gem:w0.heap.size<=mb
 ids:∀p∈l,okI p.id∧okI p.par
 len:l.length<=100000
theorem FoQ.q0 {w0:Xe} {w:Xe} {g mb:Nat} {a:Xc} {c:Nat} {l:List PlV} {F:Xb} (h:FoQ w0 w g mb a c l F):FoQ0 w0 w g mb a c l F:=⟨h.set,h.row,h.len⟩
theorem FoQ.gF {w0:Xe} {w:Xe} {g mb:Nat} {a:Xc} {c:Nat} {l:List PlV} {F:Xb} (h:FoQ w0 w g mb a c l F):g∉F:=fun hg=>by
 obtain⟨cs,hl,_⟩:=h.set.loc
 exact (PlsQ.typ h.row g hg).notL (by decide) hl
theorem FoQ.mF {w0:Xe} {w:Xe} {g mb:Nat} {a:Xc} {c:Nat} {l:List PlV} {F:Xb} (h:FoQ w0 w g mb a c l F):mb∉F:=fun hg=>by
 obtain⟨es,k,e⟩:=h.map.isMap
 exact (PlsQ.typ h.row mb hg).notMap e
theorem FoQ.gm {w0:Xe} {w:Xe} {g mb:Nat} {a:Xc} {c:Nat} {l:List PlV} {F:Xb} (h:FoQ w0 w g mb a c l F):g≠mb:=fun e=>by
 obtain⟨es,k,e'⟩:=h.map.isMap
 obtain⟨cs,hl,_⟩:=h.set.loc
 unfold Loc at hl
 rw [e,e']at hl
 cases hl
theorem FoQ.frm {w0:Xe} {w w':Xe} {g mb:Nat} {a:Xc} {c:Nat} {l:List PlV} {F S:Xb} (h:FoQ w0 w g mb a c l F) (f:Frm w w' S) (hg:g∉S) (hm:mb∉S) (hF:∀q∈F,q∉S) (hS:∀q∈S,Cells w q):FoQ w0 w' g mb a c l F:=
 ⟨h.set.frm f hg (fun q hq=>.inr (hS q hq)),h.map.frm f hm,h.row.frm f hF,h.nd,h.ge,h.geg,h.gem,h.ids,h.len⟩
theorem FoQ.keep {w0:Xe} {w w':Xe} {g mb:Nat} {a:Xc} {c:Nat} {l:List PlV} {F:Xb} (h:FoQ w0 w g mb a c l F) (hb:Below w.heap.size w w'):FoQ w0 w' g mb a c l F:=h.frm (Frm.ofBelow hb []) (by simp) (by simp) (fun _ _=>by simp) (fun q hq=>by cases hq)
theorem FoQ.box {w0:Xe} {w:Xe} {g mb:Nat} {a:Xc} {c:Nat} {l:List PlV} {F:Xb} (h:FoQ w0 w g mb a c l F) {q:Nat} {cs:Array Xf} {T:Xg} (k:Loc w q cs T) (hT:T≠117∧T≠3∧T≠5∧T≠144) (hT':T≠112):q∉g::mb::F:=fun hq=>by
 rcases List.mem_cons.1 hq with rfl | hq
 ·obtain⟨cs',hl,_⟩:=h.set.loc
  unfold Loc at hl k
  rw [hl]at k
  injection k with k
  injection k with _ k
  exact hT' k.symm
 ·rcases List.mem_cons.1 hq with rfl | hq
  ·obtain⟨es,k',e'⟩:=h.map.isMap
   unfold Loc at k
   rw [e']at k
   cases k
  ·exact (PlsQ.typ h.row q hq).notL hT k
end Go.Proofs.YtlpnibbdmkeklaaGreatDoor
namespace Go.Proofs.YtlpnibbdmkeklaaGreatDoor
open Go.RowKit
set_option linter.unusedVariables false
set_option maxRecDepth 100000
def KdE (w0:Xe):Type:={x:PlV×Xd // RdPlC w0 x.2 x.1}
def KdE.mk {w0:Xe} (p:PlV) (C:Xd) (h:RdPlC w0 C p):KdE w0:=⟨(p,C),h⟩
def KdE.enc {w0:Xe} (x:KdE w0):Xd:=x.1.2
def KdE.pl {w0:Xe} (x:KdE w0):PlV:=x.1.1
theorem RdPlC.nine {w:Xe} {C:Xd} {p:PlV} (h:RdPlC w C p):C.length=9:=by
 obtain⟨k,n,t,a,rfl,_⟩:=h
 rfl
theorem RdPlC.ones {w:Xe} {C:Xd} {p:PlV} (h:RdPlC w C p):∀v∈C,v.oneCell'=true:=by
 obtain⟨k,n,t,a,rfl,h1,h2,h3,h4⟩:=h
 obtain⟨a1,c1,rfl,_,_⟩:=h1.shape
 obtain⟨a2,c2,rfl,_,_⟩:=h2.shape
 obtain⟨a3,c3,rfl,_,_⟩:=h3.shape
 obtain⟨a4,c4,rfl,_,_⟩:=Elems.shape h4
 intro v hv
 simp only [List.mem_cons,List.not_mem_nil,or_false]at hv
 rcases hv with rfl | rfl | rfl | rfl | rfl | rfl | rfl | rfl | rfl<;>rfl
theorem KdE.nine {w0:Xe} (x:KdE w0):x.enc.length=9:=x.2.nine
def cmpE {w0:Xe} (x y:KdE w0):Int:=cmpP x.pl y.pl
theorem ltE {w0:Xe} (x y:KdE w0):ltOf cmpE x y=zay x.pl y.pl:=zrI _ _
theorem swoE (w0:Xe):Go.Sort.SWO (ltOf (cmpE (w0:=w0))) where
 irrefl x:=by rw [ltE];exact zji _
 trans x y z h1 h2:=by rw [ltE]at *;exact zdv h1 h2
 ntrans x y z h1 h2:=by rw [ltE]at *;exact zkY h1 h2
theorem zjl {w0 w:Xe} [Inhabited (KdE w0)] {g m:Nat} (d:Array (KdE w0)) (os:Array Obj):Frm w (sortWorldK KdE.enc 9 w g 0 m d os) [g]:=by
 refine⟨rfl,rfl,rfl,size_sortWorldK_c _ _ _ _ _ _ _ _,fun i hi hn=> ?_⟩
 have hig:g≠i:=fun e=>hn (by rw [e];simp)
 unfold sortWorldK Go.Sort.grow
 have hsz:i<(Go.Sort.putRowK (KdE.enc (w0:=w0)) 9 (Go.Sort.ahead w m) g 0 d).heap.size:=by rw [Go.Sort.size_putRowK];exact hi
 show ((Go.Sort.putRowK KdE.enc 9 (Go.Sort.ahead w m) g 0 d).heap++os)[i]? = _
 rw [Array.getElem?_append_left hsz]
 simp [Go.Sort.putRowK,Go.Sort.putRow,Go.Sort.mapBlock,Go.Sort.ahead,Array.getElem?_modify,hig]
theorem znx {w0:Xe} [Inhabited (KdE w0)] (d:Array (KdE w0)):(Go.Sort.flatK KdE.enc 9 d).toList=(d.toList.map KdE.enc).flatten:=by
 have hC:∀i,i<(d.toList.map KdE.enc).length->((d.toList.map (KdE.enc (w0:=w0))).getD i []).length=9:=fun i hi=>by
  have hi':i<d.size:=by simpa using hi
  simp [hi',KdE.nine]
 have hl:∀L:List (Xd),(∀i,i<L.length->(L.getD i []).length=9)->L.flatten.length=L.length*9:=by
  intro L
  induction L with
  | nil=>intro _;rfl
  | cons a L ih=>
   intro h
   have h0:=h 0 (by simp)
   simp only [List.getD_cons_zero]at h0
   rw [List.flatten_cons,List.length_append,h0,ih (fun i hi=>by have:=h (i+1) (by simpa using hi);simpa using this),List.length_cons]
   omega
 apply List.ext_getElem?
 intro t
 by_cases ht:t<d.size*9
 ·have h9:t / 9<d.size:=by omega
  have e:=zif (d.toList.map KdE.enc) 9 hC (t / 9) (t % 9) (by simpa using h9) (by omega)
  rw [show t / 9*9+t % 9=t by omega]at e
  rw [e]
  have hg:=Go.Sort.get_flatK (KdE.enc (w0:=w0)) 9 d t ht
  have hs:t<(Go.Sort.flatK (KdE.enc (w0:=w0)) 9 d).size:=by rw [Go.Sort.size_flatK];exact ht
  rw [Array.getElem?_toList,Array.getElem?_eq_getElem hs]
  rw [getElem!_pos _ t hs]at hg
  rw [hg]
  have hn:=KdE.nine d[t / 9]
  have hm:t % 9<d[t / 9].enc.length:=by rw [hn];omega
  simp [h9,getElem!_pos,hm]
 ·rw [List.getElem?_eq_none (by simp;omega),List.getElem?_eq_none (by rw [hl _ hC];simp;omega)]
theorem zjw {w0 w:Xe} [Inhabited (KdE w0)] {e:Xg} {g n cap m:Nat} {xs:Xd} (h:w.ownsRow 0 e 9 (.slice (some ⟨g,0,none⟩) n cap) n xs) (d:Array (KdE w0)) (hd:d.size=n) (os:Array Obj) :
  (sortWorldK KdE.enc 9 w g 0 m d os).ownsRow 0 e 9 (.slice (some ⟨g,0,none⟩) n cap) n (d.toList.map KdE.enc).flatten:=by
 rcases h.2 with ⟨e0,_⟩ | ⟨g',cap',cur,e0,hb,hg,hn,hm,hs,ht⟩
 ·cases e0
 ·injection e0 with e1 _ e3
  injection e1 with e1
  injection e1 with e1
  subst e1;subst e3
  have hlt:g<w.heap.size:=by
   rcases Nat.lt_or_ge g w.heap.size with h' | h'
   ·exact h'
   ·rw [Array.getElem?_eq_none h']at hg;cases hg
  refine⟨by rw [<-znx];simp [hd],.inr ⟨g,cap,Go.Sort.putCells id 0 (Go.Sort.flatK KdE.enc 9 d) cur,rfl,hb,?_,by omega,hm,by simpa [Go.Sort.putCells]using hs,?_⟩⟩
  ·unfold sortWorldK Go.Sort.grow
   have hsz:g<(Go.Sort.putRowK (KdE.enc (w0:=w0)) 9 (Go.Sort.ahead w m) g 0 d).heap.size:=by rw [Go.Sort.size_putRowK];exact hlt
   show ((Go.Sort.putRowK KdE.enc 9 (Go.Sort.ahead w m) g 0 d).heap++os)[g]? = _
   rw [Array.getElem?_append_left hsz]
   simp [Go.Sort.putRowK,Go.Sort.putRow,Go.Sort.mapBlock,Go.Sort.ahead,Array.getElem?_modify,hg,Go.Sort.onCells]
  ·rw [<-znx]
   apply List.ext_getElem?
   intro j
   have hcap:n*9<=cap*9:=Nat.mul_le_mul_right 9 hn
   rw [List.getElem?_take,Array.getElem?_toList,Array.getElem?_toList]
   by_cases hj:j<n*9
   ·have hjc:j<cur.size:=by omega
    have hjf:j<(Go.Sort.flatK (KdE.enc (w0:=w0)) 9 d).size:=by rw [Go.Sort.size_flatK,hd];exact hj
    rw [if_pos hj]
    simp only [Go.Sort.putCells,Array.getElem?_mapIdx,Array.getElem?_eq_getElem hjc,Option.map_some,Nat.zero_add,Nat.sub_zero,id]
    rw [if_pos ⟨Nat.zero_le _,hjf⟩,getElem!_pos _ j hjf,Array.getElem?_eq_getElem hjf]
   ·rw [if_neg hj,Array.getElem?_eq_none (by rw [Go.Sort.size_flatK,hd];omega)]
theorem PlsQ.row {w0 w:Xe} {g c:Nat} {l:List PlV} {F:Xb} (h:PlsQ w0 w (.slice (some ⟨g,0,none⟩) l.length c) l F):∃d:List (KdE w0),d.map KdE.pl=l∧w.ownsRow 0 117 9 (.slice (some ⟨g,0,none⟩) l.length c) l.length (d.map KdE.enc).flatten∧F=[g]:=by
 obtain⟨Cs,Fs,h1,h2,h3,h4,h5⟩:=h
 have hF:Fs.flatten=[]:=by
  rw [List.flatten_eq_nil_iff]
  intro G hG
  obtain⟨i,hi,rfl⟩:=List.getElem_of_mem hG
  have:=(h3 i (by omega)).2.2
  simpa [hi]using this
 have hC:∀i (hi:i<l.length),RdPlC w0 (Cs.getD i []) l[i]:=fun i hi=>(h3 i hi).2.1
 refine⟨List.ofFn (fun i:Fin l.length=>KdE.mk l[i.1] (Cs.getD i.1 []) (hC i.1 i.2)),?_,?_,by rw [h5,hF];rfl⟩
 ·apply List.ext_getElem
  ·rw [List.length_map,List.length_ofFn]
  ·intro i hi hi'
   rw [List.getElem_map,List.getElem_ofFn]
   rfl
 ·have e:(List.ofFn (fun i:Fin l.length=>KdE.mk l[i.1] (Cs.getD i.1 []) (hC i.1 i.2))).map KdE.enc=Cs:=by
   apply List.ext_getElem
   ·rw [List.length_map,List.length_ofFn,h1]
   ·intro i hi hi'
    rw [List.getElem_map,List.getElem_ofFn]
    show Cs.getD i []=_
    simp [hi']
  rw [e]
  exact h4
theorem zrd {w0 w:Xe} {g c:Nat} {d:List (KdE w0)} (h:w.ownsRow 0 117 9 (.slice (some ⟨g,0,none⟩) d.length c) d.length (d.map KdE.enc).flatten):PlsQ w0 w (.slice (some ⟨g,0,none⟩) (d.map KdE.pl).length c) (d.map KdE.pl) [g]:=by
 refine⟨d.map KdE.enc,List.replicate d.length [],by simp,by simp,fun i hi=> ?_,by simpa using h,?_⟩
 ·have hi':i<d.length:=by simpa using hi
  have hr:(List.replicate d.length ([]:Xb)).getD i []=[]:=by simp [hi']
  rw [hr]
  have hc:(d.map KdE.enc).getD i []=d[i].enc:=by simp [hi']
  rw [hc]
  refine⟨KdE.nine _,?_,rfl⟩
  simp only [List.getElem_map]
  exact d[i].2
 ·simp [FB,Value.ownBlock]
theorem PlsQ.holds {w0 w:Xe} [Inhabited (KdE w0)] {g c n:Nat} {d:List (KdE w0)} {e:Xg} (h:w.ownsRow 0 e 9 (.slice (some ⟨g,0,none⟩) n c) n (d.map KdE.enc).flatten) (hn:d.length=n):Go.Sort.HoldsK KdE.enc 9 w g 0 d.toArray:=by
 intro j hj
 rw [Go.Sort.size_flatK]at hj
 have hj':j<n*9:=by simpa [hn]using hj
 refine⟨?_,?_⟩
 ·rw [Nat.zero_add,h.cellAt j hj',show (d.map (KdE.enc (w0:=w0)))=(d.toArray.toList.map KdE.enc) from rfl,<-znx]
  have hs:j<(Go.Sort.flatK (KdE.enc (w0:=w0)) 9 d.toArray).size:=by rw [Go.Sort.size_flatK];exact hj
  rw [Array.getElem?_toList,Array.getElem?_eq_getElem hs,getElem!_pos _ j hs]
  rfl
 ·rw [Nat.zero_add]
  exact h.frozenAt j
def Gw (w w':Xe):Prop:=∃n os,w'=Go.Sort.grow (w.drewN n) os
theorem Gw.refl (w:Xe):Gw w w:=⟨0,#[],by rw [Go.Sort.grow_empty];rfl⟩
theorem Gw.alloc {w w':Xe} (h:Gw w w') (o:Obj):Gw w (w'.alloc o):=by
 obtain⟨n,os,rfl⟩:=h
 exact⟨n,os ++ #[o],by rw [Go.Sort.alloc_eq_grow,Go.Sort.grow_grow]⟩
theorem Gw.drew {w w':Xe} (h:Gw w w'):Gw w w'.drew:=by
 obtain⟨n,os,rfl⟩:=h
 exact⟨n+1,os,rfl⟩
set_option maxHeartbeats 3200000 in
theorem znz (w:Xe) (p q:PlV) (k1 n1 t1 a1 k2 n2 t2 a2:Xc) (ck1 cn1 ct1 ca1 ck2 cn2 ct2 ca2:Nat) (h1:Ints w (.slice k1 p.key.length ck1) p.key) (h2:Ints w (.slice k2 q.key.length ck2) q.key) :
  Calls Tryz.prog 128 #[.agg #[.int .i64 p.idN,.int .i64 p.idR,.int .i64 p.parN,.int .i64 p.parR,.slice k1 p.key.length ck1,.int .i64 p.kind,.slice n1 p.name.length cn1,.slice t1 p.text.length ct1,.slice a1 p.attrs.length ca1],.agg #[.int .i64 q.idN,.int .i64 q.idR,.int .i64 q.parN,.int .i64 q.parR,.slice k2 q.key.length ck2,.int .i64 q.kind,.slice n2 q.name.length cn2,.slice t2 q.text.length ct2,.slice a2 q.attrs.length ca2]] w fun e w'=>e=.returned (.int .i64 (cmpP p q))∧Gw w w':=by
 refine zaf ?_
 intro Q HQ
 have hA:Below w.heap.size w ((w.alloc (.cells #[.int .i64 p.idN,.int .i64 p.idR,.int .i64 p.parN,.int .i64 p.parR,.slice k1 p.key.length ck1,.int .i64 p.kind,.slice n1 p.name.length cn1,.slice t1 p.text.length ct1,.slice a1 p.attrs.length ca1] 117)).alloc (.cells #[.int .i64 q.idN,.int .i64 q.idR,.int .i64 q.parN,.int .i64 q.parR,.slice k2 q.key.length ck2,.int .i64 q.kind,.slice n2 q.name.length cn2,.slice t2 q.text.length ct2,.slice a2 q.attrs.length ca2] 117)):=zad ((Below.refl _ _).alloc (Nat.le_refl _) _) ((Below.refl _ _).alloc (Nat.le_refl _) _)
 have l0:=(Loc.made w #[.int .i64 p.idN,.int .i64 p.idR,.int .i64 p.parN,.int .i64 p.parR,.slice k1 p.key.length ck1,.int .i64 p.kind,.slice n1 p.name.length cn1,.slice t1 p.text.length ct1,.slice a1 p.attrs.length ca1] 117).alloc (.cells #[.int .i64 q.idN,.int .i64 q.idR,.int .i64 q.parN,.int .i64 q.parR,.slice k2 q.key.length ck2,.int .i64 q.kind,.slice n2 q.name.length cn2,.slice t2 q.text.length ct2,.slice a2 q.attrs.length ca2] 117)
 have l1:=Loc.made (w.alloc (.cells #[.int .i64 p.idN,.int .i64 p.idR,.int .i64 p.parN,.int .i64 p.parR,.slice k1 p.key.length ck1,.int .i64 p.kind,.slice n1 p.name.length cn1,.slice t1 p.text.length ct1,.slice a1 p.attrs.length ca1] 117)) #[.int .i64 q.idN,.int .i64 q.idR,.int .i64 q.parN,.int .i64 q.parR,.slice k2 q.key.length ck2,.int .i64 q.kind,.slice n2 q.name.length cn2,.slice t2 q.text.length ct2,.slice a2 q.attrs.length ca2] 117
 simp only [World.size_alloc]at l1
 have HK:=hide (fun W (hW:Below w.heap.size w W)=>zpX W _ _ p.key q.key (h1.keep hW) (h2.keep hW))
 have hv:cmpP p q=if cmpK p.key q.key=0 then ordI p.idN p.idR q.idN q.idR else cmpK p.key q.key:=rfl
 rw [hv]at HQ
 have hG:Gw w ((w.alloc (.cells #[.int .i64 p.idN,.int .i64 p.idR,.int .i64 p.parN,.int .i64 p.parR,.slice k1 p.key.length ck1,.int .i64 p.kind,.slice n1 p.name.length cn1,.slice t1 p.text.length ct1,.slice a1 p.attrs.length ca1] 117)).alloc (.cells #[.int .i64 q.idN,.int .i64 q.idR,.int .i64 q.parN,.int .i64 q.parR,.slice k2 q.key.length ck2,.int .i64 q.kind,.slice n2 q.name.length cn2,.slice t2 q.text.length ct2,.slice a2 q.attrs.length ca2] 117)):=((Gw.refl w).alloc _).alloc _
 have HA:=hide (And.intro hA (And.intro hG (And.intro l0 l1)))
 clear h1 h2 hA l0 l1 hv hG
 generalize cmpK p.key q.key=z at *
 have HO:=hide (fun W b c c0 c1=>zof W b c z (ordI p.idN p.idR q.idN q.idR) c0 c1)
 generalize (if z=0 then ordI p.idN p.idR q.idN q.idR else z)=r at *
 go_enter Tryz.func128,Tryz.ntmps128
 go_wp2_with fail
 obtain⟨hA,hG,l0,l1⟩:=zaa HA
 clear HA
 generalize ((w.alloc (.cells #[.int .i64 p.idN,.int .i64 p.idR,.int .i64 p.parN,.int .i64 p.parR,.slice k1 p.key.length ck1,.int .i64 p.kind,.slice n1 p.name.length cn1,.slice t1 p.text.length ct1,.slice a1 p.attrs.length ca1] 117)).alloc (.cells #[.int .i64 q.idN,.int .i64 q.idR,.int .i64 q.parN,.int .i64 q.parR,.slice k2 q.key.length ck2,.int .i64 q.kind,.slice n2 q.name.length cn2,.slice t2 q.text.length ct2,.slice a2 q.attrs.length ca2] 117))=w1 at *
 have x0:=l0.cell 0
 have x1:=l0.cell 1
 have x4:=l0.cell 4
 have y0:=l1.cell 0
 have y1:=l1.cell 1
 have y4:=l1.cell 4
 simp at x0 x1 x4 y0 y1 y4
 have HG:=hide (And.intro hA hG)
 have hlt0:=l0.lt
 have hlt1:=l1.lt
 clear hA hG l0 l1
 have hi:∀(W:Xe),Below w1.heap.size w1 W->Gw w W->Calls Tryz.prog 117 #[.agg #[.int .i64 p.idN,.int .i64 p.idR],.agg #[.int .i64 q.idN,.int .i64 q.idR]] W fun e w'=>e=.returned (.int .i64 (ordI p.idN p.idR q.idN q.idR))∧Below w1.heap.size w1 w'∧Gw w w':=fun W hW gW=>
  (zkS W p.idN p.idR q.idN q.idR).mono fun e w' ⟨h1,h2⟩=>⟨h1,by rw [h2];exact (hW.alloc hW.size _).alloc (by have:=hW.size;simp;omega) _,by rw [h2];exact (gW.alloc _).alloc _⟩
 have HI:=hide hi
 clear hi
 go_region_held3 (fun w'=>w'.cell? ⟨w.heap.size,0,none⟩=some (.int .i64 p.idN)∧w'.cell? ⟨w.heap.size,1,none⟩=some (.int .i64 p.idR)∧w'.cell? ⟨w.heap.size,4,none⟩=some (.slice k1 p.key.length ck1)∧w'.cell? ⟨w.heap.size+1,0,none⟩=some (.int .i64 q.idN)∧w'.cell? ⟨w.heap.size+1,1,none⟩=some (.int .i64 q.idR)∧w'.cell? ⟨w.heap.size+1,4,none⟩=some (.slice k2 q.key.length ck2))
  (first | exact⟨by assumption,by assumption,by assumption,by assumption,by assumption,by assumption⟩ | exact⟨by simp [*],by simp [*],by simp [*],by simp [*],by simp [*],by simp [*]⟩ | exact⟨(World.cell?_alloc_lt _ _ _ (by assumption)).trans (by assumption),(World.cell?_alloc_lt _ _ _ (by assumption)).trans (by assumption),(World.cell?_alloc_lt _ _ _ (by assumption)).trans (by assumption),(World.cell?_alloc_lt _ _ _ (by assumption)).trans (by assumption),(World.cell?_alloc_lt _ _ _ (by assumption)).trans (by assumption),(World.cell?_alloc_lt _ _ _ (by assumption)).trans (by assumption)⟩)
  (first
   | (go_at_call 130;refine (zaa HK _ ((zaa HG).1.drew)).mono ?_;rintro e w2 ⟨rfl,rfl⟩)
   | (go_at_call 117;refine (zaa HI _ ((Below.refl _ _).drew) ((zaa HG).2.drew)).mono ?_;rintro e w3 ⟨rfl,hE,gE⟩;have hw0:=Nat.lt_of_lt_of_le hlt0 hE.size;have hw1:=Nat.lt_of_lt_of_le hlt1 hE.size;have z0:=(hE.cell hlt0).trans x0;have z1:=(hE.cell hlt0).trans x1;have z4:=(hE.cell hlt0).trans x4;have u0:=(hE.cell hlt1).trans y0;have u1:=(hE.cell hlt1).trans y1;have u4:=(hE.cell hlt1).trans y4)
   | (go_at_call 129;refine (zaa HO _ _ _ (World.cell?_alloc_new _ _ _ _) (World.cell?_alloc_new _ _ _ _)).mono ?_;rintro e w4 ⟨rfl,rfl⟩))
 go_wp2_with fail
 exact zaa HQ _ _ ⟨rfl,gE.alloc _⟩
def Tryz.sortPl_ren : Go.Shelf.Ren := ⟨fun | 6 => 127 | 15 => 145 | 14 => 144 | 28 => 162 | 29 => 163 | 20 => 154 | 21 => 155 | 22 => 156 | 23 => 157 | 24 => 158 | 25 => 159 | 26 => 160 | 27 => 161 | 46 => 171 | 47 => 172 | 48 => 173 | 49 => 174 | 50 => 175 | 57 => 185 | n => n, fun | 22 => 56 | 24 => 117 | 25 => 180 | 3 => 3 | 39 => 193 | 0 => 0 | 53 => 99 | 55 => 209 | 4 => 4 | 46 => 202 | 45 => 201 | 50 => 151 | 5 => 5 | 9 => 9 | 66 => 215 | 70 => 125 | 76 => 227 | 77 => 228 | n => n, fun | n => n⟩
theorem Tryz.sortPl : Go.Proofs.SlLaysF0.n6 Tryz.prog Tryz.sortPl_ren := {
  mixed := by kernel_rfl
  f6 := ⟨Tryz.f127.name, by decide, Tryz.func127.trans (congrArg some (by kernel_rfl))⟩
  f14 := ⟨Tryz.f144.name, by decide, Tryz.func144.trans (congrArg some (by kernel_rfl))⟩
  f15 := Tryz.func145.trans (congrArg some (by kernel_rfl))
  f20 := ⟨Tryz.f154.name, by decide, Tryz.func154.trans (congrArg some (by kernel_rfl))⟩
  f21 := ⟨Tryz.f155.name, by decide, Tryz.func155.trans (congrArg some (by kernel_rfl))⟩
  f22 := ⟨Tryz.f156.name, by decide, Tryz.func156.trans (congrArg some (by kernel_rfl))⟩
  f23 := ⟨Tryz.f157.name, by decide, Tryz.func157.trans (congrArg some (by kernel_rfl))⟩
  f24 := ⟨Tryz.f158.name, by decide, Tryz.func158.trans (congrArg some (by kernel_rfl))⟩
  f25 := ⟨Tryz.f159.name, by decide, Tryz.func159.trans (congrArg some (by kernel_rfl))⟩
  f26 := ⟨Tryz.f160.name, by decide, Tryz.func160.trans (congrArg some (by kernel_rfl))⟩
  f27 := ⟨Tryz.f161.name, by decide, Tryz.func161.trans (congrArg some (by kernel_rfl))⟩
  f28 := Tryz.func162.trans (congrArg some (by kernel_rfl))
  f29 := Tryz.func163.trans (congrArg some (by kernel_rfl))
  f46 := ⟨Tryz.f171.name, by decide, Tryz.func171.trans (congrArg some (by kernel_rfl))⟩
  f47 := Tryz.func172.trans (congrArg some (by kernel_rfl))
  f48 := Tryz.func173.trans (congrArg some (by kernel_rfl))
  f49 := ⟨Tryz.f174.name, by decide, Tryz.func174.trans (congrArg some (by kernel_rfl))⟩
  f50 := ⟨Tryz.f175.name, by decide, Tryz.func175.trans (congrArg some (by kernel_rfl))⟩
  f57 := ⟨Tryz.f185.name, by decide, Tryz.func185.trans (congrArg some (by kernel_rfl))⟩
  t0 := Tryz.underlying0
  a0 := Tryz.isAgg0
  z0 := Tryz.sizeOf0
  v0 := Tryz.zeroValue0
  t3 := Tryz.underlying3
  a3 := Tryz.isAgg3
  z3 := Tryz.sizeOf3
  v3 := Tryz.zeroValue3
  t4 := Tryz.underlying4
  a4 := Tryz.isAgg4
  z4 := Tryz.sizeOf4
  v4 := Tryz.zeroValue4
  t5 := Tryz.underlying5
  a5 := Tryz.isAgg5
  z5 := Tryz.sizeOf5
  v5 := Tryz.zeroValue5
  t9 := Tryz.underlying9
  a9 := Tryz.isAgg9
  z9 := Tryz.sizeOf9
  v9 := Tryz.zeroValue9
  t22 := Tryz.underlying56
  a22 := Tryz.isAgg56
  z22 := Tryz.sizeOf56
  v22 := Tryz.zeroValue56
  t25 := Tryz.underlying180
  a25 := Tryz.isAgg180
  z25 := Tryz.sizeOf180
  v25 := Tryz.zeroValue180
  t39 := Tryz.underlying193
  a39 := Tryz.isAgg193
  z39 := Tryz.sizeOf193
  v39 := Tryz.zeroValue193
  t45 := Tryz.underlying201
  a45 := Tryz.isAgg201
  z45 := Tryz.sizeOf201
  v45 := Tryz.zeroValue201
  t46 := Tryz.underlying202
  a46 := Tryz.isAgg202
  z46 := Tryz.sizeOf202
  v46 := Tryz.zeroValue202
  t50 := Tryz.underlying151
  a50 := Tryz.isAgg151
  z50 := Tryz.sizeOf151
  v50 := Tryz.zeroValue151
  t53 := Tryz.underlying99
  a53 := Tryz.isAgg99
  z53 := Tryz.sizeOf99
  v53 := Tryz.zeroValue99
  t55 := Tryz.underlying209
  a55 := Tryz.isAgg209
  z55 := Tryz.sizeOf209
  v55 := Tryz.zeroValue209
  t66 := Tryz.underlying215
  a66 := Tryz.isAgg215
  z66 := Tryz.sizeOf215
  v66 := Tryz.zeroValue215
  t70 := Tryz.underlying125
  a70 := Tryz.isAgg125
  z70 := Tryz.sizeOf125
  v70 := Tryz.zeroValue125
  t76 := Tryz.underlying227
  a76 := Tryz.isAgg227
  z76 := Tryz.sizeOf227
  v76 := Tryz.zeroValue227
  t77 := Tryz.underlying228
  a77 := Tryz.isAgg228
  z77 := Tryz.sizeOf228
  v77 := Tryz.zeroValue228 }
theorem zoY {w0 w:Xe} [Inhabited (KdE w0)] (hB0:Below w0.heap.size w0 w) (g n:Nat) (hg:w0.heap.size<=g):CmpLays Tryz.prog 128 #[] (KdE.enc (w0:=w0)) 9 cmpE g 0 n w:=by
 intro m os dk hdk x y
 have hW:Below w0.heap.size w0 (sortWorldK KdE.enc 9 w g 0 m dk os):=hB0.trans ((zjl dk os).below hB0.size (fun i hi=>by simp at hi;omega))
 obtain⟨⟨p,C⟩,hp⟩:=x
 obtain⟨⟨q,D⟩,hq⟩:=y
 obtain⟨k,n,t,a,e1,h1,h2,h3,h4⟩:=hp
 obtain⟨k',n',t',a',e2,h1',h2',h3',h4'⟩:=hq
 dsimp only at e1 e2 h1 h2 h3 h4 h1' h2' h3' h4'
 subst e1
 subst e2
 obtain⟨a1,c1,rfl,_,_⟩:=h1.shape
 obtain⟨a2,c2,rfl,_,_⟩:=h2.shape
 obtain⟨a3,c3,rfl,_,_⟩:=h3.shape
 obtain⟨a4,c4,rfl,_,_⟩:=Elems.shape h4
 obtain⟨b1,f1,rfl,_,_⟩:=h1'.shape
 obtain⟨b2,f2,rfl,_,_⟩:=h2'.shape
 obtain⟨b3,f3,rfl,_,_⟩:=h3'.shape
 obtain⟨b4,f4,rfl,_,_⟩:=Elems.shape h4'
 exact znz _ p q a1 a2 a3 a4 b1 b2 b3 b4 c1 c2 c3 c4 f1 f2 f3 f4 (h1.keep hW) (h1'.keep hW)
set_option maxHeartbeats 1600000 in
theorem zmE (w0 w:Xe) (g c:Nat) (ks:List PlV) (F:Xb) (h:PlsQ w0 w (.slice (some ⟨g,0,none⟩) ks.length c) ks F) (hn:ks≠[]) (hl:ks.length<=100000) (hB0:Below w0.heap.size w0 w) (hg:w0.heap.size<=g) :
  Calls Tryz.prog 127 #[.slice (some ⟨g,0,none⟩) ks.length c,.func (.func 128) #[] #[]] w fun e w'=>e=.returned (.tuple #[])∧∃ks':List PlV,ks'.Perm ks∧(∀i j (hi:i<ks'.length) (hj:j<ks'.length),i<j->zay ks'[j] ks'[i]=false)∧PlsQ w0 w' (.slice (some ⟨g,0,none⟩) ks'.length c) ks' [g]∧Frm w w' [g]:=by
 have hlen9:=OwElems.len h
 obtain⟨d,hd,hrow,rfl⟩:=h.row
 have hlen:d.length=ks.length:=by rw [<-hd];simp
 have hne:d≠[]:=fun e=>hn (by rw [<-hd,e];rfl)
 haveI:Inhabited (KdE w0):=⟨d.head hne⟩
 have hH:=PlsQ.holds hrow hlen
 have hblk:g<w.heap.size:=(hrow.lt g rfl).2
 have eg:∀args w,(callFunc 128 args).run Tryz.prog w=.ok (.enter 128 args) w:=enters_of Tryz.func128 (by kernel_rfl) rfl
 have hcon:=AnyQ.slices_SortFunc Tryz.sortPl 9 Tryz.isAgg117 Tryz.sizeOf117 KdE.enc KdE.nine (fun x=>x.2.ones) cmpE (swoE w0) 128 #[] g 0 c d.toArray w eg (zoY hB0 g _ hg) hH hblk (by simp;omega)
 change Calls Tryz.prog 127 _ _ _ at hcon
 rw [show d.toArray.size=ks.length by simpa using hlen]at hcon
 refine hcon.mono ?_
 rintro e w' ⟨rfl,d',n,os,hp,hs,rfl⟩
 have hds:d'.size=ks.length:=by rw [hp.1];simpa using hlen
 have hperm:d'.toList.Perm d:=by
  have:=hp.2.2
  rw [<-hds]at this
  have e1:d'.extract 0 d'.size=d':=by simp
  have e2:d.toArray.extract 0 d'.size=d.toArray:=by rw [show d'.size=d.toArray.size from hp.1];simp
  rw [e1,e2]at this
  simpa using this
 refine⟨rfl,d'.toList.map KdE.pl,?_,?_,?_,zjl d' os⟩
 ·rw [<-hd]
  exact hperm.map _
 ·intro i j hi hj hij
  have hi':i<d'.size:=by simpa using hi
  have hj':j<d'.size:=by simpa using hj
  have:=hs i j (Nat.zero_le _) hij (by omega)
  rw [ltE,getElem!_pos d' j hj',getElem!_pos d' i hi']at this
  simpa using this
 ·have:=zrd (w:=sortWorldK KdE.enc 9 w g 0 n d' os) (g:=g) (c:=c) (d:=d'.toList) (by
   rw [show d'.toList.length=ks.length by simpa using hds]
   exact zjw hrow d' hds os)
  exact this
theorem zgK (w:Xe) (a:Xc) (c:Nat) :
  Calls Tryz.prog 127 #[.slice a 0 c,.func (.func 128) #[] #[]] w fun e w'=>e=.returned (.tuple #[])∧w'=w:=
 AnyF.slices_SortFunc_none Tryz.sortPl a c _ w
end Go.Proofs.YtlpnibbdmkeklaaGreatDoor
namespace Go.Proofs.YtlpnibbdmkeklaaGreatDoor
open Go.RowKit Go.Maps
set_option linter.unusedVariables false
set_option maxRecDepth 100000
theorem FoQ.at {w0:Xe} {w:Xe} {g mb:Nat} {a:Xc} {c:Nat} {l:List PlV} {F:Xb} (h:FoQ w0 w g mb a c l F) (hl:0<l.length):∃gr,a=some ⟨gr,0,none⟩∧gr∈F:=by
 obtain⟨Cs,Fs,e1,e2,e3,e4,rfl⟩:=h.row
 obtain⟨gr,cap,e,_,_⟩:=e4.form hl
 injection e with e _ _
 subst e
 exact⟨gr,rfl,List.mem_append_left _ (by simp [FB,Value.ownBlock])⟩
set_option maxHeartbeats 1600000 in
theorem zcg {w0:Xe} {w:Xe} {g mb:Nat} {a:Xc} {c:Nat} {l:List PlV} {F:Xb} (h:FoQ w0 w g mb a c l F) (i:IdV) (hi:okI i) :
  Calls Tryz.prog 54 #[.pointer (some ⟨g,0,none⟩),zaq i] w fun e w'=>(posP l i=none->e=.returned (.pointer none))∧(∀k,posP l i=some k->∃gr,a=some ⟨gr,0,none⟩∧e=.returned (.pointer (some ⟨gr,k*9,none⟩)))∧Below w.heap.size w w':=by
 have hA:Below w.heap.size w (w.alloc (.cells #[.int .i64 i.1,.int .i64 i.2] 81)):=(Below.refl _ _).alloc (Nat.le_refl _) _
 have lb:=Loc.made w #[.int .i64 i.1,.int .i64 i.2] 81
 have hd:Below (w.alloc (.cells #[.int .i64 i.1,.int .i64 i.2] 81)).heap.size (w.alloc (.cells #[.int .i64 i.1,.int .i64 i.2] 81)) (w.alloc (.cells #[.int .i64 i.1,.int .i64 i.2] 81)).drew:=(Below.refl _ _).drew
 have h1:=h.keep hA
 have h2:=h1.keep hd
 obtain⟨cs,lg,hc0,hc1⟩:=h2.set.loc
 obtain⟨ci,hrun,hci⟩:=h2.map.look hi
 have g0:=lg.cell 0
 have g1:=lg.cell 1
 rw [hc0]at g0
 rw [hc1]at g1
 have hbw:=zad hA hd
 have hat:=h.at
 have hlen:=h.len
 have hP:∀k,posP l i=some k->k<l.length:=fun k hk=>(posP_some.1 hk).1
 unfold zaq at *
 have LL:=hide (And.intro hbw (And.intro hat (And.intro hci hP)))
 have lbd:=lb.all hd
 have b0:=lbd.cell 0
 have b1:=lbd.cell 1
 clear h h1 h2 hA hd lb lbd lg hc0 hc1 hbw hat hci hP hi
 refine zaf ?_
 intro Q HQ
 generalize hp:posP l i=po at *
 go_enter Tryz.func54,Tryz.ntmps54
 go_wp2_with fail
 go_region
 cases po with
 | none=>
  go_wp2_with fail
  exact zaa HQ _ _ ⟨fun _=>rfl,fun k hk=>(by cases hk),(zaa LL).1⟩
 | some k=>
  have hkl:=(zaa LL).2.2.2 k rfl
  have hck:=(zaa LL).2.2.1 k rfl
  obtain⟨gr,rfl,_⟩:=(zaa LL).2.1 (by omega)
  subst hck
  have hk0:(0:Int)<=(k:Int):=by omega
  have hkl':(k:Int)<(l.length:Int):=by omega
  go_wp2_with fail
  exact zaa HQ _ _ ⟨fun h=>(by cases h),fun k' hk=>(by cases hk;exact⟨gr,rfl,rfl⟩),(zaa LL).1⟩
theorem FoQ0.own {w0 w:Xe} {g mb gr:Nat} {c:Nat} {l:List PlV} {F:Xb} (h:FoQ0 w0 w g mb (some ⟨gr,0,none⟩) c l F) {k:Nat} (hk:k<l.length) :
  ∃(k1:Xc) (ck:Nat) (n1:Xc) (cn:Nat) (t1:Xc) (ct:Nat) (a1:Xc) (ca:Nat) (Fa:Xb),w.cell? ⟨gr,k*9,none⟩=some (.int .i64 l[k].idN)∧w.cell? ⟨gr,k*9+1,none⟩=some (.int .i64 l[k].idR)∧w.cell? ⟨gr,k*9+2,none⟩=some (.int .i64 l[k].parN)∧w.cell? ⟨gr,k*9+3,none⟩=some (.int .i64 l[k].parR)∧w.cell? ⟨gr,k*9+4,none⟩=some (.slice k1 l[k].key.length ck)∧w.cell? ⟨gr,k*9+5,none⟩=some (.int .i64 l[k].kind)∧w.cell? ⟨gr,k*9+6,none⟩=some (.slice n1 l[k].name.length cn)∧w.cell? ⟨gr,k*9+7,none⟩=some (.slice t1 l[k].text.length ct)∧w.cell? ⟨gr,k*9+8,none⟩=some (.slice a1 l[k].attrs.length ca)∧
   Ints w0 (.slice k1 l[k].key.length ck) l[k].key∧Byt w0 (.slice n1 l[k].name.length cn) l[k].name∧Byt w0 (.slice t1 l[k].text.length ct) l[k].text∧RdAttrs w0 (.slice a1 l[k].attrs.length ca) l[k].attrs:=by
 obtain⟨Cs,Fs,e1,e2,e3,e4,rfl⟩:=h.row
 obtain⟨_,⟨K,N,T,A,eC,o1,o2,o3,o4⟩,eF⟩:=e3 k hk
 obtain⟨k1,ck,rfl,_⟩:=o1.shape
 obtain⟨n1,cn,rfl,_⟩:=o2.shape
 obtain⟨t1,ct,rfl,_⟩:=o3.shape
 obtain⟨a1,ca,rfl,_⟩:=Elems.shape o4
 have hcl:=fun r (hr:r<9)=>zaU e4 (fun i hi=>(e3 i (by omega)).1) e1 k r hk hr
 rw [eC]at hcl
 have d:=fun r hr=>hcl r hr
 have d0:=d 0 (by omega)
 have d1:=d 1 (by omega)
 have d2:=d 2 (by omega)
 have d3:=d 3 (by omega)
 have d4:=d 4 (by omega)
 have d5:=d 5 (by omega)
 have d6:=d 6 (by omega)
 have d7:=d 7 (by omega)
 have d8:=d 8 (by omega)
 exact⟨k1,ck,n1,cn,t1,ct,a1,ca,[],d0,d1,d2,d3,d4,d5,d6,d7,d8,o1,o2,o3,o4⟩
theorem FoQ.own {w0 w:Xe} {g mb gr:Nat} {c:Nat} {l:List PlV} {F:Xb} (h:FoQ w0 w g mb (some ⟨gr,0,none⟩) c l F) {k:Nat} (hk:k<l.length) :
  ∃(k1:Xc) (ck:Nat) (n1:Xc) (cn:Nat) (t1:Xc) (ct:Nat) (a1:Xc) (ca:Nat) (Fa:Xb),w.cell? ⟨gr,k*9,none⟩=some (.int .i64 l[k].idN)∧w.cell? ⟨gr,k*9+1,none⟩=some (.int .i64 l[k].idR)∧w.cell? ⟨gr,k*9+2,none⟩=some (.int .i64 l[k].parN)∧w.cell? ⟨gr,k*9+3,none⟩=some (.int .i64 l[k].parR)∧w.cell? ⟨gr,k*9+4,none⟩=some (.slice k1 l[k].key.length ck)∧w.cell? ⟨gr,k*9+5,none⟩=some (.int .i64 l[k].kind)∧w.cell? ⟨gr,k*9+6,none⟩=some (.slice n1 l[k].name.length cn)∧w.cell? ⟨gr,k*9+7,none⟩=some (.slice t1 l[k].text.length ct)∧w.cell? ⟨gr,k*9+8,none⟩=some (.slice a1 l[k].attrs.length ca)∧
   Ints w0 (.slice k1 l[k].key.length ck) l[k].key∧Byt w0 (.slice n1 l[k].name.length cn) l[k].name∧Byt w0 (.slice t1 l[k].text.length ct) l[k].text∧RdAttrs w0 (.slice a1 l[k].attrs.length ca) l[k].attrs:=h.q0.own hk
end Go.Proofs.YtlpnibbdmkeklaaGreatDoor
namespace Go.Proofs.YtlpnibbdmkeklaaGreatDoor
open Go.RowKit
set_option linter.unusedVariables false
set_option maxRecDepth 100000
theorem zeu {cs:Array Xf} {w:Xe} {g:Nat} {T:Xg} (h:Loc w g cs T) (v0 v1 v2 v3 v4 v5 v6 v7 v8:Xf) (e:cs = #[v0,v1,v2,v3,v4,v5,v6,v7,v8]):w.cell? ⟨g,0,none⟩=some v0∧w.cell? ⟨g,1,none⟩=some v1∧w.cell? ⟨g,2,none⟩=some v2∧w.cell? ⟨g,3,none⟩=some v3∧w.cell? ⟨g,4,none⟩=some v4∧w.cell? ⟨g,5,none⟩=some v5∧w.cell? ⟨g,6,none⟩=some v6∧w.cell? ⟨g,7,none⟩=some v7∧w.cell? ⟨g,8,none⟩=some v8:=by
 subst e
 exact⟨h.cell 0,h.cell 1,h.cell 2,h.cell 3,h.cell 4,h.cell 5,h.cell 6,h.cell 7,h.cell 8⟩
set_option maxHeartbeats 6400000 in
theorem zrE {w0 w:Xe} {g mb gr:Nat} {c:Nat} {l:List PlV} {F:Xb} (h:FoQ0 w0 w g mb (some ⟨gr,0,none⟩) c l F) (hB0:Below w0.heap.size w0 w) (h2:2<=l.length) (hu:(l.map PlV.id).Nodup) (id:IdV) :
  Calls Tryz.prog 95 #[.pointer (some ⟨g,0,none⟩),.agg #[.int .i64 id.1,.int .i64 id.2]] w fun e w'=>∃av cv ks F',e=.returned (.slice av (List.length ks) cv)∧PlsQ w0 w' (.slice av (List.length ks) cv) ks F'∧Rng F' w.heap.size w'.heap.size∧ks.map some=(zao l id).map (fun k=>l[k]?)∧Below w.heap.size w w':=by
 refine zaf ?_
 intro Q HQ
 obtain⟨iN,iR⟩:=id
 obtain⟨i0,hi0,hz0,hz1,hz2⟩:=info_parts zeg
 have hA:=(Below.refl w.heap.size w).alloc (Nat.le_refl _) (.cells #[.int .i64 iN,.int .i64 iR] 81)
 have lb:=Loc.made w #[.int .i64 iN,.int .i64 iR] 81
 have h1:=h.keep hA
 obtain⟨cs,lg,hc0,_⟩:=h1.set.loc
 have g0:(w.alloc (.cells #[.int .i64 iN,.int .i64 iR] 81)).cell? ⟨g,0,none⟩=some (.slice (some ⟨gr,0,none⟩) l.length c):=(lg.cell 0).trans hc0
 have hcap:l.length<=c:=by
  obtain⟨_,_,_,_,_,hrow,_⟩:=h.row
  rcases hrow.2 with ⟨e,_⟩ | ⟨g',cap',cur,e,_,_,hn,_⟩
  ·cases e
  ·injection e with _ _ e3;omega
 have hl:=h.len
 have LL:=hide (And.intro hA (And.intro lb (And.intro h1 (And.intro hB0 hu))))
 clear hA lb h1 lg hc0 h hu hB0
 have z2:(2:Int)<=(l.length:Int):=by omega
 have zc:(l.length:Int)<=(c:Int):=by omega
 have HNO:=hide (fun (hm:l.length<=2) (hu:(l.map PlV.id).Nodup)=>(show ([]:List PlV).map some=(zao l (iN,iR)).map (fun k=>l[k]?) from zgW hu (iN,iR) (by rw [zcx l _ hm]) (fun i j hi=>by cases hi)))
 by_cases hc2:c=2
 ·have hl2:l.length-2=0:=by omega
  have hl3:l.length<=2:=by omega
  subst hc2
  go_enter Tryz.func95,Tryz.ntmps95
  go_wp2_with fail
  obtain⟨hA,lb,h1,hB0,hu⟩:=zaa LL
  clear g0 h1
  refine wp_loop_rounds 1 ?_
  rw [rounds_succ]
  go_wp2_with fail
  refine (zgK _ _ _).mono ?_
  rintro e w2 ⟨rfl,rfl⟩
  have HE:=hide (zaa HQ _ _ ⟨none,0,[],[],rfl,⟨[],[],rfl,rfl,fun i hi=>(by cases hi),World.ownsRow_nil _ _ _ _,rfl⟩,fun q hq=>(by cases hq),zaa HNO hl3 hu,hA⟩)
  clear lb hu hB0 hA
  go_wp2_with fail
  exact zaa HE
 go_enter Tryz.func95,Tryz.ntmps95
 go_wp2_with fail
 obtain⟨hA,lb,h1,hB0,hu⟩:=zaa LL
 clear LL g0
 generalize (w.alloc (.cells #[.int .i64 iN,.int .i64 iR] 81))=w1 at *
 have hlw:w.heap.size<w1.heap.size:=lb.lt
 have hB01:=hB0.trans (hA.mono hB0.size)
 obtain⟨m,hm⟩:∃m,l.length=m+2:=⟨l.length-2,by omega⟩
 have hm2:l.length-2=m:=by omega
 rw [hm2]
 have HMM:=hide hm
 clear hm hm2
 go_loopw [5,14] (fun v i wr=>∃(j:Nat) (av:Xc) (cv:Nat) (Fk:Xb),j<=m∧i=.int .i64 (j:Int)∧v=.slice av (zax l (iN,iR) (j+2)).length cv∧PlsQ w0 wr (.slice av (zax l (iN,iR) (j+2)).length cv) (zax l (iN,iR) (j+2)) Fk∧Fk.Nodup∧Rng Fk w1.heap.size wr.heap.size∧Below w1.heap.size w1 wr) (fun _ i _=>m-(intOf i).toNat)
 case atStart=>
  refine⟨0,none,0,[],Nat.zero_le _,rfl,by rw [zcx l _ (Nat.le_refl _)];rfl,?_,List.nodup_nil,fun q hq=>(by cases hq),Below.refl _ _⟩
  rw [zcx l _ (Nat.le_refl _)]
  exact⟨[],[],rfl,rfl,fun i hi=>(by cases hi),World.ownsRow_nil _ _ _ _,rfl⟩
 case round=>
  obtain⟨j,av,cv,Fk,hj,rfl,rfl,hK,hKn,hKr,hB⟩:=hrel
  have lbr:=lb.all hB
  have b0:wr.cell? ⟨w.heap.size,0,none⟩=some (.int .i64 iN):=lbr.cell 0
  have b1:wr.cell? ⟨w.heap.size,1,none⟩=some (.int .i64 iR):=lbr.cell 1
  have hm:=zaa HMM
  have hkl:(zax l (iN,iR) (j+2)).length<=100000:=by
   have:(zax l (iN,iR) (j+2)).length<=((l.take (j+2)).drop 2).length:=List.length_filter_le _ _
   rw [List.length_drop,List.length_take]at this
   omega
  by_cases hlt:j<m
  ·have hj2:j+2<l.length:=by omega
   obtain⟨k1,ck,n1,cn,t1,ct,a1,ca,-,e0,e1,e2,e3,e4,e5,e6,e7,e8,r1,r2,r3,r4⟩:=(h1.keep hB).own hj2
   rw [show (j+2)*9=18+j*9 by omega]at e0 e1 e2 e3 e4 e5 e6 e7 e8
   have hst:=zhe l (iN,iR) (show 2<=j+2 by omega) hj2
   generalize l[j+2]=p at *
   clear hm
   have hlt':(j:Int)<(m:Int):=by omega
   have hj0:(0:Int)<=(j:Int):=by omega
   have lx:=Loc.made wr #[.int .i64 p.idN,.int .i64 p.idR,.int .i64 p.parN,.int .i64 p.parR,.slice k1 p.key.length ck,.int .i64 p.kind,.slice n1 p.name.length cn,.slice t1 p.text.length ct,.slice a1 p.attrs.length ca] 117
   have hx:=(Below.refl wr.heap.size wr).alloc (Nat.le_refl _) (.cells #[.int .i64 p.idN,.int .i64 p.idR,.int .i64 p.parN,.int .i64 p.parR,.slice k1 p.key.length ck,.int .i64 p.kind,.slice n1 p.name.length cn,.slice t1 p.text.length ct,.slice a1 p.attrs.length ca] 117)
   obtain⟨x0,x1,x2,x3,x4,x5,x6,x7,x8⟩:=zeu lx _ _ _ _ _ _ _ _ _ rfl
   have hbw:w.heap.size<wr.heap.size:=Nat.lt_of_lt_of_le hlw hB.size
   have c0:=(hx.cell (p:=⟨w.heap.size,0,none⟩) hbw).trans b0
   have c1:=(hx.cell (p:=⟨w.heap.size,1,none⟩) hbw).trans b1
   clear b0 b1 lbr
   have HR:=hide (show PlQ w0 wr [.int .i64 p.idN,.int .i64 p.idR,.int .i64 p.parN,.int .i64 p.parR,.slice k1 p.key.length ck,.int .i64 p.kind,.slice n1 p.name.length cn,.slice t1 p.text.length ct,.slice a1 p.attrs.length ca] p [] from ⟨⟨_,_,_,_,rfl,r1,r2,r3,r4⟩,rfl⟩)
   have HX:=hide hx
   have HK:=hide (And.intro hK (And.intro hKn (And.intro hKr hB)))
   clear r1 r2 r3 r4 hx lx hK hKn hKr hB
   have HST:=hide hst
   have HKL:=hide hkl
   clear hst hkl
   by_cases q1:p.parN=iN
   ·by_cases q2:p.parR=iR
    ·have d1:(p.parN == iN)=true:=by simpa using q1
     have d2:(p.parR == iR)=true:=by simpa using q2
     have hlx:zax l (iN,iR) (j+1+2)=zax l (iN,iR) (j+2)++[p]:=by
      rw [show j+1+2=j+2+1 by omega,zaa HST,if_pos (show p.par=(iN,iR) by show (p.parN,p.parR)=_;rw [q1,q2])]
     clear q1 q2 HST
     have HLX:=hide hlx
     clear hlx
     obtain⟨hK,hKn,hKr,hB⟩:=zaa HK
     have hx:=zaa HX
     have hAe:=(Below.refl (wr.alloc (.cells #[.int .i64 p.idN,.int .i64 p.idR,.int .i64 p.parN,.int .i64 p.parR,.slice k1 p.key.length ck,.int .i64 p.kind,.slice n1 p.name.length cn,.slice t1 p.text.length ct,.slice a1 p.attrs.length ca] 117)).heap.size (wr.alloc (.cells #[.int .i64 p.idN,.int .i64 p.idR,.int .i64 p.parN,.int .i64 p.parR,.slice k1 p.key.length ck,.int .i64 p.kind,.slice n1 p.name.length cn,.slice t1 p.text.length ct,.slice a1 p.attrs.length ca] 117))).alloc (Nat.le_refl _) (.cells #[.int .i64 p.idN,.int .i64 p.idR,.int .i64 p.parN,.int .i64 p.parR,.slice k1 p.key.length ck,.int .i64 p.kind,.slice n1 p.name.length cn,.slice t1 p.text.length ct,.slice a1 p.attrs.length ca] 117)
     have lE:=Loc.made (wr.alloc (.cells #[.int .i64 p.idN,.int .i64 p.idR,.int .i64 p.parN,.int .i64 p.parR,.slice k1 p.key.length ck,.int .i64 p.kind,.slice n1 p.name.length cn,.slice t1 p.text.length ct,.slice a1 p.attrs.length ca] 117)) #[.int .i64 p.idN,.int .i64 p.idR,.int .i64 p.parN,.int .i64 p.parR,.slice k1 p.key.length ck,.int .i64 p.kind,.slice n1 p.name.length cn,.slice t1 p.text.length ct,.slice a1 p.attrs.length ca] 117
     have hb2:=zad hx hAe
     have hFr:=PlsQ.lt hK
     have hs2:=hb2.size
     have HP:=hide (show PlsQ w0 ((wr.alloc (.cells #[.int .i64 p.idN,.int .i64 p.idR,.int .i64 p.parN,.int .i64 p.parR,.slice k1 p.key.length ck,.int .i64 p.kind,.slice n1 p.name.length cn,.slice t1 p.text.length ct,.slice a1 p.attrs.length ca] 117)).alloc (.cells #[.int .i64 p.idN,.int .i64 p.idR,.int .i64 p.parN,.int .i64 p.parR,.slice k1 p.key.length ck,.int .i64 p.kind,.slice n1 p.name.length cn,.slice t1 p.text.length ct,.slice a1 p.attrs.length ca] 117)) (.slice av (zax l (iN,iR) (j+2)).length cv) (zax l (iN,iR) (j+2)) Fk∧(∀i u,([.int .i64 p.idN,.int .i64 p.idR,.int .i64 p.parN,.int .i64 p.parR,.slice k1 p.key.length ck,.int .i64 p.kind,.slice n1 p.name.length cn,.slice t1 p.text.length ct,.slice a1 p.attrs.length ca]:Xd)[i]? = some u->((wr.alloc (.cells #[.int .i64 p.idN,.int .i64 p.idR,.int .i64 p.parN,.int .i64 p.parR,.slice k1 p.key.length ck,.int .i64 p.kind,.slice n1 p.name.length cn,.slice t1 p.text.length ct,.slice a1 p.attrs.length ca] 117)).alloc (.cells #[.int .i64 p.idN,.int .i64 p.idR,.int .i64 p.parN,.int .i64 p.parR,.slice k1 p.key.length ck,.int .i64 p.kind,.slice n1 p.name.length cn,.slice t1 p.text.length ct,.slice a1 p.attrs.length ca] 117)).cell? ((⟨(wr.alloc (.cells #[.int .i64 p.idN,.int .i64 p.idR,.int .i64 p.parN,.int .i64 p.parR,.slice k1 p.key.length ck,.int .i64 p.kind,.slice n1 p.name.length cn,.slice t1 p.text.length ct,.slice a1 p.attrs.length ca] 117)).heap.size,0,none⟩:Addr).add i)=some u)∧PlQ w0 ((wr.alloc (.cells #[.int .i64 p.idN,.int .i64 p.idR,.int .i64 p.parN,.int .i64 p.parR,.slice k1 p.key.length ck,.int .i64 p.kind,.slice n1 p.name.length cn,.slice t1 p.text.length ct,.slice a1 p.attrs.length ca] 117)).alloc (.cells #[.int .i64 p.idN,.int .i64 p.idR,.int .i64 p.parN,.int .i64 p.parR,.slice k1 p.key.length ck,.int .i64 p.kind,.slice n1 p.name.length cn,.slice t1 p.text.length ct,.slice a1 p.attrs.length ca] 117)) [.int .i64 p.idN,.int .i64 p.idR,.int .i64 p.parN,.int .i64 p.parR,.slice k1 p.key.length ck,.int .i64 p.kind,.slice n1 p.name.length cn,.slice t1 p.text.length ct,.slice a1 p.attrs.length ca] p []∧(∀q,q∈Fk∨q∈([]:Xb)->q<((wr.alloc (.cells #[.int .i64 p.idN,.int .i64 p.idR,.int .i64 p.parN,.int .i64 p.parR,.slice k1 p.key.length ck,.int .i64 p.kind,.slice n1 p.name.length cn,.slice t1 p.text.length ct,.slice a1 p.attrs.length ca] 117)).alloc (.cells #[.int .i64 p.idN,.int .i64 p.idR,.int .i64 p.parN,.int .i64 p.parR,.slice k1 p.key.length ck,.int .i64 p.kind,.slice n1 p.name.length cn,.slice t1 p.text.length ct,.slice a1 p.attrs.length ca] 117)).heap.size) from
      ⟨PlsQ.frm hK (Frm.ofBelow hb2 []) (fun _ _=>by simp),fun i u hiu=>by rw [zbc,Nat.zero_add,lE.cell i];simpa using hiu,zaa HR,fun q hq=>by
       rcases hq with hq | hq
       ·have:=hFr q hq;omega
       ·cases hq⟩)
     have HB2:=hide (And.intro (zad hB hb2) hb2.size)
     have hsz:(wr.alloc (.cells #[.int .i64 p.idN,.int .i64 p.idR,.int .i64 p.parN,.int .i64 p.parR,.slice k1 p.key.length ck,.int .i64 p.kind,.slice n1 p.name.length cn,.slice t1 p.text.length ct,.slice a1 p.attrs.length ca] 117)).heap.size=wr.heap.size+1:=by simp
     clear hAe lE hb2 hFr hs2 hx hK
     rw [hsz]at HP
     go_wp2_with (at_builtin;refine zgP (R:=PlQ w0) (fun h f d=>PlQ.frm h f d) rfl _ _ 56 rfl 117 i0 (.agg #[.int .i64 0,.int .i64 0,.int .i64 0,.int .i64 0,.slice none 0 0,.int .i64 0,.slice none 0 0,.slice none 0 0,.slice none 0 0]) 9 136 Tryz.underlying56 hi0 hz0 hz1 hz2 rfl (by decide) _ (zax l (iN,iR) (j+2)) Fk rfl (zaa HP).1 hKn ⟨wr.heap.size+1,0,none⟩ 1 [.int .i64 p.idN,.int .i64 p.idR,.int .i64 p.parN,.int .i64 p.parR,.slice k1 p.key.length ck,.int .i64 p.kind,.slice n1 p.name.length cn,.slice t1 p.text.length ct,.slice a1 p.attrs.length ca] p [] ?hx rfl (zaa HP).2.1 ?o1 (zaa HP).2.2.1 List.nodup_nil (fun _ _=>by simp) (zaa HP).2.2.2 ?o2 ?o3 ?_)
     case hx=>rfl
     case o1=>intro y hy;simp at hy;rcases hy with rfl | rfl | rfl | rfl | rfl | rfl | rfl | rfl | rfl<;>rfl
     case o2=>unfold maxLen;have:=zaa HKL;omega
     case o3=>have:=zaa HKL;omega
     intro g9 cap9 w9 F9 hF9 hN9 hM9 hf9 hg9
     obtain⟨hW4,hs4⟩:=zaa HB2
     have hvF:∀q∈FB (.slice av (zax l (iN,iR) (j+2)).length cv),q∈Fk:=fun q hq=>by
      obtain⟨_,_,_,_,_,_,e⟩:=(zaa HP).1
      rw [e]
      exact List.mem_append_left _ hq
     have hB1s:=hB.size
     have hW9:Below w1.heap.size w1 w9:=hW4.trans (hf9.below hW4.size (fun q hq=>(hKr q (hvF q hq)).1))
     have HO9:=hide (show PlsQ w0 w9 (.slice (some ⟨g9,0,none⟩) (zax l (iN,iR) (j+1+2)).length cap9) (zax l (iN,iR) (j+1+2)) F9 by
      rw [zaa HLX]
      have:((zax l (iN,iR) (j+2))++[p]).length=(zax l (iN,iR) (j+2)).length+1:=by simp
      rw [this]
      exact hF9)
     have HL9:=hide (show (zax l (iN,iR) (j+2)).length+1=(zax l (iN,iR) (j+1+2)).length by rw [zaa HLX];simp)
     have HR9:=hide (show Rng F9 w1.heap.size w9.heap.size from fun q hq=>⟨(hM9 q hq).elim (fun k=>(hKr q k).1) (fun k=>by rw [k];omega),PlsQ.lt (zaa HO9) q hq⟩)
     have HN9:=hide hN9
     have HW9:=hide hW9
     rw [zaa HL9]
     clear hF9 hM9 hN9 hf9 hW4 hvF hW9 HP HK HX x0 x1 x2 x3 x4 x5 x6 x7 x8 c0 c1 e0 e1 e2 e3 e4 e5 e6 e7 e8 hB hKr hs4 hB1s
     go_wp2_with fail
     go_roundw
     case rel=>exact⟨j+1,some ⟨g9,0,none⟩,cap9,F9,by omega,by go_num,rfl,zaa HO9,zaa HN9,zaa HR9,zaa HW9⟩
     case measure=>simp [intOf];omega
    ·have d1:(p.parN == iN)=true:=by simpa using q1
     have d2:(p.parR == iR)=false:=by simpa using q2
     have hne:¬ p.par=(iN,iR):=fun e=>q2 (Prod.mk.inj e).2
     clear q1 q2
     have hlx:zax l (iN,iR) (j+1+2)=zax l (iN,iR) (j+2):=by rw [show j+1+2=j+2+1 by omega,zaa HST,if_neg hne,List.append_nil]
     have HLX:=hide hlx
     clear hlx hne HST
     go_wp2_with fail
     go_roundw
     case rel=>
      obtain⟨hK,hKn,hKr,hB⟩:=zaa HK
      exact⟨j+1,av,cv,Fk,by omega,by go_num,by rw [zaa HLX],by rw [zaa HLX];exact PlsQ.frm hK (Frm.ofBelow (zaa HX) []) (fun _ _=>by simp),hKn,hKr.mono (Nat.le_refl _) (zaa HX).size,zad hB (zaa HX)⟩
     case measure=>simp [intOf];omega
   ·have d1:(p.parN == iN)=false:=by simpa using q1
    have hne:¬ p.par=(iN,iR):=fun e=>q1 (Prod.mk.inj e).1
    clear q1
    have hlx:zax l (iN,iR) (j+1+2)=zax l (iN,iR) (j+2):=by rw [show j+1+2=j+2+1 by omega,zaa HST,if_neg hne,List.append_nil]
    have HLX:=hide hlx
    clear hlx hne HST
    go_wp2_with fail
    go_roundw
    case rel=>
     obtain⟨hK,hKn,hKr,hB⟩:=zaa HK
     exact⟨j+1,av,cv,Fk,by omega,by go_num,by rw [zaa HLX],by rw [zaa HLX];exact PlsQ.frm hK (Frm.ofBelow (zaa HX) []) (fun _ _=>by simp),hKn,hKr.mono (Nat.le_refl _) (zaa HX).size,zad hB (zaa HX)⟩
    case measure=>simp [intOf];omega
  ·have e:j=m:=by omega
   have hnl:¬ (j:Int)<(m:Int):=by omega
   have hAr:=zad hA hB
   have hsw:=hB.size
   have hB0r:Below w0.heap.size w0 wr:=hB01.trans (hB.mono hB01.size)
   have HS:=hide (fun (ks:List PlV)=>zgW (ks:=ks) hu (iN,iR))
   have hkr:zax l (iN,iR) (j+2)=zax l (iN,iR) l.length:=by rw [e,hm]
   rw [hkr]at hK hkl
   clear hm e
   by_cases hk0:zax l (iN,iR) l.length=[]
   ·have HE:=hide (zaa HQ (.returned (.slice av 0 cv)) wr ⟨av,cv,[],Fk,rfl,by rw [hk0]at hK;exact hK,hKr.mono (by omega) (Nat.le_refl _),zaa HS [] (by rw [hk0]) (fun i j hi=>by cases hi),hAr⟩)
    rw [hkr,hk0]
    clear hK hu hB0r hB01 hB lb h1 b0 b1 lbr
    go_wp2_with fail
    refine (zgK _ _ _).mono ?_
    rintro e w2 ⟨rfl,rfl⟩
    go_wp2_with fail
    exact zaa HE
   ·obtain⟨gk,hav⟩:∃gk,av=some ⟨gk,0,none⟩:=by
     obtain⟨_,_,_,_,_,hrow,_⟩:=hK
     rcases hrow.2 with ⟨_,e0⟩ | ⟨g',cap',cur,e0,_⟩
     ·exact absurd (List.length_eq_zero_iff.1 e0) hk0
     ·injection e0 with e1 _ _;exact⟨g',e1⟩
    subst hav
    have hgk:gk∈Fk:=by
     obtain⟨_,_,_,_,_,_,e⟩:=hK
     rw [e]
     exact List.mem_append_left _ (by simp [FB,Value.ownBlock])
    have hgr:=hKr gk hgk
    have HP:=hide (zmE w0 wr gk cv _ Fk hK hk0 hkl hB0r (by have:=hB01.size;omega))
    rw [hkr]
    have hpl:∀ks:List PlV,ks.Perm (zax l (iN,iR) l.length)->ks.length=(zax l (iN,iR) l.length).length:=fun ks h=>h.length_eq
    have HL:=hide hpl
    have HAR:=hide hAr
    clear hpl hAr hK hu hB0r hB01 hB lb h1 b0 b1 lbr
    generalize zax l (iN,iR) l.length=kr at *
    go_wp2_with fail
    refine (zaa HP).mono ?_
    rintro e w2 ⟨rfl,ks,hp,hs,hQ,hf⟩
    have hA2:=(zaa HAR).trans (hf.below (by have:=(zaa HAR).size;omega) (fun q hq=>by simp at hq;omega))
    have hlk:=zaa HL ks hp
    have HE:=hide (zaa HQ (.returned (.slice (some ⟨gk,0,none⟩) ks.length cv)) w2 ⟨_,_,ks,[gk],rfl,hQ,fun q hq=>by simp at hq;have:=hf.size;omega,zaa HS ks hp hs,hA2⟩)
    rw [hlk]at HE
    clear hA2 hlk hQ hf hs hp HL HP
    go_wp2_with fail
    exact zaa HE
theorem zhZ {w0 w:Xe} {g mb gr:Nat} {c:Nat} {l:List PlV} {F:Xb} (h:FoQ w0 w g mb (some ⟨gr,0,none⟩) c l F) (hB0:Below w0.heap.size w0 w) (h2:2<=l.length) (hu:(l.map PlV.id).Nodup) (id:IdV) :
  Calls Tryz.prog 95 #[.pointer (some ⟨g,0,none⟩),.agg #[.int .i64 id.1,.int .i64 id.2]] w fun e w'=>∃av cv ks F',e=.returned (.slice av (List.length ks) cv)∧PlsQ w0 w' (.slice av (List.length ks) cv) ks F'∧Rng F' w.heap.size w'.heap.size∧ks.map some=(zao l id).map (fun k=>l[k]?)∧Below w.heap.size w w':=zrE h.q0 hB0 h2 hu id
set_option maxHeartbeats 1600000 in
theorem zft (w:Xe) (p:PlV) (k n t a:Xc) (ck cn ct ca:Nat) :
  Calls Tryz.prog 57 #[.agg #[.int .i64 p.idN,.int .i64 p.idR,.int .i64 p.parN,.int .i64 p.parR,.slice k p.key.length ck,.int .i64 p.kind,.slice n p.name.length cn,.slice t p.text.length ct,.slice a p.attrs.length ca]] w fun e w'=>e=.returned (.agg #[.int .i64 p.kind,.slice n p.name.length cn,.slice t p.text.length ct,.slice a p.attrs.length ca,.slice none 0 0])∧Below w.heap.size w w':=by
 have hA:=((Below.refl w.heap.size w).alloc (Nat.le_refl _) (.cells #[.int .i64 p.idN,.int .i64 p.idR,.int .i64 p.parN,.int .i64 p.parR,.slice k p.key.length ck,.int .i64 p.kind,.slice n p.name.length cn,.slice t p.text.length ct,.slice a p.attrs.length ca] 117)).alloc (by simp) (.cells #[.int .i64 p.kind,.slice n p.name.length cn,.slice t p.text.length ct,.slice a p.attrs.length ca,.slice none 0 0] 37)
 have HA:=hide hA
 clear hA
 go_enter Tryz.func57,Tryz.ntmps57
 go_wp2
 exact bodyPost_ret (v:=.agg #[.int .i64 p.kind,.slice n p.name.length cn,.slice t p.text.length ct,.slice a p.attrs.length ca,.slice none 0 0]) (by simp [results,Tryz.results57,go_sem]) rfl ⟨rfl,zaa HA⟩
theorem zoS {p:PlV}:zbe p=(decide ((zaH p).kids.length=0) && zbz (zaH p)):=by
 have hk:(zaH p).kids=[]:=rfl
 unfold zbe
 rw [zbo,if_neg (by omega),hk]
 by_cases h1:(zaH p).kind=1
 ·rw [if_pos h1,zfi h1];simp
 ·rw [if_neg h1,zdS h1]
  by_cases h2:zaT (zaH p)=true
  ·rw [if_pos h2,h2];rfl
  ·rw [if_neg h2];simp [h2]
set_option maxHeartbeats 1600000 in
theorem zoz (w0 w:Xe) (p:PlV) (n t a:Xc) (cn ct ca:Nat) (h1:Byt w0 (.slice n p.name.length cn) p.name) (h2:Byt w0 (.slice t p.text.length ct) p.text) (h3:RdAttrs w0 (.slice a p.attrs.length ca) p.attrs) (hb:Below w0.heap.size w0 w) (hK : -9223372036854775808<=p.kind∧p.kind<=9223372036854775807) :
  Calls Tryz.prog 56 #[.agg #[.int .i64 p.kind,.slice n p.name.length cn,.slice t p.text.length ct,.slice a p.attrs.length ca,.slice none 0 0]] w fun e w'=>e=.returned (.bool (zbe p))∧Below w.heap.size w w':=by
 refine zaf ?_
 intro Q HQ
 have hN:RdNode 1 w0 [.int .i64 p.kind,.slice n p.name.length cn,.slice t p.text.length ct,.slice a p.attrs.length ca,.slice none 0 0] (zaH p):=⟨_,_,_,_,rfl,hK.1,hK.2,h1,h2,h3,Nat.zero_le _,.inl ⟨rfl,rfl⟩⟩
 have hA:Below w.heap.size w ((w.alloc (.cells #[.int .i64 p.kind,.slice n p.name.length cn,.slice t p.text.length ct,.slice a p.attrs.length ca,.slice none 0 0] 37)).alloc (.cells vs0 110)):=((Below.refl w.heap.size w).alloc (Nat.le_refl _) _).alloc (by simp) _
 have lv:=Loc.made (w.alloc (.cells #[.int .i64 p.kind,.slice n p.name.length cn,.slice t p.text.length ct,.slice a p.attrs.length ca,.slice none 0 0] 37)) vs0 110
 simp only [World.size_alloc]at lv
 have hs:=hb.size
 have hlp:=zoS (p:=p)
 have hk0:decide ((zaH p).kids.length=0)=true:=rfl
 rw [hk0,Bool.true_and]at hlp
 have HX:=hide (And.intro hA (And.intro lv (And.intro hN hb)))
 have HL:=hide hlp
 clear hA lv hN h1 h2 h3 hb hK hlp hk0
 go_enter Tryz.func56,Tryz.ntmps56
 go_wp2_with fail
 obtain⟨hA,lv,hN,hb⟩:=zaa HX
 refine (ziw w.heap.size 0 w0 _ _ _ _ _ _ (zaH p) (w.heap.size+1) hN (hb.trans (hA.mono hs)) (by omega) (.inl lv) hA.size).mono ?_
 rintro e w2 ⟨rfl,-,hf⟩
 rw [<-zaa HL]
 have HE:=hide (zaa HQ _ w2 ⟨rfl,hA.trans (hf.below hA.size (fun q hq=>by simp at hq;omega))⟩)
 clear hA lv hN hb hf HX
 generalize zbe p=b at *
 go_wp2_with fail
 exact zaa HE
set_option maxHeartbeats 1600000 in
theorem zdC (w:Xe) (v:Xf) (l:Xa) (h:Byt w v l) (hl:l.length<=67108864) :
  Calls Tryz.prog 123 #[v] w fun e w'=>∃v',e=.returned v'∧Own w' w.heap.size v' l∧Below w.heap.size w w':=by
 by_cases hv:v=.slice none 0 0
 ·subst hv
  have hl0:l=[]:=by
   obtain⟨a,c,e,_⟩:=h.shape
   injection e with _ e2 _
   exact List.eq_nil_of_length_eq_zero e2.symm
  subst hl0
  have hq:=Lib.run_eql_slice_nil_nil (P:=Tryz.prog) w 0 0 Tryz.underlying22
  go_enter Tryz.func123,Tryz.ntmps123
  go_wp2_with fail
  go_ret
  exact⟨_,rfl,⟨zbL,World.ownsRow_nil _ _ _ _⟩,Below.refl _ _⟩
 ·obtain⟨x,c,rfl⟩:∃x c,v=.slice (some x) l.length c:=by
   obtain⟨_,_,⟨e,_⟩ | ⟨x,cap,rfl,hc,rfl⟩ | ⟨p,off,cap,rfl,_⟩⟩:=h
   ·exact absurd e hv
   ·exact⟨x,cap,rfl⟩
   ·exact⟨_,cap,rfl⟩
  have hq:=Lib.run_eql_slice_some_nil (P:=Tryz.prog) w x l.length c Tryz.underlying22
  go_enter Tryz.func123,Tryz.ntmps123
  go_wp2_with (at_builtin;refine zcH rfl _ _ rfl w.heap.size _ [] rfl (zqj w) _ l rfl (h.alloc _) ?c1 ?c2 ?_)
  case c1=>first | omega | (simp;omega)
  case c2=>simp
  intro v1 w1 ho1 hg1
  have hB1:Below w.heap.size w w1:=zei ((Below.refl _ _).alloc (Nat.le_refl _) _) hg1 (fun g hg=>by simp [Value.ownBlock]at hg;omega)
  clear hg1
  go_wp2
  go_ret
  exact⟨_,rfl,ho1,hB1⟩
theorem Tryz.info144:(Tryz.prog.info? 144).map (fun i=>(i.zero,i.size,i.bytes))=some (some (.agg #[.slice none 0 0,.slice none 0 0]),2,48):=by kernel_rfl
theorem Tryz.info37:(Tryz.prog.info? 37).map (fun i=>(i.zero,i.size,i.bytes))=some (some (.agg #[.int .i64 0,.slice none 0 0,.slice none 0 0,.slice none 0 0,.slice none 0 0]),5,104):=by kernel_rfl
theorem zst {l:List (Xa×Xa)} {k:Nat} (h:k<l.length):l[k].1.length+l[k].2.length<=szA l:=by
 have h1:=zdN (fun x:Xa×Xa=>x.1.length+x.2.length) l k h
 have h2:=zfb (fun x:Xa×Xa=>x.1.length+x.2.length) l (k+1)
 unfold szA
 omega
theorem zsf {n:Nat} {l:List (Tr n)} {k:Nat} (h:k<l.length):szT n l[k]<=szK n l:=by
 have h1:=zdN (szT n) l k h
 have h2:=zfb (szT n) l (k+1)
 unfold szK
 omega
set_option maxHeartbeats 3200000 in
theorem zlm (w:Xe) (v:Xf) (l:List (Xa×Xa)) (h:RdAttrs w v l) (hs:szA l<=2097152) :
  Calls Tryz.prog 43 #[v] w fun e w'=>∃a c,e=.returned (.slice a l.length c)∧∃F,OwAttrs w' (.slice a l.length c) l F∧F.Nodup∧Rng F w.heap.size w'.heap.size∧Below w.heap.size w w':=by
 obtain⟨i0,hi,hz0,hz1,hz2⟩:=info_parts Tryz.info144
 have hm:=h.1
 have hlen:l.length<=2097152:=by unfold szA at hs;omega
 by_cases h0:l=[]
 ·obtain⟨a,cap,rfl,_⟩:=Elems.shape h
  subst h0
  go_enter Tryz.func43,Tryz.ntmps43
  go_wp2_with (at_make;refine wpList_make_full _ rfl _ _ 34 rfl w.heap.size 144 i0 _ 2 Tryz.underlying34 hi hz0 hz1 .i64 .i64 _ _ 0 rfl rfl rfl rfl ?c1 ?c2 ?c3 ?_)
  case c1=>rw [hz2];omega
  case c2=>exact Nat.zero_le _
  case c3=>exact Nat.le_refl _
  intro w1 hown hgrow
  have hB1:=Below.ofGrown hgrow
  have hH:=(Half.start (α:=Xa×Xa) (l:=[]) (R:=OwAttr w1) (w.heap.size+1) (zbn hown 0 (Nat.zero_le _))).whole rfl (by omega)
  have HH:=hide hH
  clear hown hgrow hH
  go_wp2_with fail
  refine wp_loop_rounds 1 ?_
  rw [rounds_succ]
  go_wp2_with fail
  go_ret
  obtain⟨F,hF,hnd,hr⟩:=zaa HH
  exact⟨_,_,rfl,F,hF,hnd,hr,hB1⟩
 obtain⟨_,⟨_,e⟩ | ⟨_,_,_,_,e⟩ | ⟨b,off,cap,rfl,g1,g2,g3,g4,g5⟩⟩:=h
 ·exact absurd e h0
 ·exact absurd e h0
 go_enter Tryz.func43,Tryz.ntmps43
 go_wp2_with (at_make;refine wpList_make_full _ rfl _ _ 34 rfl w.heap.size 144 i0 _ 2 Tryz.underlying34 hi hz0 hz1 .i64 .i64 _ _ l.length rfl rfl rfl rfl ?c1 ?c2 ?c3 ?_)
 case c1=>rw [hz2];omega
 case c2=>exact hm
 case c3=>exact Nat.le_refl _
 intro w1 hown hgrow
 have hB1:=Below.ofGrown hgrow
 have hH:=Half.start (α:=Xa×Xa) (l:=l) (R:=OwAttr w1) (w.heap.size+1) (zbn hown 0 (Nat.zero_le _))
 have hlt1:=(hown.lt w.heap.size rfl).2
 clear hown hgrow
 go_wp2_with fail
 go_loopw [4] (fun i wr=>∃k:Nat,k<=l.length∧i=.int .i64 k∧Half wr 144 2 w.heap.size l.length l (OwAttr wr) (w.heap.size+1) k∧Below w.heap.size w wr∧w.heap.size+1<=wr.heap.size) (fun i _=>l.length-(intOf i).toNat)
 case atStart=>exact⟨0,Nat.zero_le _,rfl,hH,hB1,by omega⟩
 case round=>
  obtain⟨k,hk,rfl,hr,hB,hsz⟩:=hrel
  clear hH hB1 hlt1
  by_cases hlt:k<l.length
  ·obtain⟨c0,c1,e0,e1,hc⟩:=zeQ (g5 k hlt)
   obtain⟨_,_,ee,hc0,hc1⟩:=hc
   simp only [List.cons.injEq,and_true]at ee
   obtain⟨rfl,rfl⟩:=ee
   replace e0:=(hB.cell (p:=⟨b,off+k*2,none⟩) g4).trans e0
   replace e1:=(hB.cell (p:=⟨b,off+k*2+1,none⟩) g4).trans e1
   have hlt':(k:Int)<(l.length:Int):=by omega
   clear g5
   go_wp2_with fail
   refine (zmX wr _ _ l[k] (hc0.keep hB) (hc1.keep hB) (by have:=zst hlt;omega)).mono ?_
   rintro e w2 ⟨a1,k1,a2,k2,rfl,G,hO,hnd,hrg,hB2⟩
   have hrow:∃xs:Xd,w2.ownsRow 0 144 2 (.slice (some ⟨w.heap.size,0,none⟩) l.length l.length) l.length xs:=by
    obtain⟨_,_,xs,_,_,_,h4,_⟩:=hr.laid
    exact⟨xs,zap h4 (Frm.ofBelow hB2 []) (fun _ _=>by simp)⟩
   obtain⟨xs,hx⟩:=hrow
   have hxl:=hx.1
   have q0:w2.cell? ⟨w.heap.size,k*2,none⟩=some (xs[k*2]'(by omega)):=by rw [hx.cellAt (k*2) (by omega),List.getElem?_eq_getElem (by omega)]
   have q1:w2.cell? ⟨w.heap.size,k*2+1,none⟩=some (xs[k*2+1]'(by omega)):=by rw [hx.cellAt (k*2+1) (by omega),List.getElem?_eq_getElem (by omega)]
   have f0:=hx.frozenAt (k*2)
   have f1:=hx.frozenAt (k*2+1)
   generalize xs[k*2]'(by omega)=y0 at q0
   generalize xs[k*2+1]'(by omega)=y1 at q1
   have hf:Frm w2 ((w2.setCell ⟨w.heap.size,k*2,none⟩ (.slice a1 l[k].1.length k1)).setCell ⟨w.heap.size,k*2+1,none⟩ (.slice a2 l[k].2.length k2)) [w.heap.size]:=(zab w2 _ _ _).trans (zab _ _ _ _)
   have hstep:Half ((w2.setCell ⟨w.heap.size,k*2,none⟩ (.slice a1 l[k].1.length k1)).setCell ⟨w.heap.size,k*2+1,none⟩ (.slice a2 l[k].2.length k2)) 144 2 w.heap.size l.length l (OwAttr ((w2.setCell ⟨w.heap.size,k*2,none⟩ (.slice a1 l[k].1.length k1)).setCell ⟨w.heap.size,k*2+1,none⟩ (.slice a2 l[k].2.length k2))) (w.heap.size+1) (k+1):=by
    refine hr.step hlt (by omega) hsz hB2 [.slice a1 l[k].1.length k1,.slice a2 l[k].2.length k2] G rfl ?_ hnd hrg ?_ hf ?_
    ·obtain⟨_,_,e,o1,o2,rfl⟩:=hO
     exact⟨_,_,e,o1.frm hf (fun g hg=>by have:=hrg g (by simp [hg]);simp;omega),o2.frm hf (fun g hg=>by have:=hrg g (by simp [hg]);simp;omega),rfl⟩
    ·rintro C x G' ⟨u1,u2,e,o1,o2,rfl⟩ hne
     have hfb:=(Frm.ofBelow hB2 [w.heap.size]).trans hf
     exact⟨_,_,e,o1.frm hfb (fun g hg=>by have:=hne g (by simp [hg]);simp;omega),o2.frm hfb (fun g hg=>by have:=hne g (by simp [hg]);simp;omega),rfl⟩
    ·intro zs hz
     have hzl:=hz.1
     have t1:=(hz.stored (k*2) (.slice a1 l[k].1.length k1)).1
     have t2:=(t1.stored (k*2+1) (.slice a2 l[k].2.length k2)).1
     exact⟨_,t2,zkp zs (k*2) _ _ (by omega)⟩
   have HS:=hide hstep
   have HB:=hide (hB.trans ((hB2.mono hB.size).trans (hf.below (by have:=hB2.size;have:=hB.size;omega) (fun g hg=>by simp at hg;omega))))
   have hs2:=hB2.size
   clear hstep hf hx hO hr hB2 hB e0 e1 hc0 hc1 hrg hnd
   go_wp2_with fail
   go_roundw
   case rel=>exact⟨k+1,by omega,by go_num,zaa HS,zaa HB,by simp;omega⟩
   case measure=>simp [intOf];omega
  ·have e:k=l.length:=by omega
   subst e
   have HW:=hide (hr.whole rfl (by omega))
   clear hr g5
   go_wp2_with fail
   go_ret
   obtain⟨F,hF,hnd,hrg⟩:=zaa HW
   exact⟨_,_,rfl,F,hF,hnd,hrg,hB⟩
theorem zsk (w:Xe) (x y:Xf) (T:Xg):∀(j:Nat) (u:Xf),[x,y][j]? = some u->(w.alloc (.cells #[x,y] T)).cell? ((⟨w.heap.size,0,none⟩:Addr).add j)=some u:=by
 intro j u hu
 exact World.news_of_block (heap_alloc_new w (.cells #[x,y] T)) j u (by simpa using hu)
theorem zqM {w w':Xe} {b b':Nat} {u v:Xf} {l m:Xa} (h:Own w b u l) (k:Own w' b' v m) (hs:w.heap.size<=b'):(FB u++FB v).Nodup∧∀q∈FB u++FB v,q<w'.heap.size∨q<w.heap.size:=by
 refine⟨List.nodup_append.2 ⟨?_,?_,?_⟩,?_⟩
 ·unfold FB;cases u.ownBlock<;>simp
 ·unfold FB;cases v.ownBlock<;>simp
 ·intro a ha c hc e
  have h1:=(h.lt a (by simpa [FB]using ha)).2
  have h2:=(k.lt c (by simpa [FB]using hc)).1
  omega
 ·intro q hq
  rcases List.mem_append.1 hq with hq | hq
  ·exact .inr (h.lt q (by simpa [FB]using hq)).2
  ·exact .inl (k.lt q (by simpa [FB]using hq)).2
theorem zqo {w0n:Nat} {wr w2 w3:Xe} {b2:Nat} {v v2 v3:Xf} {l:List (Xa×Xa)} {x1 x2:Xa} {F:Xb} (hE:Below wr.heap.size wr w3) (h2:Own w2 b2 v2 x1) (hB3:Below w2.heap.size w2 w3) (h3:Own w3 w2.heap.size v3 x2) (hs:wr.heap.size<w2.heap.size)
  (hF:OwElems wr 144 2 v l (OwAttr wr) F) (hR:Rng F w0n wr.heap.size) (hb2:wr.heap.size<b2) {A:Array Xf} {T:Xg} :
  OwElems (w3.alloc (.cells A T)) 144 2 v l (OwAttr (w3.alloc (.cells A T))) F∧OwAttr (w3.alloc (.cells A T)) [v2,v3] (x1,x2) (FB v2++FB v3)∧(FB v2++FB v3).Nodup∧(∀g∈F,g∉FB v2++FB v3)∧(∀q,q∈F∨q∈FB v2++FB v3->q<(w3.alloc (.cells A T)).heap.size)∧(wr.heap.size∉FB v)∧(∀q∈FB v,q∈F)∧(∀q∈FB v2++FB v3,wr.heap.size<q):=by
 have hE4:Below wr.heap.size wr (w3.alloc (.cells A T)):=zad hE ((Below.refl _ _).alloc (Nat.le_refl _) _)
 have h24:Own (w3.alloc (.cells A T)) b2 v2 x1:=(h2.keep hB3).alloc _
 have h34:Own (w3.alloc (.cells A T)) w2.heap.size v3 x2:=h3.alloc _
 have hFl:∀g∈F,g<wr.heap.size:=fun g hg=>(hR g hg).2
 obtain⟨nd,_⟩:=zqM h2 h3 (Nat.le_refl _)
 have hge:∀q∈FB v2++FB v3,wr.heap.size<q∧q<(w3.alloc (.cells A T)).heap.size:=by
  intro q hq
  rcases List.mem_append.1 hq with hq | hq
  ·have:=h24.lt q (by simpa [FB]using hq);omega
  ·have:=h34.lt q (by simpa [FB]using hq);have:=(h2.lt);have h5:=hs;exact⟨by have:=h24.lt;omega,by omega⟩
 refine⟨OwAttrs.frm hF (Frm.ofBelow hE4 []) (fun _ _=>by simp),⟨v2,v3,rfl,h24.mono (Nat.zero_le _),h34.mono (Nat.zero_le _),rfl⟩,nd,fun g hg hg'=>by have:=hFl g hg;have:=(hge g hg').1;omega,fun q hq=> ?_,fun hq=> ?_,fun q hq=> ?_,fun q hq=>(hge q hq).1⟩
 ·rcases hq with hq | hq
  ·have:=hFl q hq;have:=hE4.size;omega
  ·exact (hge q hq).2
 ·obtain⟨_,_,_,_,_,h5,rfl⟩:=hF
  have:=hFl _ (List.mem_append_left _ hq)
  omega
 ·obtain⟨_,_,_,_,_,h5,rfl⟩:=hF
  exact List.mem_append_left _ hq
set_option maxHeartbeats 6400000 in
theorem zjv (w:Xe) (v:Xf) (l:List (Xa×Xa)) (h:RdAttrs w v l) (hl:l.length<=4194304) (hx:∀x∈l,x.1.length<=4194304∧x.2.length<=4194304) :
  Calls Tryz.prog 126 #[v] w fun e w'=>∃u,e=.returned u∧∃F,OwAttrs w' u l F∧F.Nodup∧Rng F w.heap.size w'.heap.size∧Below w.heap.size w w':=by
 obtain⟨ad,cd,rfl,_,_⟩:=Elems.shape h
 obtain⟨i0,hi,hz0,hz1,hz2⟩:=info_parts Tryz.info144
 have hm:(l.length:Int)<=9223372036854775807:=by omega
 go_enter Tryz.func126,Tryz.ntmps126
 go_wp2_with fail
 go_loopw [3,8] (fun b i wr=>∃j:Nat,j<=l.length∧i=.int .i64 j∧∃F,OwAttrs wr b (l.take j) F∧F.Nodup∧Rng F w.heap.size wr.heap.size∧Below w.heap.size w wr) (fun _ i _=>l.length-(intOf i).toNat)
 case atStart=>exact⟨0,Nat.zero_le _,rfl,[],⟨[],[],by simp,by simp,fun i hi=>by simp at hi,World.ownsRow_nil _ _ _ _,rfl⟩,List.nodup_nil,fun g hg=>by simp at hg,Below.refl _ _⟩
 case round=>
  obtain⟨j,hj,rfl,F,hF,hN,hRg,hB⟩:=hrel
  by_cases hjl:j<l.length
  ·have hst:l.take (j+1)=l.take j++[l[j]]:=List.take_succ_eq_append_getElem hjl
   obtain⟨pb,poff,rfl,hpl,hun,_,C,hC,hcell,hra⟩:=h.at hjl
   clear hun
   have hxl:=hx l[j] (List.getElem_mem hjl)
   obtain⟨x,hxx⟩:∃x,x=l[j]:=⟨_,rfl⟩
   rw [<-hxx]at hra hst hxl
   obtain⟨y0,y1,rfl,hy0,hy1⟩:=hra
   have q0:=hcell 0 (by omega)
   have q1:=hcell 1 (by omega)
   simp only [List.getElem?_cons_zero,List.getElem?_cons_succ,Nat.add_zero]at q0 q1
   obtain⟨s0,g0,rfl,_,_⟩:=hy0.shape
   obtain⟨s1,g1,rfl,_,_⟩:=hy1.shape
   have u0:wr.cell? ⟨pb,poff+j*2,none⟩=some (.slice s0 x.1.length g0):=(hB.cell (p:=⟨pb,poff+j*2,none⟩) hpl).trans q0
   have u1:wr.cell? ⟨pb,poff+j*2+1,none⟩=some (.slice s1 x.2.length g1):=(hB.cell (p:=⟨pb,poff+j*2+1,none⟩) hpl).trans q1
   have hjl':(j:Int)<(l.length:Int):=by omega
   have hB1:Below wr.heap.size wr (wr.alloc (.cells #[.slice s0 x.1.length g0,.slice s1 x.2.length g1] 144)):=(Below.refl _ _).alloc (Nat.le_refl _) _
   have a1:=Loc.made wr #[.slice s0 x.1.length g0,.slice s1 x.2.length g1] 144
   have HF:=hide (show OwElems wr 144 2 _ (l.take j) (OwAttr wr) F from hF)
   have hlj:(l.take j).length=j:=by rw [List.length_take];omega
   have HST:=hide hst
   clear hF hst hxx hcell
   go_wp2_with fail
   generalize (wr.alloc (.cells #[.slice s0 x.1.length g0,.slice s1 x.2.length g1] 144))=w1 at *
   have hW1:=zad hB hB1
   have H1:=hide (zdC w1.drew (.slice s0 x.1.length g0) x.1 (hy0.keep (hW1.drew)) (by omega))
   have ad0:=a1.all ((Below.refl w1.heap.size w1).drew)
   have z0:w1.drew.cell? ⟨wr.heap.size,0,none⟩=some (.slice s0 x.1.length g0):=ad0.cell 0
   have z1:w1.drew.cell? ⟨wr.heap.size,1,none⟩=some (.slice s1 x.2.length g1):=ad0.cell 1
   have b0:w1.cell? ⟨wr.heap.size,0,none⟩=some (.slice s0 x.1.length g0):=a1.cell 0
   have b1:w1.cell? ⟨wr.heap.size,1,none⟩=some (.slice s1 x.2.length g1):=a1.cell 1
   have HR:=hide hRg
   have HNd:=hide hN
   clear hRg hN u0 u1
   go_region_held3 (fun w'=>w'.cell? ⟨wr.heap.size,0,none⟩=some (.slice s0 x.1.length g0)∧w'.cell? ⟨wr.heap.size,1,none⟩=some (.slice s1 x.2.length g1))
    (first | exact⟨by assumption,by assumption⟩ | simp [*])
    (first
     | (go_at_call 123;refine (zaa H1).mono ?_;clear H1;rintro e w2 ⟨v2,rfl,ho2,hB2⟩;have a2:=ad0.all hB2;have z0:w2.cell? ⟨wr.heap.size,0,none⟩=some (.slice s0 x.1.length g0):=a2.cell 0;have z1:w2.cell? ⟨wr.heap.size,1,none⟩=some (.slice s1 x.2.length g1):=a2.cell 1;have hW2:=zad hW1.drew hB2;have hE2:Below wr.heap.size wr w2:=zad hB1.drew hB2;obtain⟨p2,k2,hv2,_,_⟩:=ho2.byt.shape;subst hv2)
     | (go_at_call 123;refine (zdC w2 (.slice s1 x.2.length g1) x.2 (hy1.keep hW2) (by omega)).mono ?_;rintro e w3 ⟨v3,rfl,ho3,hB3⟩;have a3:=a2.all hB3;have z0:w3.cell? ⟨wr.heap.size,0,none⟩=some (.slice s0 x.1.length g0):=a3.cell 0;have z1:w3.cell? ⟨wr.heap.size,1,none⟩=some (.slice s1 x.2.length g1):=a3.cell 1;have hW3:=zad hW2 hB3;have hE3:Below wr.heap.size wr w3:=zad hE2 hB3;obtain⟨p3,k3,hv3,_,_⟩:=ho3.byt.shape;subst hv3;have z0':(w3.alloc (.cells #[.slice p2 x.1.length k2,.slice p3 x.2.length k3] 144)).cell? ⟨wr.heap.size,0,none⟩=some (.slice s0 x.1.length g0):=(a3.alloc _).cell 0;have z1':(w3.alloc (.cells #[.slice p2 x.1.length k2,.slice p3 x.2.length k3] 144)).cell? ⟨wr.heap.size,1,none⟩=some (.slice s1 x.2.length g1):=(a3.alloc _).cell 1;have HY:=hide (zqo (A:= #[.slice p2 x.1.length k2,.slice p3 x.2.length k3]) (T:=144) hE3 ho2 hB3 ho3 (Nat.lt_of_lt_of_le a1.lt hB2.size) (zaa HF) (zaa HR) a1.lt))
     | (refine zbQ (R:=OwAttr) (fun h f d=>OwAttr.frm h f d) rfl (.tmp 12) (.tmp 20) 34 rfl 144 i0 (.agg #[.slice none 0 0,.slice none 0 0]) 2 48 Tryz.underlying34 hi hz0 hz1 hz2 rfl (by decide) _ (l.take j) F (by rfl) (zaa HY).1 (zaa HNd) ⟨w3.heap.size,0,none⟩ 1 [.slice p2 x.1.length k2,.slice p3 x.2.length k3] x (FB (.slice p2 x.1.length k2)++FB (.slice p3 x.2.length k3)) (by rfl) rfl (zsk w3 _ _ _) (by intro y hy;simp at hy;rcases hy with rfl | rfl<;>rfl) (zaa HY).2.1 (zaa HY).2.2.1 (zaa HY).2.2.2.1 (zaa HY).2.2.2.2.1 (by rw [hlj];unfold maxLen;omega) (by rw [hlj];omega) ?_;intro g9 cap9 w9 F9 hF9 hN9 hM9 hf9 hg9;have a9:=(a3.alloc (.cells #[.slice p2 x.1.length k2,.slice p3 x.2.length k3] 144)).frm hf9 ((zaa HY).2.2.2.2.2.1);have z0:w9.cell? ⟨wr.heap.size,0,none⟩=some (.slice s0 x.1.length g0):=a9.cell 0;have z1:w9.cell? ⟨wr.heap.size,1,none⟩=some (.slice s1 x.2.length g1):=a9.cell 1))
   have hW4:Below w.heap.size w (w3.alloc (.cells #[.slice p2 x.1.length k2,.slice p3 x.2.length k3] 144)):=zad hW3 ((Below.refl _ _).alloc (Nat.le_refl _) _)
   have hW9:Below w.heap.size w w9:=hW4.trans (hf9.below hW4.size (fun q hq=>(zaa HR q ((zaa HY).2.2.2.2.2.2.1 q hq)).1))
   have HO9:=hide (show OwAttrs w9 (.slice (some ⟨g9,0,none⟩) (j+1) cap9) (l.take (j+1)) F9 by
    rw [zaa HST]
    rw [hlj]at hF9
    exact hF9)
   have HR9:=hide (show Rng F9 w.heap.size w9.heap.size from fun q hq=>⟨by
    rcases hM9 q hq with k | k | k
    ·exact (zaa HR q k).1
    ·have:=(zaa HY).2.2.2.2.2.2.2 q k;have:=hB.size;omega
    ·rw [k];exact hW4.size,OwAttrs.lt (zaa HO9) q hq⟩)
   clear hF9 hM9
   go_wp2_with fail
   go_roundw
   case rel=>exact⟨j+1,by omega,by go_num,F9,zaa HO9,hN9,zaa HR9,hW9⟩
   case measure=>simp [intOf];omega
  ·have e:j=l.length:=by omega
   subst e
   rw [List.take_length]at hF
   go_wp2_with fail
   go_ret
   exact⟨_,rfl,F,hF,hN,hRg,hB⟩
def Cl1 (w1:Xe) (bn pr:Nat) (T0 nmv txv atv:Xf) (kd:Int) (ln lt:Xa) (la:List (Xa×Xa)) (L:Array Bool) (a:Act) (w:Xe):Prop:=
 ∃b0 b1 b2 b3 b4 b5 b6 b7 b8 b9 b10 b11 b12 x3 x4 x5 x6 x7 x8 x9 x10 x11 x12 x13 x14,L = #[b0,b1,b2,b3,b4,b5,b6,b7,b8,b9,b10,b11,b12]∧a={ tmps:= #[T0,.pointer (some ⟨bn,0,none⟩),.pointer (some ⟨pr,0,none⟩),x3,x4,x5,x6,x7,x8,x9,x10,x11,x12,x13,x14],defers:=[] }∧Frm w1 w [pr]∧Loc w pr (if b12=true then #[.int .i64 kd,x7,x10,x13,.slice none 0 0] else #[.int .i64 0,.slice none 0 0,.slice none 0 0,.slice none 0 0,.slice none 0 0]) 37∧(b0=true->x3=.pointer (some ⟨bn,0,none⟩))∧(b1=true->x4=.int .i64 kd)∧(b2=true->x5=.pointer (some ⟨bn,1,none⟩))∧(b3=true->x6=nmv)∧(b4=true->Own w w1.heap.size x7 ln)∧(b5=true->x8=.pointer (some ⟨bn,2,none⟩))∧(b6=true->x9=txv)∧(b7=true->b4=true∧Own w w1.heap.size x10 lt∧∀q∈FB x10,q∉FB x7)∧(b8=true->x11=.pointer (some ⟨bn,3,none⟩))∧(b9=true->x12=atv)∧(b10=true->b7=true∧∃Fa,OwAttrs w x13 la Fa∧Fa.Nodup∧Rng Fa w1.heap.size w.heap.size∧∀q∈Fa,q∉FB x7∧q∉FB x10)∧(b11=true->b10=true∧x14=.agg #[.int .i64 kd,x7,x10,x13,.slice none 0 0])∧(b12=true->b11=true)
theorem zpg {i:Nat} (h:i<13):i=0∨i=1∨i=2∨i=3∨i=4∨i=5∨i=6∨i=7∨i=8∨i=9∨i=10∨i=11∨i=12:=by omega
set_option maxHeartbeats 6400000 in
theorem zev (n:Nat) (w0:Xe) (a b c d e:Xf) (t:Tr (n+1)) (hrd:RdNode (n+1) w0 [a,b,c,d,e] t) (hsz:szT (n+1) t<=2097152) :
  Calls Tryz.prog 94 #[.agg #[a,b,c,d,e]] w0 fun e w'=>∃p2 k2 p3 k3 p4 k4,e=.returned (.agg #[.int .i64 t.kind,.slice p2 t.name.length k2,.slice p3 t.text.length k3,.slice p4 t.attrs.length k4,.slice none 0 0])∧
   ∃Fa,Own w' 0 (.slice p2 t.name.length k2) t.name∧Own w' 0 (.slice p3 t.text.length k3) t.text∧OwAttrs w' (.slice p4 t.attrs.length k4) t.attrs Fa∧(FB (.slice p2 t.name.length k2)++FB (.slice p3 t.text.length k3)++Fa).Nodup∧Rng (FB (.slice p2 t.name.length k2)++FB (.slice p3 t.text.length k3)++Fa) (w0.heap.size+2) w'.heap.size∧Below w0.heap.size w0 w':=by
 have hszT:szT (n+1) t=t.name.length+t.text.length+szA t.attrs+(t.kids.length+(t.kids.map (szT n)).sum):=rfl
 obtain⟨_,_,_,_,e0,k1,k2,hb,hc,hd,he⟩:=hrd
 simp only [List.cons.injEq,and_true]at e0
 obtain⟨rfl,rfl,rfl,rfl,rfl⟩:=e0
 obtain⟨ab,cb,rfl,_,_⟩:=hb.shape
 obtain⟨ac,cc,rfl,_,_⟩:=hc.shape
 obtain⟨ad,cd,rfl,_,_⟩:=Elems.shape hd
 obtain⟨ae,ce,rfl,_,_⟩:=Elems.shape he
 obtain⟨l0,l1,hB1⟩:=two w0 #[.int .i64 t.kind,.slice ab t.name.length cb,.slice ac t.text.length cc,.slice ad t.attrs.length cd,.slice ae t.kids.length ce] #[.int .i64 0,.slice none 0 0,.slice none 0 0,.slice none 0 0,.slice none 0 0] 37 37
 have hal:t.attrs.length<=4194304:=by unfold szA at hszT;omega
 have hnl:t.name.length<=4194304:=by omega
 have htl:t.text.length<=4194304:=by omega
 have hax:∀x∈t.attrs,x.1.length<=4194304∧x.2.length<=4194304:=fun x hx=>by have:=zsq hx;omega
 clear hszT
 go_enter Tryz.func94,Tryz.ntmps94
 go_wp2_with fail
 generalize hW1:(w0.alloc (.cells #[.int .i64 t.kind,.slice ab t.name.length cb,.slice ac t.text.length cc,.slice ad t.attrs.length cd,.slice ae t.kids.length ce] 37)).alloc (.cells #[.int .i64 0,.slice none 0 0,.slice none 0 0,.slice none 0 0,.slice none 0 0] 37)=w1 at *
 have hs1:w0.heap.size+2<=w1.heap.size:=by rw [<-hW1];simp
 clear hW1
 have HAX:=hide hax
 clear hax
 have hbp:w0.heap.size∉[w0.heap.size+1]:=by simp
 have hBw:∀{w:Xe},Frm w1 w [w0.heap.size+1]->Below w0.heap.size w0 w:=fun f=>hB1.trans (f.below hB1.size (fun q hq=>by simp at hq;omega))
 refine zbT (by kernel_rfl) (Cl1 w1 w0.heap.size (w0.heap.size+1) (.agg #[.int .i64 t.kind,.slice ab t.name.length cb,.slice ac t.text.length cc,.slice ad t.attrs.length cd,.slice ae t.kids.length ce]) (.slice ab t.name.length cb) (.slice ac t.text.length cc) (.slice ad t.attrs.length cd) t.kind t.name t.text t.attrs) ?sz ?h0 ?step ?dn
 case sz=>
   rintro L a w ⟨b0,b1,b2,b3,b4,b5,b6,b7,b8,b9,b10,b11,b12,x3,x4,x5,x6,x7,x8,x9,x10,x11,x12,x13,x14,rfl,_⟩
   rfl
 case h0=>
   refine⟨false,false,false,false,false,false,false,false,false,false,false,false,false,undef,undef,undef,undef,undef,undef,undef,undef,undef,undef,undef,undef,rfl,rfl,Frm.ofBelow ((Below.refl _ _).drew) _,l1.all ((Below.refl _ _).drew),?_⟩
   simp
 case step=>
   intro L a w i o hI hi ho
   obtain⟨b0,b1,b2,b3,b4,b5,b6,b7,b8,b9,b10,b11,b12,x3,x4,x5,x6,x7,x8,x9,x10,x11,x12,x13,x14,rfl,rfl,h0,h1,f0,f1,f2,f3,f4,f5,f6,f7,f8,f9,f10,f11,f12⟩:=hI
   rcases zpg (zcs hi)with rfl | rfl | rfl | rfl | rfl | rfl | rfl | rfl | rfl | rfl | rfl | rfl | rfl
   ·obtain rfl:=Option.some.inj ho
    go_simp
    exact⟨true,b1,b2,b3,b4,b5,b6,b7,b8,b9,b10,b11,b12,_,x4,x5,x6,x7,x8,x9,x10,x11,x12,x13,x14,rfl,rfl,h0,h1,(fun _=>rfl),f1,f2,f3,f4,f5,f6,f7,f8,f9,f10,f11,f12⟩
   ·have g0:=zac hi ho 0
    obtain rfl:=Option.some.inj ho
    have e0:=f0 (g0 (by kernel_rfl))
    subst e0
    have c0:w.cell? ⟨w0.heap.size,0,none⟩=some (.int .i64 t.kind):=(l0.frm h0 hbp).cell 0
    go_simp
    exact⟨b0,true,b2,b3,b4,b5,b6,b7,b8,b9,b10,b11,b12,_,_,x5,x6,x7,x8,x9,x10,x11,x12,x13,x14,rfl,rfl,h0,h1,f0,(fun _=>rfl),f2,f3,f4,f5,f6,f7,f8,f9,f10,f11,f12⟩
   ·obtain rfl:=Option.some.inj ho
    go_simp
    exact⟨b0,b1,true,b3,b4,b5,b6,b7,b8,b9,b10,b11,b12,x3,x4,_,x6,x7,x8,x9,x10,x11,x12,x13,x14,rfl,rfl,h0,h1,f0,f1,(fun _=>rfl),f3,f4,f5,f6,f7,f8,f9,f10,f11,f12⟩
   ·have g2:=zac hi ho 2
    obtain rfl:=Option.some.inj ho
    have e2:=f2 (g2 (by kernel_rfl))
    subst e2
    have c0:w.cell? ⟨w0.heap.size,1,none⟩=some (.slice ab t.name.length cb):=(l0.frm h0 hbp).cell 1
    go_simp
    exact⟨b0,b1,b2,true,b4,b5,b6,b7,b8,b9,b10,b11,b12,x3,x4,_,_,x7,x8,x9,x10,x11,x12,x13,x14,rfl,rfl,h0,h1,f0,f1,f2,(fun _=>rfl),f4,f5,f6,f7,f8,f9,f10,f11,f12⟩
   ·have g3:=zac hi ho 3
    obtain rfl:=Option.some.inj ho
    have e3:=f3 (g3 (by kernel_rfl))
    subst e3
    have hb4:b4=false:=by simpa using zai rfl hi
    have hb12:b12=false:=by
     cases b12 with
     | false=>rfl
     | true=>have:=(f7 (f10 (f11 (f12 rfl)).1).1).1;rw [hb4]at this;cases this
    subst hb12
    go_simp
    refine (zdC w _ t.name (hb.keep (hBw h0)) (by omega)).mono ?_
    rintro e w' ⟨v',rfl,ho',hb'⟩
    exact⟨b0,b1,b2,b3,true,b5,b6,b7,b8,b9,b10,b11,false,x3,x4,x5,_,_,x8,x9,x10,x11,x12,x13,x14,rfl,rfl,h0.trans (Frm.ofBelow hb' _),h1.all hb',f0,f1,f2,f3,(fun _=>ho'.mono h0.size),f5,f6,(fun h=>by rw [(f7 h).1]at hb4;cases hb4),f8,f9,(fun h=>by have:=(f7 (f10 h).1).1;rw [hb4]at this;cases this),(fun h=>by have:=(f7 (f10 (f11 h).1).1).1;rw [hb4]at this;cases this),f12⟩
   ·obtain rfl:=Option.some.inj ho
    go_simp
    exact⟨b0,b1,b2,b3,b4,true,b6,b7,b8,b9,b10,b11,b12,x3,x4,x5,x6,x7,_,x9,x10,x11,x12,x13,x14,rfl,rfl,h0,h1,f0,f1,f2,f3,f4,(fun _=>rfl),f6,f7,f8,f9,f10,f11,f12⟩
   ·have g5:=zac hi ho 5
    obtain rfl:=Option.some.inj ho
    have e5:=f5 (g5 (by kernel_rfl))
    subst e5
    have c0:w.cell? ⟨w0.heap.size,2,none⟩=some (.slice ac t.text.length cc):=(l0.frm h0 hbp).cell 2
    go_simp
    exact⟨b0,b1,b2,b3,b4,b5,true,b7,b8,b9,b10,b11,b12,x3,x4,x5,x6,x7,_,_,x10,x11,x12,x13,x14,rfl,rfl,h0,h1,f0,f1,f2,f3,f4,f5,(fun _=>rfl),f7,f8,f9,f10,f11,f12⟩
   ·have g6:=zac hi ho 6
    have g4:=zac hi ho 4
    obtain rfl:=Option.some.inj ho
    have e6:=f6 (g6 (by kernel_rfl))
    have e4:b4=true:=g4 (by kernel_rfl)
    subst e6 e4
    have hb7:b7=false:=by simpa using zai rfl hi
    have hb12:b12=false:=by
     cases b12 with
     | false=>rfl
     | true=>have:=(f10 (f11 (f12 rfl)).1).1;rw [hb7]at this;cases this
    subst hb12
    go_simp
    refine (zdC w _ t.text (hc.keep (hBw h0)) (by omega)).mono ?_
    rintro e w' ⟨v',rfl,ho',hb'⟩
    exact⟨b0,b1,b2,b3,true,b5,b6,true,b8,b9,b10,b11,false,x3,x4,x5,x6,x7,x8,_,_,x11,x12,x13,x14,rfl,rfl,h0.trans (Frm.ofBelow hb' _),h1.all hb',f0,f1,f2,f3,(fun h=>(f4 h).keep hb'),f5,f6,(fun _=>⟨rfl,ho'.mono h0.size,fun q hq hq'=>by have:=(ho'.lt q (by simpa [FB]using hq)).1;have:=((f4 rfl).lt q (by simpa [FB]using hq')).2;omega⟩),f8,f9,(fun h=>by rw [(f10 h).1]at hb7;cases hb7),(fun h=>by have:=(f10 (f11 h).1).1;rw [hb7]at this;cases this),f12⟩
   ·obtain rfl:=Option.some.inj ho
    go_simp
    exact⟨b0,b1,b2,b3,b4,b5,b6,b7,true,b9,b10,b11,b12,x3,x4,x5,x6,x7,x8,x9,x10,_,x12,x13,x14,rfl,rfl,h0,h1,f0,f1,f2,f3,f4,f5,f6,f7,(fun _=>rfl),f9,f10,f11,f12⟩
   ·have g8:=zac hi ho 8
    obtain rfl:=Option.some.inj ho
    have e8:=f8 (g8 (by kernel_rfl))
    subst e8
    have c0:w.cell? ⟨w0.heap.size,3,none⟩=some (.slice ad t.attrs.length cd):=(l0.frm h0 hbp).cell 3
    go_simp
    exact⟨b0,b1,b2,b3,b4,b5,b6,b7,b8,true,b10,b11,b12,x3,x4,x5,x6,x7,x8,x9,x10,_,_,x13,x14,rfl,rfl,h0,h1,f0,f1,f2,f3,f4,f5,f6,f7,f8,(fun _=>rfl),f10,f11,f12⟩
   ·have g9:=zac hi ho 9
    have g7:=zac hi ho 7
    obtain rfl:=Option.some.inj ho
    have e9:=f9 (g9 (by kernel_rfl))
    have e7:b7=true:=g7 (by kernel_rfl)
    have e4:=(f7 e7).1
    subst e9 e7 e4
    have hb10:b10=false:=by simpa using zai rfl hi
    have hb12:b12=false:=by
     cases b12 with
     | false=>rfl
     | true=>have:=(f11 (f12 rfl)).1;rw [hb10]at this;cases this
    subst hb12
    go_simp
    refine (zjv w _ t.attrs (RdAttrs.keep hd (hBw h0)) hal (zaa HAX)).mono ?_
    rintro e w' ⟨v',rfl,Fa,ho',nd',r',hb'⟩
    exact⟨b0,b1,b2,b3,true,b5,b6,true,b8,b9,true,b11,false,x3,x4,x5,x6,x7,x8,x9,x10,x11,_,_,x14,rfl,rfl,h0.trans (Frm.ofBelow hb' _),h1.all hb',f0,f1,f2,f3,(fun h=>(f4 h).keep hb'),f5,f6,(fun h=>⟨(f7 h).1,(f7 h).2.1.keep hb',(f7 h).2.2⟩),f8,f9,(fun _=>⟨rfl,Fa,ho',nd',r'.mono h0.size (Nat.le_refl _),fun q hq=>⟨fun hq'=>by have:=(r' q hq).1;have:=((f4 rfl).lt q (by simpa [FB]using hq')).2;omega,fun hq'=>by have:=(r' q hq).1;have:=((f7 rfl).2.1.lt q (by simpa [FB]using hq')).2;omega⟩⟩),(fun h=>by rw [(f11 h).1]at hb10;cases hb10),f12⟩
   ·have g1:=zac hi ho 1
    have g10:=zac hi ho 10
    obtain rfl:=Option.some.inj ho
    have e1:=f1 (g1 (by kernel_rfl))
    have e10:b10=true:=g10 (by kernel_rfl)
    have e7:=(f10 e10).1
    have e4:=(f7 e7).1
    subst e1 e10 e7 e4
    obtain⟨p2,k2',hv2,_,_⟩:=(f4 rfl).byt.shape
    obtain⟨p3,k3',hv3,_,_⟩:=(f7 rfl).2.1.byt.shape
    obtain⟨_,Fa,q1,q2,q3,q4⟩:=f10 rfl
    obtain⟨p4,k4',hv4⟩:∃p4 k4',x13=.slice p4 t.attrs.length k4':=by
     obtain⟨_,_,_,_,_,e4,_⟩:=q1
     exact zbA e4
    subst hv2 hv3 hv4
    go_simp
    exact⟨b0,b1,b2,b3,true,b5,b6,true,b8,b9,true,true,b12,x3,_,x5,x6,_,x8,x9,_,x11,x12,_,_,rfl,rfl,h0,h1,f0,f1,f2,f3,f4,f5,f6,f7,f8,f9,f10,(fun _=>⟨rfl,rfl⟩),(fun h=>rfl)⟩
   ·have g11:=zac hi ho 11
    obtain rfl:=Option.some.inj ho
    have e11:b11=true:=g11 (by kernel_rfl)
    obtain⟨e10,e14⟩:=f11 e11
    have e7:=(f10 e10).1
    have e4:=(f7 e7).1
    have hb12:b12=false:=by simpa using zai rfl hi
    subst e4 e7 e10 e11 e14 hb12
    replace h1:Loc w (w0.heap.size+1) #[.int .i64 0,.slice none 0 0,.slice none 0 0,.slice none 0 0,.slice none 0 0] 37:=h1
    obtain⟨p2,k2',hv2,_,_⟩:=(f4 rfl).byt.shape
    obtain⟨p3,k3',hv3,_,_⟩:=(f7 rfl).2.1.byt.shape
    obtain⟨_,Fa,r1,r2,r3,r4⟩:=f10 rfl
    obtain⟨p4,k4',hv4⟩:∃p4 k4',x13=.slice p4 t.attrs.length k4':=by
     obtain⟨_,_,_,_,_,e4,_⟩:=r1
     exact zbA e4
    subst hv2 hv3 hv4
    obtain⟨y0,y1,y2,y3,y4⟩:=h1.five
    have u0:=h1.frozen 0
    have u1:=h1.frozen 1
    have u2:=h1.frozen 2
    have u3:=h1.frozen 3
    have u4:=h1.frozen 4
    obtain⟨s1,s2⟩:=zbB h1 (.int .i64 t.kind) (.slice p2 t.name.length k2') (.slice p3 t.text.length k3') (.slice p4 t.attrs.length k4') (.slice none 0 0)
    have s3:=h0.trans s2
    have s4:=(f4 rfl).frm s2 (fun g hg hg'=>by have:=((f4 rfl).lt g (by simpa [FB]using hg)).1;simp at hg';omega)
    have s5:=(f7 rfl).2.1.frm s2 (fun g hg hg'=>by have:=((f7 rfl).2.1.lt g (by simpa [FB]using hg)).1;simp at hg';omega)
    have s6:=OwAttrs.frm r1 s2 (fun g hg hg'=>by have:=(r3 g hg).1;simp at hg';omega)
    go_simp
    exact⟨b0,b1,b2,b3,true,b5,b6,true,b8,b9,true,true,true,x3,x4,x5,x6,_,x8,x9,_,x11,x12,_,_,rfl,rfl,s3,s1,f0,f1,f2,f3,(fun _=>s4),f5,f6,(fun _=>⟨rfl,s5,(f7 rfl).2.2⟩),f8,f9,(fun _=>⟨rfl,Fa,s6,r2,r3.mono (Nat.le_refl _) s2.size,r4⟩),(fun _=>⟨rfl,rfl⟩),(fun _=>rfl)⟩
 case dn=>
  intro L a w2 hI hre
  have hall:=zbF (L:=L) (by obtain⟨b0,b1,b2,b3,b4,b5,b6,b7,b8,b9,b10,b11,b12,x3,x4,x5,x6,x7,x8,x9,x10,x11,x12,x13,x14,rfl,_⟩:=hI;rfl) (by kernel_rfl) hre 13
  obtain⟨b0,b1,b2,b3,b4,b5,b6,b7,b8,b9,b10,b11,b12,x3,x4,x5,x6,x7,x8,x9,x10,x11,x12,x13,x14,rfl,rfl,h0,h1,f0,f1,f2,f3,f4,f5,f6,f7,f8,f9,f10,f11,f12⟩:=hI
  have s12:b12=true:=hall 12 (by omega) (by decide)
  have e11:=f12 s12
  obtain⟨e10,e14⟩:=f11 e11
  have e7:=(f10 e10).1
  have e4:=(f7 e7).1
  subst s12 e11 e10 e7 e4
  replace h1:Loc w2 (w0.heap.size+1) #[.int .i64 t.kind,x7,x10,x13,.slice none 0 0] 37:=h1
  have r0:=f4 rfl
  obtain⟨_,r1,r1d⟩:=f7 rfl
  obtain⟨_,Fa,r2,r3,r4,r5⟩:=f10 rfl
  have hB2:=hBw h0
  clear hall f0 f1 f2 f3 f4 f5 f6 f7 f8 f9 f10 f11 f12 hre h0
  obtain⟨p2,k2',hv2,_,_⟩:=r0.byt.shape
  obtain⟨p3,k3',hv3,_,_⟩:=r1.byt.shape
  obtain⟨p4,k4',hv4⟩:∃p4 k4',x13=.slice p4 t.attrs.length k4':=by
   obtain⟨_,_,_,_,_,e4,_⟩:=r2
   exact zbA e4
  subst hv2 hv3 hv4
  obtain⟨g0,g1,g2,g3,g4⟩:=h1.five
  have nd:(FB (.slice p2 t.name.length k2')++FB (.slice p3 t.text.length k3')++Fa).Nodup:=by
   refine List.nodup_append.2 ⟨List.nodup_append.2 ⟨zaF _,zaF _,fun a ha b hb e=>r1d b hb (e ▸ ha)⟩,r3,fun a ha b hb e=> ?_⟩
   subst e
   rcases List.mem_append.1 ha with ha | ha
   ·exact (r5 a hb).1 ha
   ·exact (r5 a hb).2 ha
  have rg:Rng (FB (.slice p2 t.name.length k2')++FB (.slice p3 t.text.length k3')++Fa) (w0.heap.size+2) w2.heap.size:=((r0.rng.mono hs1 (Nat.le_refl _)).app (r1.rng.mono hs1 (Nat.le_refl _))).app (r4.mono hs1 (Nat.le_refl _))
  have HF:=hide (And.intro (r0.mono (base':=0) (Nat.zero_le _)) (And.intro (r1.mono (base':=0) (Nat.zero_le _)) (And.intro r2 (And.intro nd (And.intro rg hB2)))))
  clear r0 r1 r1d r2 r3 r4 r5 nd rg hB2
  go_wp2_with fail
  obtain⟨q1,q2,q3,q4,q5,q6⟩:=zaa HF
  exact bodyPost_ret (v:=.agg #[.int .i64 t.kind,.slice p2 t.name.length k2',.slice p3 t.text.length k3',.slice p4 t.attrs.length k4',.slice none 0 0]) (by simp [results,Tryz.results94,go_sem,g0,g1,g2,g3,g4]) rfl ⟨p2,k2',p3,k3',p4,k4',rfl,q1,q2,Fa,q3,by rw [<-List.append_assoc];exact q4,by rw [<-List.append_assoc];exact q5,q6⟩
def StR (w:Xe) (sb:Nat) (a:Xc) (c:Nat) (l:List PlV) (F:Xb):Prop:=Loc w sb #[.slice a l.length c] 58∧PlsR w (.slice a l.length c) l F
theorem StR.keep {w w':Xe} {sb:Nat} {a:Xc} {c:Nat} {l:List PlV} {F:Xb} (h:StR w sb a c l F) (hb:Below w.heap.size w w'):StR w' sb a c l F:=⟨h.1.all hb,h.2.keep hb⟩
theorem StR.cells {w:Xe} {sb:Nat} {a:Xc} {c:Nat} {l:List PlV} {F:Xb} (h:StR w sb a c l F) {j:Nat} {p:PlV} (hj:l[j]? = some p) :
  ∃b k ck n cn t ct q cq,a=some ⟨b,0,none⟩∧b∈F∧w.cell? ⟨b,j*9,none⟩=some (.int .i64 p.idN)∧w.cell? ⟨b,j*9+1,none⟩=some (.int .i64 p.idR)∧w.cell? ⟨b,j*9+2,none⟩=some (.int .i64 p.parN)∧w.cell? ⟨b,j*9+3,none⟩=some (.int .i64 p.parR)∧w.cell? ⟨b,j*9+4,none⟩=some (.slice k p.key.length ck)∧w.cell? ⟨b,j*9+5,none⟩=some (.int .i64 p.kind)∧w.cell? ⟨b,j*9+6,none⟩=some (.slice n p.name.length cn)∧w.cell? ⟨b,j*9+7,none⟩=some (.slice t p.text.length ct)∧w.cell? ⟨b,j*9+8,none⟩=some (.slice q p.attrs.length cq)∧
   Byt w (.slice n p.name.length cn) p.name∧RdAttrs w (.slice q p.attrs.length cq) p.attrs∧(∀x,w.frozen? ⟨b,x,none⟩=false)∧Ints w (.slice k p.key.length ck) p.key:=by
 obtain⟨h1,h2⟩:=h
 obtain⟨hlt,rfl⟩:=List.getElem?_eq_some_iff.1 hj
 obtain⟨Cs,Fs,l1,l2,hR,hrow,hF⟩:=h2
 obtain⟨q1,q2⟩:=hR j hlt
 have hrow':=hrow
 rcases hrow.2 with ⟨_,e0⟩ | ⟨g,cap,cur,e0,hb,hg,hnc,hcm,hcs,htake⟩
 ·omega
 injection e0 with x1 _ x3
 subst x1 x3
 have hcell:=fun x (hx:x<9)=>zaU hrow' (fun i hi=>(hR i (by omega)).1) l1 j x hlt hx
 have hrd:=q2.1
 obtain⟨k,n,t,q,e,r1,r2,r3,r4⟩:=hrd
 obtain⟨ka,kc,rfl,_,_⟩:=r1.shape
 obtain⟨na,nc,rfl,_,_⟩:=r2.shape
 obtain⟨ta,tc,rfl,_,_⟩:=r3.shape
 obtain⟨qa,qc,rfl,_,_⟩:=Elems.shape r4
 rw [e]at hcell
 exact⟨g,ka,kc,na,nc,ta,tc,qa,qc,rfl,by rw [hF];simp [FB,Value.ownBlock],hcell 0 (by decide),hcell 1 (by decide),hcell 2 (by decide),hcell 3 (by decide),hcell 4 (by decide),hcell 5 (by decide),hcell 6 (by decide),hcell 7 (by decide),hcell 8 (by decide),r2,r4,fun x=>hrow'.frozenAt x,r1⟩
set_option maxHeartbeats 1600000 in
set_option maxRecDepth 1000000 in
theorem zlP (w:Xe) (u v:Xf) (a b:Xa) (hu:Ints w u a) (hv:Ints w v b) :
  Calls Tryz.prog 147 #[u,v] w fun e w'=>e=.returned (.bool (klB a b))∧Below w.heap.size w w':=by
 have hma:=hu.2.1
 have hmb:=hv.2.1
 unfold maxLen at hma hmb
 by_cases h0:a=[]∨b=[]
 ·have HE:=hide (zmb h0)
  have h0':a.length=0∨b.length=0:=by rcases h0 with rfl | rfl<;>simp
  obtain⟨a1,c1,rfl,_⟩:=hu.shape
  obtain⟨a2,c2,rfl,_⟩:=hv.shape
  clear hu hv h0
  generalize a.length=n at *
  generalize b.length=m at *
  rcases h0' with rfl | rfl
  all_goals
   go_enter Tryz.func147,Tryz.ntmps147
   go_wp2
   refine wp_loop_rounds 1 ?_
   rw [rounds_succ]
   go_wp2
   all_goals
    go_ret
    exact⟨by rw [zaa HE];simp,Below.refl _ _⟩
 have ha0:a≠[]:=fun h=>h0 (.inl h)
 have hb0:b≠[]:=fun h=>h0 (.inr h)
 obtain⟨hoka,_,⟨rfl,rfl⟩ | ⟨x,cap,rfl,hc,rfl⟩ | ⟨p,off,cap,rfl,h1,h2,h3,h4,h5⟩⟩:=hu
 ·exact absurd rfl ha0
 ·exact absurd rfl ha0
 obtain⟨hokb,_,⟨rfl,rfl⟩ | ⟨x,cap,rfl,hc,rfl⟩ | ⟨q,off',cap',rfl,g1,g2,g3,g4,g5⟩⟩:=hv
 ·exact absurd rfl hb0
 ·exact absurd rfl hb0
 generalize hA:a.length=n at *
 generalize hC:b.length=m at *
 clear h0
 go_enter Tryz.func147,Tryz.ntmps147
 go_wp2
 go_loopw [5] (fun i wr=>∃k:Nat,k<=n∧k<=m∧i=.int .i64 k∧Hid (klB a b=klB (a.drop k) (b.drop k))∧Below w.heap.size w wr) (fun i _=>n-(intOf i).toNat)
 case atStart=>exact⟨0,Nat.zero_le _,Nat.zero_le _,rfl,hide rfl,Below.refl _ _⟩
 case round=>
  obtain⟨k,hk,hk',rfl,ht,hB⟩:=hrel
  by_cases hlt:k<n∧k<m
  ·obtain⟨hka,hkb⟩:=hlt
   obtain⟨x,hx⟩:∃x,x=a.getD k 0:=⟨_,rfl⟩
   obtain⟨y,hy⟩:∃y,y=b.getD k 0:=⟨_,rfl⟩
   have c1:wr.cell? ⟨p,off+k,none⟩=some (.int .i64 x):=by rw [hx];exact (hB.cell (p:=⟨p,off+k,none⟩) h4).trans (h5 k hka)
   have c2:wr.cell? ⟨q,off' + k,none⟩=some (.int .i64 y):=by rw [hy];exact (hB.cell (p:=⟨q,off' + k,none⟩) g4).trans (g5 k hkb)
   have HX:=hide hx
   have HY:=hide hy
   have hlt':(k:Int)<(n:Int):=by omega
   have hlt2:(k:Int)<(m:Int):=by omega
   clear hx hy h5 g5
   by_cases hxy:x=y
   ·have HT:=hide ((zaa ht).trans (zqd (by omega) (by omega) (by rw [<-zaa HX,<-zaa HY];exact hxy)))
    have hne:(x != y)=false:=by simp [hxy]
    clear hxy
    go_wp2
    go_quiet (fail)
    go_wp2
    go_roundw
    case rel=>exact⟨k+1,by omega,by omega,by go_num,HT,below_drewN hB _⟩
    case measure=>simp [intOf];omega
   ·have HD:=hide ((zaa ht).trans (zpL (by omega) (by omega) (by rw [<-zaa HX,<-zaa HY];exact hxy)))
    rw [<-zaa HX,<-zaa HY]at HD
    have hne:(x != y)=true:=by simp [hxy]
    clear hxy ht
    go_wp2
    go_quiet (fail)
    go_wp2
    go_quiet (fail)
    go_wp2
    go_ret
    exact⟨by rw [zaa HD];rfl,below_drewN (below_drewN hB _) _⟩
  ·have HD:=hide ((zaa ht).trans (zqm (by omega) (by omega) (by omega)))
   rw [hA,hC]at HD
   clear h5 g5 ht
   rcases (show k=n∨(k<n∧k=m) by omega)with rfl | ⟨hlt',rfl⟩
   ·go_wp2
    go_ret
    exact⟨by rw [zaa HD];simp,hB⟩
   ·have hlt2:(k:Int)<(n:Int):=by omega
    go_wp2
    go_ret
    exact⟨by rw [zaa HD];simp,hB⟩
set_option maxHeartbeats 3200000 in
theorem zgN (w:Xe) (p q:PlV) (k1 n1 t1 a1 k2 n2 t2 a2:Xc) (ck1 cn1 ct1 ca1 ck2 cn2 ct2 ca2:Nat) (h1:Ints w (.slice k1 p.key.length ck1) p.key) (h2:Ints w (.slice k2 q.key.length ck2) q.key) :
  Calls Tryz.prog 133 #[.agg #[.int .i64 p.idN,.int .i64 p.idR,.int .i64 p.parN,.int .i64 p.parR,.slice k1 p.key.length ck1,.int .i64 p.kind,.slice n1 p.name.length cn1,.slice t1 p.text.length ct1,.slice a1 p.attrs.length ca1],.agg #[.int .i64 q.idN,.int .i64 q.idR,.int .i64 q.parN,.int .i64 q.parR,.slice k2 q.key.length ck2,.int .i64 q.kind,.slice n2 q.name.length cn2,.slice t2 q.text.length ct2,.slice a2 q.attrs.length ca2]] w fun e w'=>e=.returned (.bool (zay p q))∧Below w.heap.size w w':=by
 have hA:Below w.heap.size w ((w.alloc (.cells #[.int .i64 p.idN,.int .i64 p.idR,.int .i64 p.parN,.int .i64 p.parR,.slice k1 p.key.length ck1,.int .i64 p.kind,.slice n1 p.name.length cn1,.slice t1 p.text.length ct1,.slice a1 p.attrs.length ca1] 117)).alloc (.cells #[.int .i64 q.idN,.int .i64 q.idR,.int .i64 q.parN,.int .i64 q.parR,.slice k2 q.key.length ck2,.int .i64 q.kind,.slice n2 q.name.length cn2,.slice t2 q.text.length ct2,.slice a2 q.attrs.length ca2] 117)):=zad ((Below.refl _ _).alloc (Nat.le_refl _) _) ((Below.refl _ _).alloc (Nat.le_refl _) _)
 have l0:=(Loc.made w #[.int .i64 p.idN,.int .i64 p.idR,.int .i64 p.parN,.int .i64 p.parR,.slice k1 p.key.length ck1,.int .i64 p.kind,.slice n1 p.name.length cn1,.slice t1 p.text.length ct1,.slice a1 p.attrs.length ca1] 117).alloc (.cells #[.int .i64 q.idN,.int .i64 q.idR,.int .i64 q.parN,.int .i64 q.parR,.slice k2 q.key.length ck2,.int .i64 q.kind,.slice n2 q.name.length cn2,.slice t2 q.text.length ct2,.slice a2 q.attrs.length ca2] 117)
 have l1:=Loc.made (w.alloc (.cells #[.int .i64 p.idN,.int .i64 p.idR,.int .i64 p.parN,.int .i64 p.parR,.slice k1 p.key.length ck1,.int .i64 p.kind,.slice n1 p.name.length cn1,.slice t1 p.text.length ct1,.slice a1 p.attrs.length ca1] 117)) #[.int .i64 q.idN,.int .i64 q.idR,.int .i64 q.parN,.int .i64 q.parR,.slice k2 q.key.length ck2,.int .i64 q.kind,.slice n2 q.name.length cn2,.slice t2 q.text.length ct2,.slice a2 q.attrs.length ca2] 117
 simp only [World.size_alloc]at l1
 have HK:=hide (fun W (hW:Below w.heap.size w W)=>zlP W _ _ p.key q.key (h1.keep hW) (h2.keep hW))
 have HK2:=hide (fun W (hW:Below w.heap.size w W)=>zlP W _ _ q.key p.key (h2.keep hW) (h1.keep hW))
 have hv:zay p q=(klB p.key q.key || (!klB q.key p.key && zan p.idN p.idR q.idN q.idR)):=rfl
 rw [hv]
 have x4:=l0.cell 4
 have y4:=l1.cell 4
 have LL:=hide (And.intro hA (And.intro l0 l1))
 clear h1 h2 hA l0 l1 hv
 generalize klB p.key q.key=b1 at *
 generalize klB q.key p.key=b2 at *
 go_enter Tryz.func133,Tryz.ntmps133
 go_wp2_with fail
 obtain⟨hA,l0,l1⟩:=zaa LL
 clear LL
 refine (zaa HK _ hA).mono ?_
 rintro e w1 ⟨rfl,hB⟩
 replace hA:=zad hA hB
 replace l0:=l0.all hB
 replace l1:=l1.all hB
 clear HK x4 y4 hB
 cases b1 with
 | true=>
  have HE:=hide hA
  clear hA l0 l1
  go_wp2_with fail
  go_ret
  exact⟨rfl,zaa HE⟩
 | false=>
  have x4:=l0.cell 4
  have y4:=l1.cell 4
  have LL:=hide (And.intro hA (And.intro l0 l1))
  clear hA l0 l1
  go_wp2_with fail
  obtain⟨hA,l0,l1⟩:=zaa LL
  clear LL
  refine (zaa HK2 _ hA).mono ?_
  rintro e w2 ⟨rfl,hB⟩
  replace hA:=zad hA hB
  replace l0:=l0.all hB
  replace l1:=l1.all hB
  clear HK2 x4 y4 hB
  cases b2 with
  | true=>
   have HE:=hide hA
   clear hA l0 l1
   go_wp2_with fail
   go_ret
   exact⟨rfl,zaa HE⟩
  | false=>
   have x0:=l0.cell 0
   have x1:=l0.cell 1
   have y0:=l1.cell 0
   have y1:=l1.cell 1
   have LL:=hide hA
   clear hA l0 l1
   go_wp2_with fail
   refine (zfE w2 _ _ _ _).mono ?_
   rintro e w3 ⟨rfl,hB⟩
   have HE:=hide (zad (zaa LL) hB)
   clear LL hB x0 x1 y0 y1
   go_wp2_with fail
   go_ret
   exact⟨rfl,zaa HE⟩
end Go.Proofs.YtlpnibbdmkeklaaGreatDoor
