/- Own texts joined: OwX, SayX, MkupX, MkD, SpoilX, L3draw, BigI, SetQ, SdM, SdB, SdI, OpsT, LesI, OpsM, PutV, L5fd, L5tk, L5ao, L5sa, L5do, L5sd, PlR, L5fo, OpsS, SFo, L5os, FoldM, PjM, PjK, PjS, FoY, BdO, BdL, BdF, BdC, Rd5, LCase. -/
import Derived.Test.YtgjolijncmkkhaaGreatDoorKa
import Derived.Test.YtgjolijncmkkhaaGreatDoorKb
import Derived.Test.YtgjolijncmkkhaaGreatDoorKe
import Derived.Test.YtgjolijncmkkhaaGreatDoorKf
import Derived.Test.YtgjolijncmkkhaaGreatDoorKh
import Derived.Test.YtgjolijncmkkhaaGreatDoorKo
import Derived.Test.YtgjolijncmkkhaaGreatDoorKp
import Derived.Test.YtgjolijncmkkhaaGreatDoorKq
import Derived.Test.YtgjolijncmkkhaaGreatDoorKr
import Derived.Test.YtgjolijncmkkhaaGreatDoorKv
import Derived.Test.YtgjolijncmkkhaaGreatDoorKw
import Derived.Test.YtgjolijncmkkhaaGreatDoorKx
import Derived.Deep.RegionLaw
import Derived.Deep.RegionHeld3
import Derived.Deep.Cut
import Derived.Deep.CutRange
import Derived.Deep.CutBlock
import Derived.WalkLawsBesides
import Derived.Deep.QuietTactic
import Derived.BigQuiet
import Derived.Deep.AppendLies
namespace Go.Proofs.YtgjolijncmkkhaaGreatDoor
open Go.RowKit
set_option linter.unusedVariables false
set_option maxRecDepth 100000
theorem zry (w:Xk) (code:Xl) (l:Xg) (h:Byt w code l) :
  Calls Tryz.prog 7 #[code] w fun e w'=>e=.returned (.bool (decide ((60000:Int)<(l.length:Int))))∧w'=w:=by
 obtain⟨a0,c0,rfl,_,_⟩:=h.shape
 clear h
 go_enter Tryz.func7,Tryz.ntmps7
 go_wp2_with fail
 go_ret
 exact⟨rfl,rfl⟩
theorem zpn {l:Xg} (h:zau l):okB l:=fun x hx=>by
 obtain⟨i,hi,rfl⟩:=List.getElem_of_mem hx
 have h1:=h.2.2 i hi
 rw [zcT hi]at h1
 unfold zdf at h1
 omega
end Go.Proofs.YtgjolijncmkkhaaGreatDoor
namespace Go.Proofs.YtgjolijncmkkhaaGreatDoor
set_option linter.unusedVariables false
end Go.Proofs.YtgjolijncmkkhaaGreatDoor
namespace Go.Proofs.YtgjolijncmkkhaaGreatDoor
open Go.RowKit
set_option linter.unusedVariables false
set_option maxRecDepth 100000
theorem zwq {l:List AtV} (hl:l.length<=4) (hg:∀x∈l,zau x.1∧zat x.2) (hs:SrtA l):zaC l:=by
 refine⟨hl,fun i hi=> ?_⟩
 unfold zdh
 have e:l.getD i ([],[])=l[i]:=by simp [hi]
 rw [e]
 have h1:=hg l[i] (List.getElem_mem _)
 refine⟨h1.1,h1.2,fun h0=> ?_⟩
 have Aa:i-1<l.length:=by omega
 have e2:l.getD (i-1) ([],[])=l[i-1]:=by simp [Aa]
 rw [e2]
 have h2:=hg l[i-1] (List.getElem_mem _)
 have h3:=(List.pairwise_iff_getElem.1 hs) (i-1) i Aa hi (by omega)
 have h4:zeQ l[i-1].1 l[i].1=klB l[i-1].1 l[i].1:=zpI (zpn h2.1) (zpn h1.1)
 rw [h4]
 exact h3
theorem ztt {n:Nat} {t:Tr (n+1)} (h:zbm (n+1) t):(t.kind=1∧zbj t=true∧t.kids=[])∨(t.kind=0∧zbH t=true):=by
 rcases h with ⟨q1,q2,q3,q4,q5,q6⟩ | ⟨⟨q1,q2,q3,q4⟩,q5,q6,q7⟩
 ·exact .inl ⟨q1,(zbO t).2 ⟨by rw [q2];rfl,by rw [q3];rfl,by rw [q4];rfl,q5⟩,q4⟩
 ·refine .inr ⟨q1,(zdy t).2 ⟨q1,q2,by rw [q3];rfl,zwq q4.1 q4.2.2 q4.2.1,fun hc=> ?_⟩⟩
  have:=q5 ((zcG _).2 hc.1)
  have h2:=hc.2
  rw [this]at h2
  simp at h2
theorem zov:∀(n:Nat) (deep:Int) (t:Tr n) (left:Int),zbm n t->(∀i∈encT n t,deep+i.deep<=20)->((encT n t).length:Int)<=left->okT n deep t left=(true,left-(encT n t).length)
 | 0,_,t,_,_,_,_=>t.elim
 | n+1,deep,t,left,h,hd,hl=>by
  have h0:=hd ⟨0,t.kind,t.name,t.text,t.attrs⟩ (by rw [zbV];unfold zaw;simp)
  rw [ziO]at hl
  simp only [Int.natCast_add,Int.cast_ofNat_Int]at hl h0
  rw [zjE,if_neg (by omega),ziO]
  rcases ztt h with ⟨q1,q2,q3⟩ | ⟨q1,q2⟩
  ·rw [if_pos q1,q2,q3]
   simp [szE]
  ·rw [if_neg (by rw [q1];decide),if_pos q2]
   have hg:∀k∈t.kids,zbm n k:=by
    rcases h with ⟨q,_⟩ | ⟨_,_,_,q7⟩
    ·rw [q1]at q;cases q
    ·exact q7
   have Aa:∀(ks:List (Tr n)) (l:Int),(∀k∈ks,k∈t.kids)->(szE n ks:Int)<=l->okK (okT n (deep+1)) ks l=(true,l-szE n ks):=by
    intro ks
    induction ks with
    | nil=>intro l _ _;simp [okK,szE]
    | cons k ks ih=>
     intro l hk hs
     have e:szE n (k::ks)=(encT n k).length+szE n ks:=rfl
     rw [e]at hs
     have Ba:=zov n (deep+1) k l (hg k (hk k (by simp))) (fun i hi=>by
      have:=hd i.more (by
       rw [zbV]
       unfold zaw
       exact List.mem_cons_of_mem _ (List.mem_flatten.2 ⟨(encT n k).map Itm.more,List.mem_map.2 ⟨encT n k,List.mem_map.2 ⟨k,hk k (by simp),rfl⟩,rfl⟩,List.mem_map.2 ⟨i,hi,rfl⟩⟩))
      simp [Itm.more]at this
      omega) (by omega)
     rw [okK,Ba,if_pos rfl,ih _ (fun x hx=>hk x (by simp [hx])) (by simp;omega),e]
     simp
     omega
   rw [Aa t.kids (left-1) (fun _ h=>h) (by omega)]
   simp
   omega
theorem zoB {n:Nat} {t:Tr (n+1)} (h:zbm (n+1) t) (h0:t.kind=0) (hs:(encT (n+1) t).length<=120) (hd:∀i∈encT (n+1) t,i.deep<=19):okN n t=true:=by
 unfold okN
 rw [decide_eq_true h0,zov (n+1) 1 t 120 h (fun i hi=>by have:=hd i hi;omega) (by omega)]
 rfl
theorem zor:∀(n:Nat) (d:Int) (t:Tr n),hp n d t=(encT n t).map fun i=>(d+i.deep,i.kind,i.name,i.text,i.attrs)
 | 0,_,t=>t.elim
 | n+1,d,t=>by
  rw [zbK,zbV]
  unfold zaw
  rw [List.map_cons,List.map_flatten,List.map_map,List.map_map]
  simp only [Int.cast_ofNat_Int,Int.add_zero]
  congr 2
  refine List.map_congr_left fun k hk=> ?_
  rw [zor n (d+1) k]
  simp only [Function.comp_def,List.map_map,Itm.more]
  refine List.map_congr_left fun i hi=> ?_
  simp
  omega
theorem zme {n:Nat} {t u:Tr n} (h:encT n t=encT n u):t=u:=zoG n 0 t u (by rw [zor,zor,h])
theorem zsM {n N:Nat} {w:Xk} {C:Xj} {t:Tr n} (h:RdNode n w C t) (hN:n<=N):∃t':Tr N,RdNode N w C t'∧encT N t'=encT n t:=by
 induction N with
 | zero=>
  have:n=0:=by omega
  subst this
  exact⟨t,h,rfl⟩
 | succ N ih=>
  by_cases e:n=N+1
  ·subst e;exact⟨t,h,rfl⟩
  ·obtain⟨t',h1,h2⟩:=ih (by omega)
   exact⟨upT N t',zsY h1,(zif N t').trans h2⟩
theorem zlZ:∀(n:Nat) (t:Tr n),zbm n t->szT n t+1<=300*(encT n t).length
 | 0,t,_=>t.elim
 | n+1,t,h=>by
  rw [ziO]
  have Ba:(∀k∈t.kids,zbm n k)->t.kids.length+(t.kids.map (szT n)).sum<=300*szE n t.kids:=by
   intro hg
   generalize t.kids=ks at hg
   induction ks with
   | nil=>simp [szE]
   | cons k ks ih=>
    have h1:=zlZ n k (hg k (by simp))
    have h2:=ih (fun x hx=>hg x (by simp [hx]))
    have e:szE n (k::ks)=(encT n k).length+szE n ks:=rfl
    rw [e]
    simp
    omega
  show t.name.length+t.text.length+szA t.attrs+(t.kids.length+(t.kids.map (szT n)).sum)+1<=_
  rcases h with ⟨q1,q2,q3,q4,q5,q6⟩ | ⟨⟨q1,q2,q3,q4⟩,q5,q6,q7⟩
  ·rw [q2,q3,q4]
   have:=q5.1
   simp [szA]
   omega
  ·have h1:=Ba q7
   have h2:=q2.2.1
   have h3:szA t.attrs<=4+4*38:=by
    have Aa:∀l:List AtV,(∀x∈l,zau x.1∧zat x.2)->szA l<=39*l.length:=by
     intro l
     induction l with
     | nil=>intro _;simp [szA]
     | cons x l ih=>
      intro hx
      have a1:=ih (fun y hy=>hx y (by simp [hy]))
      have a2:=hx x (by simp)
      have a3:=a2.1.2.1
      have a4:=a2.2.1
      unfold szA at a1 ⊢
      simp
      omega
    have:=Aa t.attrs q4.2.2
    have:=q4.1
    omega
   rw [q3]
   simp
   omega
theorem zAj {n m:Nat} {w:Xk} {C:Xj} {t:Tr n} {u:Tr (m+1)} (h:RdNode n w C t) (he:encT n t=encT (m+1) u) (hg:zbm (m+1) u):∃(N:Nat) (v:Tr (N+1)),RdNode (N+1) w C v∧zbm (N+1) v∧encT (N+1) v=encT n t:=by
 obtain⟨t',h1,h2⟩:=zsM (N:=max n m+1) h (by omega)
 obtain⟨u',g1,g2⟩:=ziB (N:=max n m+1) hg (by omega)
 have e:t'=u':=zme (by rw [h2,g1,he])
 exact⟨max n m,t',h1,by rw [e];exact g2,h2⟩
theorem zud {n:Nat} {t:Tr (n+1)} (hg:zbm (n+1) t) (hn:t.name=[98,111,100,121]):t.kind=0:=by
 rcases hg with ⟨_,q2,_⟩ | ⟨⟨q1,_⟩,_⟩
 ·rw [hn]at q2;cases q2
 ·exact q1
theorem zuq {n:Nat} {t:Tr (n+1)} (h:okN n t=true):zen n t t=true:=by
 unfold zen
 rw [h,zsg rfl]
 rfl
theorem zpj {n m:Nat} {t:Tr (n+1)} {u:Tr (m+1)} (h:encT (n+1) t=encT (m+1) u):t.kind=u.kind∧t.name=u.name∧t.attrs=u.attrs:=by
 rw [zbV,zbV]at h
 unfold zaw at h
 injection h with h _
 simp only [Itm.mk.injEq]at h
 exact⟨h.2.1,h.2.2.1,h.2.2.2.2⟩
theorem zkn {l:Xg} {its:List Itm} {w:Xk} {C:Xj} {F:Xh} (hb:bldL zaZ zaM l=some its) (hX:OwX w C its F) :
  ∃(N:Nat) (u:Tr (N+1)),RdNode (N+1) w C u∧encT (N+1) u=its∧zbm (N+1) u∧u.kind=0∧u.name=[98,111,100,121]∧u.attrs=[]∧okN N u=true∧szT (N+1) u<=36000∧its.length<=120∧∀i∈its,i.deep<=19:=by
 obtain⟨n,t,e1,hg,hn,ha,Aa,hd⟩:=zwm hb
 obtain⟨n',t',ho,e2⟩:=hX
 obtain⟨N,u,hr,hu,eu⟩:=zAj ho.rd (e2.trans e1.symm) hg
 have eu:=eu.trans e2
 obtain⟨q1,q2,q3⟩:=zpj (eu.trans e1.symm)
 have Ba:=q2.trans hn
 have h0:=zud hu Ba
 have Ca:=zlZ (N+1) u hu
 rw [eu]at Ca
 exact⟨N,u,hr,eu,hu,h0,Ba,q3.trans ha,zoB hu h0 (by rw [eu];exact Aa) (by rw [eu];exact hd),by omega,Aa,hd⟩
theorem zuo {N M:Nat} {w:Xk} {C D:Xj} {u:Tr (N+1)} {v:Tr (M+1)} {its:List Itm} (h:RdNode (N+1) w C u) (k:RdNode (M+1) w D v) (hu:encT (N+1) u=its) (hv:encT (M+1) v=its) (hg:zbm (N+1) u) (h0:u.kind=0) (hl:its.length<=120) (hd:∀i∈its,i.deep<=19) :
  ∃(K:Nat) (x:Tr (K+1)),RdNode (K+1) w C x∧RdNode (K+1) w D x∧szT (K+1) x<=36000∧zen K x x=true:=by
 obtain⟨x,h1,h2⟩:=zsM (N:=max N M+1) h (by omega)
 obtain⟨y,k1,k2⟩:=zsM (N:=max N M+1) k (by omega)
 obtain⟨z,g1,g2⟩:=ziB (N:=max N M+1) hg (by omega)
 have e:x=y:=zme (by rw [h2,k2,hu,hv])
 have e':x=z:=zme (by rw [h2,g1])
 subst e
 subst e'
 have hs:=zlZ _ x g2
 rw [h2,hu]at hs
 have hx:encT (max N M+1) x=its:=h2.trans hu
 exact⟨max N M,x,h1,k1,by omega,zuq (zoB g2 ((zpj h2).1.trans h0) (by rw [hx];exact hl) (by rw [hx];exact hd))⟩
def fin (s:RdS):Option RdS:=iter (mu s) s
theorem zpV:∀(n:Nat) (s:RdS) (f:Nat),mu s<=n->mu s<=f->iter f s=fin s:=by
 intro n
 induction n with
 | zero=>
  intro s f hn hf
  have hs:s.tag=none∧s.rest=[]:=by
   unfold mu at hn
   by_cases e:s.tag=none
   ·rw [if_pos e]at hn
    exact⟨e,List.length_eq_zero_iff.1 (by omega)⟩
   ·rw [if_neg e]at hn;omega
  unfold fin
  rw [zck hs.1 hs.2,zck hs.1 hs.2]
 | succ n ih=>
  intro s f hn hf
  by_cases hs:s.tag=none∧s.rest=[]
  ·unfold fin
   rw [zck hs.1 hs.2,zck hs.1 hs.2]
  ·have h0:0<mu s:=by
    unfold mu
    by_cases e:s.tag=none
    ·have:=List.length_pos_iff.2 (fun e'=>hs ⟨e,e'⟩)
     omega
    ·rw [if_neg e];omega
   obtain⟨g,rfl⟩:∃g,f=g+1:=⟨f-1,by omega⟩
   obtain⟨m,hm⟩:∃m,mu s=m+1:=⟨mu s-1,by omega⟩
   unfold fin
   rw [hm]
   unfold iter
   cases h:stp s with
   | none=>rfl
   | some u=>
    have:=zgj hs h
    show iter g u=iter m u
    rw [ih u g (by omega) (by omega),ih u m (by omega) (by omega)]
theorem zvW {s u:RdS} (h:stp s=some u):fin s=fin u:=by
 by_cases hs:s.tag=none∧s.rest=[]
 ·rw [zrz hs.1 hs.2]at h
  cases h
  rfl
 ·have h1:=zgj hs h
  obtain⟨m,hm⟩:∃m,mu s=m+1:=⟨mu s-1,by omega⟩
  show iter (mu s) s=_
  rw [hm]
  unfold iter
  rw [h]
  exact zpV _ u m (Nat.le_refl _) (by omega)
theorem znz {s t:RdS} (h:Reads s t):fin s=fin t:=by
 obtain⟨k,hk⟩:=h
 induction k generalizing s with
 | zero=>cases hk;rfl
 | succ k ih=>
  unfold iter at hk
  cases h:stp s with
  | none=>rw [h]at hk;cases hk
  | some u=>
   rw [h]at hk
   rw [zvW h]
   exact ih hk
theorem zrq (l:Xg):bldL zaZ zaM l=if l.length<=1500 then (fin (zaP l)).map fun s=>zaw (zaS s.below.length s.top s.below).1 else none:=by
 unfold bldL
 rw [zhn,zpV _ (zaP l) _ (Nat.le_refl _) (by unfold mu zaP;simp)]
def capA:Xg:=[60,112,32,99,108,97,115,115,61,34,120,34,62,113,60,47,112,62,60,117,108,62,60,108,105,62,49,60,47,108,105,62,60,47,117,108,62]
def capB:Xg:=[60,80,32,67,76,65,83,83,61,34,120,34,62,113,60,47,112,62,60,117,76,62,60,76,73,62,49,60,47,76,105,62,60,47,85,76,62]
def zxH (m:Xg):RdS:=⟨m,none,⟨0,[98,111,100,121],[],[],[⟨0,0,[112],[],[([99,108,97,115,115],[120])]⟩::[⟨1,1,[],[113],[]⟩],[⟨0,0,[117,108],[],[]⟩,⟨1,0,[108,105],[],[]⟩,⟨2,1,[],[49],[]⟩]]⟩,[],6⟩
theorem ziW {x:Int} (hx:32<=x∧x<=126) (h1:x≠38) (h2:x≠60) (r:Xg) (top:OnD) (below:List OnD) (p:Nat):stp ⟨x::r,none,top,below,p⟩=putX ⟨r,none,top,below,p⟩ x:=by
 have:=zwy hx r top below p
 unfold sayB at this
 rw [if_neg h1,if_neg h2,if_neg (by simp)]at this
 exact this
def zxP (m:Xg):RdS:=⟨49::m,none,⟨0,[108,105],[],[],[]⟩,[⟨0,[117,108],[],[],[]⟩,⟨0,[98,111,100,121],[],[],[[⟨0,0,[112],[],[([99,108,97,115,115],[120])]⟩,⟨1,1,[],[113],[]⟩]]⟩],5⟩
theorem zAl (m:Xg):Reads (zaP (capA++m)) (zxH m):=by
 refine Reads.trans (b:=⟨113::([60,47,112,62,60,117,108,62,60,108,105,62,49,60,47,108,105,62,60,47,117,108,62]++m),none,⟨0,[112],[],[([99,108,97,115,115],[120])],[]⟩,[⟨0,[98,111,100,121],[],[],[]⟩],2⟩) ⟨4,rfl⟩ ?_
 refine (Reads.one (ziW (by omega) (by omega) (by omega) _ _ _ _)).trans ?_
 refine Reads.trans (b:=zxP ([60,47,108,105,62,60,47,117,108,62]++m)) ⟨6,rfl⟩ ?_
 refine (Reads.one (ziW (by omega) (by omega) (by omega) _ _ _ _)).trans ?_
 exact⟨4,rfl⟩
theorem zAd (m:Xg):Reads (zaP (capB++m)) (zxH m):=by
 refine Reads.trans (b:=⟨113::([60,47,112,62,60,117,76,62,60,76,73,62,49,60,47,76,105,62,60,47,85,76,62]++m),none,⟨0,[112],[],[([99,108,97,115,115],[120])],[]⟩,[⟨0,[98,111,100,121],[],[],[]⟩],2⟩) ⟨4,rfl⟩ ?_
 refine (Reads.one (ziW (by omega) (by omega) (by omega) _ _ _ _)).trans ?_
 refine Reads.trans (b:=zxP ([60,47,76,105,62,60,47,85,76,62]++m)) ⟨6,rfl⟩ ?_
 refine (Reads.one (ziW (by omega) (by omega) (by omega) _ _ _ _)).trans ?_
 exact⟨4,rfl⟩
theorem zwc (m:Xg):bldL zaZ zaM (capA++m)=bldL zaZ zaM (capB++m):=by
 rw [zrq,zrq,znz (zAl m),znz (zAd m),List.length_append,List.length_append]
 rfl
theorem rd5c {n:Nat} {w:Xk} {k:Int} {a1 a2 a3 a4:Xi} {n1 n2 n3 n4 c1 c2 c3 c4:Nat} {t:Tr (n+1)} (h:RdNode (n+1) w [.int .i64 k,.slice a1 n1 c1,.slice a2 n2 c2,.slice a3 n3 c3,.slice a4 n4 c4] t):k=t.kind∧n1=t.name.length∧n2=t.text.length∧n3=t.attrs.length∧n4=t.kids.length:=by
 obtain⟨_,_,_,_,e0,_,_,hb,hc,hd,he⟩:=h
 simp only [List.cons.injEq,and_true]at e0
 obtain⟨e,rfl,rfl,rfl,rfl⟩:=e0
 obtain⟨_,_,e1,_,_⟩:=hb.shape
 obtain⟨_,_,e2,_,_⟩:=hc.shape
 obtain⟨_,_,e3,_,_⟩:=Elems.shape hd
 obtain⟨_,_,e4,_,_⟩:=Elems.shape he
 cases e
 injection e1 with _ e1 _
 injection e2 with _ e2 _
 injection e3 with _ e3 _
 injection e4 with _ e4 _
 exact⟨rfl,e1,e2,e3,e4⟩
def LawC (w:Xk) (e:Ending) (w':Xk):Prop:=e=.returned (.bool true)∧Below w.heap.size w w'
set_option maxHeartbeats 6400000 in
theorem zwL (w:Xk) (code:Xl) (l:Xg) (h:Byt w code l) (hl:(60000:Int)<(l.length:Int)):Calls Tryz.prog 5 #[code] w fun e w'=>LawC w e w':=by
 have hb:=zry w code l h
 rw [decide_eq_true hl]at hb
 have HB:=hide hb
 have H0:=hide (Below.refl w.heap.size w)
 obtain⟨a0,c0,rfl,_,_⟩:=h.shape
 clear h hb hl
 go_enter Tryz.func5,Tryz.ntmps5
 go_wp2_with fail
 refine (zaa HB).mono ?_
 rintro e w1 ⟨rfl,rfl⟩
 go_wp2_with fail
 refine (zaa HB).mono ?_
 rintro e w2 ⟨rfl,rfl⟩
 go_wp2_with fail
 go_ret
 exact⟨rfl,zaa H0⟩
set_option maxHeartbeats 6400000 in
theorem zsT (hbent:zjW) (hal:∀w,Glo w->Calls Tryz.prog 8 #[] w fun e w'=>e=.returned (.bool true)∧Below w.heap.size w w') (w:Xk) (code:Xl) (l:Xg) (h:Byt w code l) (hG:Glo w) (hl:¬ (60000:Int)<(l.length:Int)):Calls Tryz.prog 5 #[code] w fun e w'=>LawC w e w':=by
 have hb:=zry w code l h
 rw [decide_eq_false hl]at hb
 have HB:=hide hb
 have HA:=hide (hal w hG)
 have HD:=hide (fun W (hW:Below w.heap.size w W)=>zlS hbent W code l (h.keep hW))
 obtain⟨a0,c0,rfl,_,_⟩:=h.shape
 clear h hb hl hG hal
 go_enter Tryz.func5,Tryz.ntmps5
 go_wp2_with fail
 refine (zaa HB).mono ?_
 rintro e w1 ⟨rfl,rfl⟩
 go_wp2_with fail
 refine (zaa HA).mono ?_
 rintro e w2 ⟨rfl,ja⟩
 have pa:=hide (zaa HD _ ja)
 have HX:=hide ja
 clear HA HB HD ja
 go_wp2_with fail
 refine (zaa pa).mono ?_
 rintro e w3 ⟨kd,a1,n1,c1,a2,n2,c2,a3,n3,c3,a4,n4,c4,rfl,⟨n,t,hr,Sb⟩,ua⟩
 clear pa
 cases n with
 | zero=>exact hr.elim
 | succ n=>
 obtain⟨rfl,rfl,rfl,rfl,rfl⟩:=rd5c hr
 have hA:=(Below.refl w3.heap.size w3).alloc (Nat.le_refl _) (.cells #[.int .i64 t.kind,.slice a1 t.name.length c1,.slice a2 t.text.length c2,.slice a3 t.attrs.length c3,.slice a4 t.kids.length c4] 29)
 have lb:=Loc.made w3 #[.int .i64 t.kind,.slice a1 t.name.length c1,.slice a2 t.text.length c2,.slice a3 t.attrs.length c3,.slice a4 t.kids.length c4] 29
 have HN:=hide (zne n _ _ _ _ _ _ t (hr.keep hA))
 have HL:=hide (And.intro hr (And.intro (zam (zaa HX) ua) (And.intro hA lb)))
 clear hr ua hA lb HX
 go_wp2_with fail
 refine (zaa HN).mono ?_
 rintro e w4 ⟨rfl,ha⟩
 obtain⟨hr,La,hA,lb⟩:=zaa HL
 have aa:=zam hA ha
 have da:=hr.keep aa
 have ea:=lb.all ha
 obtain⟨y0,y1,y2,y3,y4⟩:=zcu ea
 clear HN HL hr hA ha lb
 cases hk:okN n t with
 | false=>
  have hm:=zto n w4 _ _ _ _ _ t da (by omega)
  unfold zjH at hm
  rw [if_neg (by rw [hk];decide)]at hm
  have HM:=hide hm
  have HX:=hide (zam La aa)
  clear hm La aa da ea hk
  go_wp2_with fail
  refine (zaa HM).mono ?_
  rintro e w5 ⟨v,rfl,ho,Ra⟩
  have Ya:=zam (zaa HX) Ra
  obtain⟨av,cv,rfl,_,_⟩:=ho.byt.shape
  have HE:=hide Ya
  clear HM HX ho Ra Ya
  go_wp2_with fail
  go_ret
  exact⟨rfl,zaa HE⟩
 | true=>
  obtain⟨W1,Db,B1,q1⟩:=zcn w4 capA (zcV rfl) (by simp [capA]) (by decide)
  obtain⟨W2,ta,B2,q2⟩:=zcn W1 capB (zcV rfl) (by simp [capB]) (by decide)
  have Ka:=zam B1 B2
  have Hb:=ea.all Ka
  obtain⟨z0,z1,z2,z3,z4⟩:=zcu Hb
  have hm:=zqt n W2 _ _ _ _ _ t (da.keep Ka) (by have:=zgG (n+1) t;omega)
  rw [if_pos hk]at hm
  have HM:=hide hm
  have HX:=hide (And.intro (zam (zam La aa) Ka) (And.intro (q1.keep B2) q2))
  have Pb:=zgG (n+1) t
  have HS:=hide (show (mkup (n+1) t).length<=50000000 by omega)
  clear hm La aa da ea hk y0 y1 y2 y3 y4 B1 B2 q1 q2 Ka Hb Pb
  generalize mkup (n+1) t=m at *
  simp only [capA,capB,vals,List.map,List.length_cons,List.length_nil]at Db ta
  go_wp2_with fail
  refine (zaa HM).mono ?_
  rintro e w5 ⟨v,rfl,ho,Ra⟩
  obtain⟨Va,q1,q2⟩:=zaa HX
  have ga:=ho.byt
  obtain⟨av,cv,rfl,_,_⟩:=ga.shape
  have Ja:=hide (And.intro (zam Va Ra) (And.intro (q1.keep Ra) (And.intro (q2.keep Ra) ga)))
  clear HM HX Va q1 q2 ho Ra ga Db ta z0 z1 z2 z3 z4
  go_wp2_with (at_builtin;refine zaR rfl _ _ rfl w5.heap.size _ [] rfl (zjN w5) _ capA rfl ?hb ?c1 ?c2 ?_)
  case hb=>exact (zaa Ja).2.1.keep ((Below.refl _ _).alloc (Nat.le_refl _) (.cells #[] 5))
  case c1=>decide
  case c2=>simp
  intro v6 w6 Jb Fb
  have Bb:=zcb ((Below.refl w5.heap.size w5).alloc (Nat.le_refl _) (.cells #[] 5)) Fb (fun q hq=>by simp [Value.ownBlock]at hq;omega)
  have HZ:=hide (And.intro Jb Bb)
  clear Jb Fb Bb
  go_wp2_with (at_builtin;refine zaR rfl _ _ rfl w5.heap.size _ capA rfl (zaa HZ).1 _ m rfl ?hb ?c1 ?c2 ?_)
  case hb=>exact (zaa Ja).2.2.2.keep (zaa HZ).2
  case c1=>have:=zaa HS;show 37+_<=_;omega
  case c2=>exact (zaa HZ).2.size
  intro v7 w7 va Eb
  have Kb:=zcb (zaa HZ).2 Eb (fun q hq=>((zaa HZ).1.lt q hq).1)
  have HL:=hide (zwc m)
  generalize hL:capA++m=L at *
  have Fa:=va.byt
  obtain⟨a7,c7,rfl,_,_⟩:=Fa.shape
  have HC:=hide (zhD w7 a7 c7 _ Fa)
  have ca:=hide Kb
  clear va Eb Kb Fa HZ hL
  go_wp2_with fail
  refine (zaa HC).mono ?_
  intro e w8 h8
  clear HC
  unfold zje at h8
  have Sa:=zaa HL
  cases hz:bldL zaZ zaM L with
  | none=>
   rw [hz]at h8
   obtain⟨rfl,ba⟩:=h8
   have Ta:=(Below.refl w8.heap.size w8).alloc (Nat.le_refl _) (.cells zN 29)
   have Na:=zam (zaa ca) (zam ba Ta)
   have HY:=hide (And.intro (zam (zaa Ja).1 Na) (And.intro ((zaa Ja).2.2.1.keep Na) (And.intro ((zaa Ja).2.2.2.keep Na) True.intro)))
   rw [hz]at Sa
   have Ua:=hide Sa
   clear ca Ja ba Ta Na Sa HL hz
   go_upto_region 10 with fail
   generalize hW9:w8.alloc (.cells zN 29)=w9 at *
   clear hW9
   go_wp2_with (at_builtin;refine zaR rfl _ _ rfl w9.heap.size _ [] rfl (zjN w9) _ capB rfl ?hb ?c1 ?c2 ?_)
   case hb=>exact (zaa HY).2.1.keep ((Below.refl _ _).alloc (Nat.le_refl _) (.cells #[] 5))
   case c1=>decide
   case c2=>simp
   intro Qb Rb Aa Da
   have Ca:=zcb ((Below.refl w9.heap.size w9).alloc (Nat.le_refl _) (.cells #[] 5)) Da (fun q hq=>by simp [Value.ownBlock]at hq;omega)
   have HZ:=hide (And.intro Aa Ca)
   clear Aa Da Ca
   go_wp2_with (at_builtin;refine zaR rfl _ _ rfl w9.heap.size _ capB rfl (zaa HZ).1 _ m rfl ?hb ?c1 ?c2 ?_)
   case hb=>exact (zaa HY).2.2.1.keep (zaa HZ).2
   case c1=>have:=zaa HS;show 37+_<=_;omega
   case c2=>exact (zaa HZ).2.size
   intro Ob ka Ga Ha
   have Ba:=zcb (zaa HZ).2 Ha (fun q hq=>((zaa HZ).1.lt q hq).1)
   generalize hL2:capB++m=L2 at *
   have Fa:=Ga.byt
   obtain⟨ia,na,rfl,_,_⟩:=Fa.shape
   have HC:=hide (zhD ka ia na _ Fa)
   have Wa:=hide Ba
   clear Ga Ha Ba Fa HZ
   go_wp2_with fail
   refine (zaa HC).mono ?_
   intro e fa Qa
   clear HC
   unfold zje at Qa
   rw [<-zaa Ua]at Qa
   obtain⟨rfl,Ia⟩:=Qa
   have HE:=hide (zam (zaa HY).1 (zam (zaa Wa) (zam Ia ((Below.refl _ _).alloc (Nat.le_refl _) (.cells zN 29)))))
   clear HY Wa Ua Ia HS
   go_wp2_with fail
   go_ret
   exact⟨rfl,zaa HE⟩
  | some its=>
   rw [hz]at h8
   obtain⟨k1,p1,p2,p3,p4,F1,rfl,oa,-,-,ba⟩:=h8
   obtain⟨N1,u1,r1,e1,g1,i1,-,-,-,-,l1,d1⟩:=zkn hz oa
   obtain⟨_,ab,nb,cb,ac,nc,cc,ad,nd,cd,ae,ne,ce,-,rfl,rfl,rfl,rfl⟩:=ziH r1
   have Ta:=(Below.refl w8.heap.size w8).alloc (Nat.le_refl _) (.cells #[.int .i64 k1,.slice ab nb cb,.slice ac nc cc,.slice ad nd cd,.slice ae ne ce] 29)
   have lx:=Loc.made w8 #[.int .i64 k1,.slice ab nb cb,.slice ac nc cc,.slice ad nd cd,.slice ae ne ce] 29
   have Na:=zam (zaa ca) (zam ba Ta)
   have HY:=hide (And.intro (zam (zaa Ja).1 Na) (And.intro ((zaa Ja).2.2.1.keep Na) (And.intro ((zaa Ja).2.2.2.keep Na) (And.intro lx (And.intro (r1.keep Ta) (And.intro e1 (And.intro g1 (And.intro i1 (And.intro l1 d1)))))))))
   rw [hz]at Sa
   have Ua:=hide Sa
   clear ca Ja ba Ta Na Sa HL hz r1 e1 g1 i1 l1 d1 lx oa
   go_upto_region 10 with fail
   generalize hW9:w8.alloc (.cells #[.int .i64 k1,.slice ab nb cb,.slice ac nc cc,.slice ad nd cd,.slice ae ne ce] 29)=w9 at *
   clear hW9
   go_wp2_with (at_builtin;refine zaR rfl _ _ rfl w9.heap.size _ [] rfl (zjN w9) _ capB rfl ?hb ?c1 ?c2 ?_)
   case hb=>exact (zaa HY).2.1.keep ((Below.refl _ _).alloc (Nat.le_refl _) (.cells #[] 5))
   case c1=>decide
   case c2=>simp
   intro Qb Rb Aa Da
   have Ca:=zcb ((Below.refl w9.heap.size w9).alloc (Nat.le_refl _) (.cells #[] 5)) Da (fun q hq=>by simp [Value.ownBlock]at hq;omega)
   have HZ:=hide (And.intro Aa Ca)
   clear Aa Da Ca
   go_wp2_with (at_builtin;refine zaR rfl _ _ rfl w9.heap.size _ capB rfl (zaa HZ).1 _ m rfl ?hb ?c1 ?c2 ?_)
   case hb=>exact (zaa HY).2.2.1.keep (zaa HZ).2
   case c1=>have:=zaa HS;show 37+_<=_;omega
   case c2=>exact (zaa HZ).2.size
   intro Ob ka Ga Ha
   have Ba:=zcb (zaa HZ).2 Ha (fun q hq=>((zaa HZ).1.lt q hq).1)
   generalize hL2:capB++m=L2 at *
   have Fa:=Ga.byt
   obtain⟨ia,na,rfl,_,_⟩:=Fa.shape
   have HC:=hide (zhD ka ia na _ Fa)
   have Wa:=hide Ba
   clear Ga Ha Ba Fa HZ
   go_wp2_with fail
   refine (zaa HC).mono ?_
   intro e fa Qa
   clear HC
   unfold zje at Qa
   have la:=(zaa Ua).symm
   rw [la]at Qa
   obtain⟨k2,s1,s2,s3,s4,F2,rfl,wa,-,-,Ia⟩:=Qa
   obtain⟨N2,u2,r2,e2,-⟩:=zkn la wa
   obtain⟨_,Nb,xa,ya,ra,sa,Ab,Cb,Lb,Mb,za,Gb,Ib,-,rfl,rfl,rfl,rfl⟩:=ziH r2
   have Pa:=(Below.refl fa.heap.size fa).alloc (Nat.le_refl _) (.cells #[.int .i64 k2,.slice Nb xa ya,.slice ra sa Ab,.slice Cb Lb Mb,.slice za Gb Ib] 29)
   have ly:=Loc.made fa #[.int .i64 k2,.slice Nb xa ya,.slice ra sa Ab,.slice Cb Lb Mb,.slice za Gb Ib] 29
   have Ma:=zam (zaa Wa) (zam Ia Pa)
   obtain⟨Za,-,-,lx,r1,e1,g1,i1,l1,d1⟩:=zaa HY
   obtain⟨M,x,t1,t2,hs,Oa⟩:=zuo (r1.keep Ma) (r2.keep Pa) e1 e2 g1 i1 l1 d1
   have hS:=zur M _ _ _ _ _ _ _ _ _ _ _ x x t1 t2 (by omega) (by omega)
   rw [Oa]at hS
   have qa:=hide hS
   have HE:=hide (zam Za Ma)
   obtain⟨x0,x1,x2,x3,x4⟩:=zcu (lx.all Ma)
   obtain⟨y0,y1,y2,y3,y4⟩:=zcu ly
   clear HY Wa Ua Ia HS la wa r2 e2 Pa ly Ma Za lx r1 e1 g1 i1 l1 d1 t1 t2 hs Oa hS
   go_wp2_with fail
   refine (zaa qa).mono ?_
   rintro e Tb ⟨rfl,Xa⟩
   have ma:=hide (zam (zaa HE) Xa)
   clear qa HE Xa x0 x1 x2 x3 x4 y0 y1 y2 y3 y4
   go_wp2_with fail
   go_ret
   exact⟨rfl,zaa ma⟩
theorem zwZ (hbent:zjW) (hal:∀w,Glo w->Calls Tryz.prog 8 #[] w fun e w'=>e=.returned (.bool true)∧Below w.heap.size w w') (w:Xk) (code:Xl) (l:Xg) (h:Byt w code l) (hG:Glo w) :
  Calls Tryz.prog 5 #[code] w fun e w'=>e=.returned (.bool true)∧Below w.heap.size w w':=by
 by_cases hl:(60000:Int)<(l.length:Int)
 ·exact zwL w code l h hl
 ·exact zsT hbent hal w code l h hG hl
end Go.Proofs.YtgjolijncmkkhaaGreatDoor
