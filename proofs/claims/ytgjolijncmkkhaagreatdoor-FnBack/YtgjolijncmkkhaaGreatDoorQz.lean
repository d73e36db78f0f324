/- Own texts joined: OwX, SayX, MkupX, MkD, SpoilX, L3draw, BigI, BdL, BdF, BdW, BdB, Rd5, LBack. -/
import Derived.Test.YtgjolijncmkkhaaGreatDoorQa
import Derived.Test.YtgjolijncmkkhaaGreatDoorQb
import Derived.Test.YtgjolijncmkkhaaGreatDoorQe
import Derived.Test.YtgjolijncmkkhaaGreatDoorQf
import Derived.Test.YtgjolijncmkkhaaGreatDoorQh
import Derived.Test.YtgjolijncmkkhaaGreatDoorQo
import Derived.Test.YtgjolijncmkkhaaGreatDoorQp
import Derived.Test.YtgjolijncmkkhaaGreatDoorQq
import Derived.Test.YtgjolijncmkkhaaGreatDoorQv
import Derived.Test.YtgjolijncmkkhaaGreatDoorQw
import Derived.Test.YtgjolijncmkkhaaGreatDoorQx
import Derived.Test.YtgjolijncmkkhaaGreatDoorQy
import Derived.Deep.RegionLaw
import Derived.Deep.RegionHeld3
import Derived.Deep.Cut
import Derived.Deep.CutRange
import Derived.Deep.CutBlock
namespace Go.Proofs.YtgjolijncmkkhaaGreatDoor
open Go.RowKit
set_option linter.unusedVariables false
set_option maxRecDepth 100000
theorem zsD (w:Xk) (code:Xl) (l:Xg) (h:Byt w code l) :
  Calls Tryz.prog 7 #[code] w fun e w'=>e=.returned (.bool (decide ((60000:Int)<(l.length:Int))))∧w'=w:=by
 obtain⟨a0,c0,rfl,_,_⟩:=h.shape
 clear h
 go_enter Tryz.func7,Tryz.ntmps7
 go_wp2_with fail
 go_ret
 exact⟨rfl,rfl⟩
theorem zvy {n:Nat} {t:Tr (n+1)} (hg:zaG (n+1) t) (hn:t.name=[98,111,100,121]):t.kind=0:=by
 rcases hg with ⟨_,q2,_⟩ | ⟨⟨q1,_⟩,_⟩
 ·rw [hn]at q2;cases q2
 ·exact q1
theorem zvK {n:Nat} {t:Tr (n+1)} (h:okN n t=true):zey n t t=true:=by
 unfold zey
 rw [h,ztq rfl]
 rfl
theorem zqm {n m:Nat} {t:Tr (n+1)} {u:Tr (m+1)} (h:encT (n+1) t=encT (m+1) u):t.kind=u.kind∧t.name=u.name∧t.attrs=u.attrs:=by
 rw [zbt,zbt]at h
 unfold zav at h
 injection h with h _
 simp only [Itm.mk.injEq]at h
 exact⟨h.2.1,h.2.2.1,h.2.2.2.2⟩
theorem ztI {l:Xg} {its:List Itm} {w:Xk} {C:Xj} {F:Xh} (hb:bldL zaS zaJ l=some its) (hX:OwX w C its F) :
  ∃(N:Nat) (u:Tr (N+1)),RdNode (N+1) w C u∧encT (N+1) u=its∧zaG (N+1) u∧u.kind=0∧u.name=[98,111,100,121]∧u.attrs=[]∧okN N u=true∧szT (N+1) u<=36000∧its.length<=120∧∀i∈its,i.deep<=19:=by
 obtain⟨n,t,e1,hg,hn,ha,Aa,hd⟩:=zxK hb
 obtain⟨n',t',ho,e2⟩:=hX
 obtain⟨N,u,hr,hu,eu⟩:=zCi ho.rd (e2.trans e1.symm) hg
 have eu:=eu.trans e2
 obtain⟨q1,q2,q3⟩:=zqm (eu.trans e1.symm)
 have Ba:=q2.trans hn
 have h0:=zvy hu Ba
 have Ca:=zjn (N+1) u hu
 rw [eu]at Ca
 exact⟨N,u,hr,eu,hu,h0,Ba,q3.trans ha,zkh hu h0 (by rw [eu];exact Aa) (by rw [eu];exact hd),by omega,Aa,hd⟩
theorem znL {N M:Nat} {w:Xk} {C D:Xj} {u:Tr (N+1)} {v:Tr (M+1)} {its:List Itm} (h:RdNode (N+1) w C u) (k:RdNode (M+1) w D v) (hu:encT (N+1) u=its) (hv:encT (M+1) v=its) (hg:zaG (N+1) u) (h0:u.kind=0) (hl:its.length<=120) (hd:∀i∈its,i.deep<=19) :
  ∃(K:Nat) (x:Tr (K+1)),RdNode (K+1) w C x∧RdNode (K+1) w D x∧szT (K+1) x<=36000∧zey K x x=true:=by
 obtain⟨x,h1,h2⟩:=zoV (N:=max N M+1) h (by omega)
 obtain⟨y,k1,k2⟩:=zoV (N:=max N M+1) k (by omega)
 obtain⟨z,g1,g2⟩:=zja (N:=max N M+1) hg (by omega)
 have e:x=y:=zjq (by rw [h2,k2,hu,hv])
 have e':x=z:=zjq (by rw [h2,g1])
 subst e
 subst e'
 have hs:=zjn _ x g2
 rw [h2,hu]at hs
 have hx:encT (max N M+1) x=its:=h2.trans hu
 exact⟨max N M,x,h1,k1,by omega,zvK (zkh g2 ((zqm h2).1.trans h0) (by rw [hx];exact hl) (by rw [hx];exact hd))⟩
def fin (s:RdS):Option RdS:=iter (mu s) s
theorem zqW:∀(n:Nat) (s:RdS) (f:Nat),mu s<=n->mu s<=f->iter f s=fin s:=by
 intro n
 induction n with
 | zero=>
  intro s f hn hf
  have hs:s.tag=none∧s.rest=[]:=by
   unfold mu at hn
   by_cases e:s.tag=none
   ·rw [if_pos e]at hn
    exact⟨e,List.length_eq_zero_iff.1 (by omega)⟩
   ·rw [if_neg e]at hn;omega
  unfold fin
  rw [zbY hs.1 hs.2,zbY hs.1 hs.2]
 | succ n ih=>
  intro s f hn hf
  by_cases hs:s.tag=none∧s.rest=[]
  ·unfold fin
   rw [zbY hs.1 hs.2,zbY hs.1 hs.2]
  ·have h0:0<mu s:=by
    unfold mu
    by_cases e:s.tag=none
    ·have:=List.length_pos_iff.2 (fun e'=>hs ⟨e,e'⟩)
     omega
    ·rw [if_neg e];omega
   obtain⟨g,rfl⟩:∃g,f=g+1:=⟨f-1,by omega⟩
   obtain⟨m,hm⟩:∃m,mu s=m+1:=⟨mu s-1,by omega⟩
   unfold fin
   rw [hm]
   unfold iter
   cases h:stp s with
   | none=>rfl
   | some u=>
    have:=zgF hs h
    show iter g u=iter m u
    rw [ih u g (by omega) (by omega),ih u m (by omega) (by omega)]
theorem zxr {s u:RdS} (h:stp s=some u):fin s=fin u:=by
 by_cases hs:s.tag=none∧s.rest=[]
 ·rw [zmx hs.1 hs.2]at h
  cases h
  rfl
 ·have h1:=zgF hs h
  obtain⟨m,hm⟩:∃m,mu s=m+1:=⟨mu s-1,by omega⟩
  show iter (mu s) s=_
  rw [hm]
  unfold iter
  rw [h]
  exact zqW _ u m (Nat.le_refl _) (by omega)
theorem zyx {s:RdS} (h:stp s=none):fin s=none:=by
 have hs:¬ (s.tag=none∧s.rest=[]):=fun hs=>by rw [zmx hs.1 hs.2]at h;cases h
 have h0:0<mu s:=by
  unfold mu
  by_cases e:s.tag=none
  ·have:=List.length_pos_iff.2 (fun e'=>hs ⟨e,e'⟩)
   omega
  ·rw [if_neg e];omega
 obtain⟨m,hm⟩:∃m,mu s=m+1:=⟨mu s-1,by omega⟩
 unfold fin
 rw [hm]
 unfold iter
 rw [h]
 rfl
theorem zwP {s t:RdS} (h:Reads s t):fin s=fin t:=by
 obtain⟨k,hk⟩:=h
 induction k generalizing s with
 | zero=>cases hk;rfl
 | succ k ih=>
  unfold iter at hk
  cases h:stp s with
  | none=>rw [h]at hk;cases hk
  | some u=>
   rw [h]at hk
   rw [zxr h]
   exact ih hk
theorem zzN (l:Xg):bldL zaS zaJ l=if l.length<=1500 then (fin (zaR l)).map fun s=>zav (zaT s.below.length s.top s.below).1 else none:=by
 unfold bldL
 rw [zhL,zqW _ (zaR l) _ (Nat.le_refl _) (by unfold mu zaR;simp)]
def Wk (s t:RdS):Prop:=fin s=none∨fin s=fin t
theorem Wk.trans {a b c:RdS} (h:Wk a b) (k:Wk b c):Wk a c:=by
 rcases h with h | h
 ·exact .inl h
 ·rcases k with k | k
  ·exact .inl (h.trans k)
  ·exact .inr (h.trans k)
theorem Reads.wk {a b:RdS} (h:Reads a b):Wk a b:=.inr (zwP h)
theorem ztc {a b:RdS} (h:stp a=none):Wk a b:=.inl (zyx h)
theorem zAp {u r:Xg} {kd:Int} {nm tx:Xg} {ats:List AtV} {ks:List (List Itm)} {below:List OnD} {p:Nat} (hu:zar u) (h0:u≠[]) (hk:ks.getLast?.bind zax=none) :
  Wk ⟨say false u++r,none,⟨kd,nm,tx,ats,ks⟩,below,p⟩ ⟨r,none,⟨kd,nm,tx,ats,ks++[txtI u]⟩,below,p+1⟩:=by
 cases u with
 | nil=>exact absurd rfl h0
 | cons x u=>
  have ha:=zgA hu
  have hx:=ha x (by simp)
  by_cases hr:room ⟨say false u++r,none,⟨kd,nm,tx,ats,ks⟩,below,p⟩=true
  ·have k1:Reads ⟨sayB false x++(say false u++r),none,⟨kd,nm,tx,ats,ks⟩,below,p⟩ ⟨say false u++r,none,⟨kd,nm,tx,ats,ks++[txtI [x]]⟩,below,p+1⟩:=Reads.one (by
    rw [zkm hx]
    unfold putX
    rw [if_pos (zhx hx)]
    simp only [hk]
    rw [if_pos hr])
   have k2:=zlR u [x] r kd nm tx ats ks below (p+1) (fun y hy=>ha y (by simp [hy])) (by have:=hu.1;simp at this ⊢;omega)
   rw [zfK,List.append_assoc]
   exact (k1.trans k2).wk
  ·rw [zfK,List.append_assoc]
   exact ztc (by
    rw [zkm hx]
    unfold putX
    rw [if_pos (zhx hx)]
    simp only [hk]
    rw [if_neg hr])
theorem zBf {nm:Xg} {m:List AtV} {r:Xg} {top:OnD} {below:List OnD} {p:Nat} (hn:zat nm) :
  Wk ⟨62::r,some (false,nm,m),top,below,p⟩ (if zba nm=true then ⟨r,none,{ top with kids:=top.kids++[zav ⟨0,nm,[],m,[]⟩] },below,p+1⟩ else ⟨r,none,⟨0,nm,[],m,[]⟩,top::below,p+1⟩):=by
 have e:stp ⟨62::r,some (false,nm,m),top,below,p⟩=putE ⟨r,none,top,below,p⟩ nm m:=by
  show zcJ zaS zaJ ⟨62::r,some (false,nm,m),top,below,p⟩ false nm m=_
  unfold zcJ
  simp only [if_true]
  unfold endT
  rw [if_pos ((zby nm).2 hn)]
  simp only [Bool.false_eq_true,if_false]
 by_cases hr:room ⟨r,none,top,below,p⟩=true
 ·refine (Reads.one ?_).wk
  rw [e]
  unfold putE
  rw [if_pos hr]
  simp only
  rw [show zpg nm=zba nm from rfl]
  split<;>rfl
 ·refine ztc ?_
  rw [e]
  unfold putE
  rw [if_neg hr]
theorem zmT:∀(n:Nat) (ts:List (Tr n)) (top:OnD) (below:List OnD) (p:Nat) (r:Xg),(∀t∈ts,zaG n t)->AdjX (ts.map (encT n))->zzy top.kids (ts.map (encT n))->
  Wk ⟨(ts.map (mkup n)).flatten++r,none,top,below,p⟩ ⟨r,none,{ top with kids:=top.kids++ts.map (encT n) },below,p+szE n ts⟩
 | n,[],top,below,p,r,_,_,_=>by simp [szE];exact (Reads.refl _).wk
 | 0,t::ts,_,_,_,_,_,_,_=>t.elim
 | n+1,t::ts,top,below,p,r,hg,ha,hx=>by
  have Fa:=hg t (by simp)
  have Ga:szE (n+1) (t::ts)=1+szE n t.kids+szE (n+1) ts:=by
   show (encT (n+1) t).length+szE (n+1) ts=_
   rw [zel]
  have IH:=zmT (n+1) ts { top with kids:=top.kids++[encT (n+1) t] } below (p+(1+szE n t.kids)) r (fun u hu=>hg u (by simp [hu])) (zyk ha) (zxR ha)
  simp only [List.append_assoc,List.singleton_append]at IH
  have Aa:((t::ts).map (mkup (n+1))).flatten++r=mkup (n+1) t++((ts.map (mkup (n+1))).flatten++r):=by simp
  rw [Aa,Ga,<-Nat.add_assoc]
  refine Wk.trans ?_ IH
  rw [zhR]
  rcases Fa with ⟨q1,q2,q3,q4,q5,q6⟩ | ⟨⟨q1,q2,q3,q4⟩,q5,q6,q7⟩
  ·rw [if_pos q1]
   have he:encT (n+1) t=txtI t.text:=by
    rw [zbt,q1,q2,q3,q4];rfl
   have hz:szE n t.kids=0:=by rw [q4];rfl
   rw [he,hz]
   exact zAp q5 q6 (hx (encT (n+1) t) rfl (by rw [he];rfl))
  ·rw [if_neg (by rw [q1];decide)]
   have h1:=(zuw (r:=(if zba t.name=true then [] else (t.kids.map (mkup n)).flatten++[60,47]++t.name++[62])++((ts.map (mkup (n+1))).flatten++r)) (top:=top) (below:=below) (p:=p) q2 q4).wk
   have h2:=zBf (m:=t.attrs) (r:=(if zba t.name=true then [] else (t.kids.map (mkup n)).flatten++[60,47]++t.name++[62])++((ts.map (mkup (n+1))).flatten++r)) (top:=top) (below:=below) (p:=p) q2
   have Ba:=h1.trans h2
   have he:encT (n+1) t=zav ⟨0,t.name,[],t.attrs,t.kids.map (encT n)⟩:=by rw [zbt,q1,q3]
   by_cases hv:zba t.name=true
   ·have hk:=q5 hv
    rw [if_pos hv,if_pos hv]at Ba
    rw [if_pos hv]
    rw [hk]at he ⊢
    rw [he]
    simpa [List.append_assoc,szE]using Ba
   ·rw [if_neg hv,if_neg hv]at Ba
    rw [if_neg hv]
    have Ca:=zmT n t.kids ⟨0,t.name,[],t.attrs,[]⟩ (top::below) (p+1) ([60,47]++t.name++[62]++((ts.map (mkup (n+1))).flatten++r)) q7 q6 (fun _ _ _=>rfl)
    have Da:=(zrO (m:=t.attrs) (ks:=t.kids.map (encT n)) (r:=(ts.map (mkup (n+1))).flatten++r) (b:=top) (below:=below) (p:=p+1+szE n t.kids) q2).wk
    rw [he]
    simp only [List.append_assoc,List.nil_append,Nat.add_assoc]at Ba Ca Da ⊢
    exact (Ba.trans Ca).trans Da
theorem zAG {n:Nat} {t:Tr n} (hg:zaG n t) {its:List Itm} (h:bldL zaS zaJ (mkup n t)=some its):its=zav ⟨0,[98,111,100,121],[],[],[encT n t]⟩:=by
 have k:=zmT n [t] ⟨0,[98,111,100,121],[],[],[]⟩ [] 1 [] (fun u hu=>by rw [List.mem_singleton.1 hu];exact hg) trivial (fun _ _ _=>rfl)
 simp only [List.map_cons,List.map_nil,List.flatten_cons,List.flatten_nil,List.append_nil,List.nil_append]at k
 rw [zzN]at h
 split at h
 ·rcases k with k | k
  ·rw [show zaR (mkup n t)=⟨mkup n t,none,⟨0,[98,111,100,121],[],[],[]⟩,[],1⟩ from rfl,k]at h
   cases h
  ·rw [show zaR (mkup n t)=⟨mkup n t,none,⟨0,[98,111,100,121],[],[],[]⟩,[],1⟩ from rfl,k]at h
   unfold fin at h
   rw [zbY rfl rfl]at h
   injection h with h
   exact h.symm
 ·cases h
theorem zAh {n N:Nat} {t:Tr (n+1)} (hN:n<=N):∃t':Tr (N+1),encT (N+1) t'=encT (n+1) t∧t'.kids.map (encT N)=t.kids.map (encT n):=by
 induction N with
 | zero=>
  have:n=0:=by omega
  subst this
  exact⟨t,rfl,rfl⟩
 | succ N ih=>
  by_cases e:n=N+1
  ·subst e;exact⟨t,rfl,rfl⟩
  ·obtain⟨t',h1,h2⟩:=ih (by omega)
   refine⟨upT (N+1) t',(zfI (N+1) t').trans h1,?_⟩
   show (t'.kids.map (upT N)).map (encT (N+1))=_
   rw [List.map_map,show encT (N+1) ∘ upT N=encT N from funext fun x=>zfI N x]
   exact h2
theorem zAm {n N:Nat} {t:Tr (n+1)} {u:Tr (N+1)} {w:Xk} {C:Xj} (hr:RdNode (N+1) w C u) (h:encT (N+1) u=zav ⟨0,[98,111,100,121],[],[],[encT (n+1) t]⟩) :
  ∃(K:Nat) (u':Tr (K+2)) (k:Tr (K+1)),RdNode (K+2) w C u'∧u'.kids=[k]∧encT (K+1) k=encT (n+1) t:=by
 obtain⟨K,hK⟩:∃K,max N (n+1)=K+1:=⟨max N (n+1)-1,by omega⟩
 obtain⟨u',h1,h2⟩:=zoV (N:=K+2) hr (by omega)
 obtain⟨b,h3,h4⟩:=zAh (N:=K+1) (t:=((⟨0,[98,111,100,121],[],[],[t]⟩:Nd (Tr (n+1))):Tr (n+2))) (by omega)
 have e:u'=b:=zjq (by rw [h2,h3,h];rfl)
 subst e
 have h4:u'.kids.map (encT (K+1))=[encT (n+1) t]:=h4
 cases hk:u'.kids with
 | nil=>rw [hk]at h4;cases h4
 | cons k r=>
  rw [hk]at h4
  simp only [List.map_cons,List.cons.injEq,List.map_eq_nil_iff]at h4
  exact⟨K,u',k,h1,by rw [hk,h4.2],h4.1⟩
theorem rd5c {n:Nat} {w:Xk} {k:Int} {a1 a2 a3 a4:Xi} {n1 n2 n3 n4 c1 c2 c3 c4:Nat} {t:Tr (n+1)} (h:RdNode (n+1) w [.int .i64 k,.slice a1 n1 c1,.slice a2 n2 c2,.slice a3 n3 c3,.slice a4 n4 c4] t):k=t.kind∧n1=t.name.length∧n2=t.text.length∧n3=t.attrs.length∧n4=t.kids.length:=by
 obtain⟨_,_,_,_,e0,_,_,hb,hc,hd,he⟩:=h
 simp only [List.cons.injEq,and_true]at e0
 obtain⟨e,rfl,rfl,rfl,rfl⟩:=e0
 obtain⟨_,_,e1,_,_⟩:=hb.shape
 obtain⟨_,_,e2,_,_⟩:=hc.shape
 obtain⟨_,_,e3,_,_⟩:=Elems.shape hd
 obtain⟨_,_,e4,_,_⟩:=Elems.shape he
 cases e
 injection e1 with _ e1 _
 injection e2 with _ e2 _
 injection e3 with _ e3 _
 injection e4 with _ e4 _
 exact⟨rfl,e1,e2,e3,e4⟩
theorem kid0 {K:Nat} {w:Xk} {k0 s1 s2 s3:Xl} {ae:Xi} {ne ce:Nat} {x:Tr (K+2)} {k:Tr (K+1)} (h:RdNode (K+2) w [k0,s1,s2,s3,.slice ae ne ce] x) (ek:x.kids=[k]) :
  ∃b off c0 c1 c2 c3 c4,ae=some ⟨b,off,none⟩∧ne=1∧1<=ce∧b<w.heap.size∧w.cell? ⟨b,off,none⟩=some c0∧w.cell? ⟨b,off+1,none⟩=some c1∧w.cell? ⟨b,off+2,none⟩=some c2∧w.cell? ⟨b,off+3,none⟩=some c3∧w.cell? ⟨b,off+4,none⟩=some c4∧RdNode (K+1) w [c0,c1,c2,c3,c4] k:=by
 obtain⟨_,_,_,_,e0,_,_,_,_,_,he⟩:=h
 simp only [List.cons.injEq,and_true]at e0
 obtain⟨_,rfl,rfl,rfl,rfl⟩:=e0
 have hl:0<x.kids.length:=by rw [ek];exact Nat.zero_lt_one
 obtain⟨b,off,rfl,hb,hn,hc,hx⟩:=Elems.at he hl
 obtain⟨c0,c1,c2,c3,c4,q0,q1,q2,q3,q4,hr⟩:=ziZ hx
 have e1:x.kids[0]=k:=by simp [ek]
 rw [e1]at hr
 simp only [Nat.zero_mul,Nat.add_zero]at q0 q1 q2 q3 q4
 rw [ek]at hn
 rw [hn]at hc ⊢
 exact⟨b,off,c0,c1,c2,c3,c4,rfl,rfl,hc,hb,q0,q1,q2,q3,q4,hr⟩
def Kd (w:Xk) (b o:Nat) (c0 c1 c2 c3 c4:Xl):Prop:=b<w.heap.size∧w.cell? ⟨b,o,none⟩=some c0∧w.cell? ⟨b,o+1,none⟩=some c1∧w.cell? ⟨b,o+2,none⟩=some c2∧w.cell? ⟨b,o+3,none⟩=some c3∧w.cell? ⟨b,o+4,none⟩=some c4
theorem Kd.keep {w w':Xk} {b o:Nat} {c0 c1 c2 c3 c4:Xl} (h:Kd w b o c0 c1 c2 c3 c4) (hb:Below w.heap.size w w'):Kd w' b o c0 c1 c2 c3 c4:=by
 obtain⟨h0,h1,h2,h3,h4,h5⟩:=h
 exact⟨Nat.lt_of_lt_of_le h0 hb.size,(hb.cell (p:=⟨b,o,none⟩) h0).trans h1,(hb.cell (p:=⟨b,o+1,none⟩) h0).trans h2,(hb.cell (p:=⟨b,o+2,none⟩) h0).trans h3,(hb.cell (p:=⟨b,o+3,none⟩) h0).trans h4,(hb.cell (p:=⟨b,o+4,none⟩) h0).trans h5⟩
def LawK (w:Xk) (e:Ending) (w':Xk):Prop:=e=.returned (.bool true)∧Below w.heap.size w w'
set_option maxHeartbeats 6400000 in
theorem zzg (w:Xk) (code:Xl) (l:Xg) (h:Byt w code l) (hl:(60000:Int)<(l.length:Int)):Calls Tryz.prog 4 #[code] w fun e w'=>LawK w e w':=by
 have hb:=zsD w code l h
 rw [decide_eq_true hl]at hb
 have HB:=hide hb
 have H0:=hide (Below.refl w.heap.size w)
 obtain⟨a0,c0,rfl,_,_⟩:=h.shape
 clear h hb hl
 go_enter Tryz.func4,Tryz.ntmps4
 go_wp2_with fail
 refine (zaa HB).mono ?_
 rintro e w1 ⟨rfl,rfl⟩
 go_wp2_with fail
 refine (zaa HB).mono ?_
 rintro e w2 ⟨rfl,rfl⟩
 go_wp2_with fail
 go_ret
 exact⟨rfl,zaa H0⟩
set_option maxHeartbeats 6400000 in
theorem zuv (hbent:zkw) (hal:∀w,Glo w->Calls Tryz.prog 8 #[] w fun e w'=>e=.returned (.bool true)∧Below w.heap.size w w') (w:Xk) (code:Xl) (l:Xg) (h:Byt w code l) (hG:Glo w) (hl:¬ (60000:Int)<(l.length:Int)):Calls Tryz.prog 4 #[code] w fun e w'=>LawK w e w':=by
 have hb:=zsD w code l h
 rw [decide_eq_false hl]at hb
 have HB:=hide hb
 have HA:=hide (hal w hG)
 have HD:=hide (fun W (hW:Below w.heap.size w W)=>zpA hbent W code l (h.keep hW))
 obtain⟨a0,c0,rfl,_,_⟩:=h.shape
 clear h hb hl hG hal
 go_enter Tryz.func4,Tryz.ntmps4
 go_wp2_with fail
 refine (zaa HB).mono ?_
 rintro e w1 ⟨rfl,rfl⟩
 go_wp2_with fail
 refine (zaa HA).mono ?_
 rintro e w2 ⟨rfl,ma⟩
 have ta:=hide (zaa HD _ ma)
 have HX:=hide ma
 clear HA HB HD ma
 go_wp2_with fail
 refine (zaa ta).mono ?_
 rintro e w3 ⟨kd,a1,n1,c1,a2,n2,c2,a3,n3,c3,a4,n4,c4,rfl,⟨n,t,hr,wa⟩,xa⟩
 clear ta
 cases n with
 | zero=>exact hr.elim
 | succ n=>
 obtain⟨rfl,rfl,rfl,rfl,rfl⟩:=rd5c hr
 have hA:=(Below.refl w3.heap.size w3).alloc (Nat.le_refl _) (.cells #[.int .i64 t.kind,.slice a1 t.name.length c1,.slice a2 t.text.length c2,.slice a3 t.attrs.length c3,.slice a4 t.kids.length c4] 29)
 have lb:=Loc.made w3 #[.int .i64 t.kind,.slice a1 t.name.length c1,.slice a2 t.text.length c2,.slice a3 t.attrs.length c3,.slice a4 t.kids.length c4] 29
 have HT:=hide (zpt n _ _ _ _ _ _ t (hr.keep hA) (by omega))
 have HL:=hide (And.intro hr (And.intro (zal (zaa HX) xa) (And.intro hA lb)))
 have HS:=hide wa
 clear hr xa hA lb HX wa
 go_wp2_with fail
 refine (zaa HT).mono ?_
 rintro e w4 ⟨kt,b1,m1,d1,b2,m2,d2,b3,m3,d3,b4,m4,d4,rfl,F,hO,-,-,la⟩
 obtain⟨hr,Za,hA,lb⟩:=zaa HL
 have ja:=hO.rd
 obtain⟨rfl,rfl,rfl,rfl,rfl⟩:=rd5c ja
 have ea:=(Below.refl w4.heap.size w4).alloc (Nat.le_refl _) (.cells #[.int .i64 (zbc n t).kind,.slice b1 (zbc n t).name.length d1,.slice b2 (zbc n t).text.length d2,.slice b3 (zbc n t).attrs.length d3,.slice b4 (zbc n t).kids.length d4] 29)
 have lt:=Loc.made w4 #[.int .i64 (zbc n t).kind,.slice b1 (zbc n t).name.length d1,.slice b2 (zbc n t).text.length d2,.slice b3 (zbc n t).attrs.length d3,.slice b4 (zbc n t).kids.length d4] 29
 have sa:=zal (zal hA la) ea
 have Ma:=lb.all (zal la ea)
 have Oa:=hr.keep sa
 obtain⟨y0,y1,y2,y3,y4⟩:=zbb Ma
 have HN:=hide (zvV n _ _ _ _ _ _ t Oa)
 have fa:=hide (And.intro (zal Za sa) (And.intro Ma (And.intro Oa (And.intro lt (ja.keep ea)))))
 clear HT HL hr Za hA lb hO ja ea lt sa Ma Oa la
 generalize hu:zbc n t=u at *
 cases hk:okN n t with
 | false=>
  rw [hk]at HN
  have e0:u=(⟨0,[],[],[],[]⟩:Nd (Tr n)):=by rw [<-hu];unfold zbc;exact if_neg (by rw [hk];decide)
  have Bb:=hide (show u.name.length=0 by rw [e0];rfl)
  clear e0
  clear hu
  go_wp2_with fail
  refine (zaa HN).mono ?_
  rintro e w6 ⟨rfl,Ja⟩
  obtain⟨Da,Ma,Oa,Va,La⟩:=zaa fa
  have hN:=zcO n w6 _ _ _ _ _ t (Oa.keep Ja) (by have:=zaa HS;omega)
  rw [hk]at hN
  have ya:=hide hN
  have HX:=hide (zal Da Ja)
  obtain⟨x0,x1,x2,x3,x4⟩:=zbb (Ma.all Ja)
  obtain⟨q0,q1,q2,q3,q4⟩:=zbb (Va.all Ja)
  rw [zaa Bb]at q1
  clear HN fa Da Ma Oa Va La hN Ja y0 y1 y2 y3 y4 hk Bb
  go_wp2_with fail
  refine (zaa ya).mono ?_
  rintro e w7 ⟨rfl,Qa⟩
  have HE:=hide (zal (zaa HX) Qa)
  clear ya HX Qa
  go_wp2_with fail
  go_ret
  exact⟨rfl,zaa HE⟩
 | true=>
  have e1:u=zaB (n+1) t:=by rw [<-hu];unfold zbc;exact if_pos hk
  obtain⟨g1,k1,Pa,ba,Ba,Ra⟩:=zAI hk
  rw [<-e1]at g1 k1 Pa ba Ba Ra
  have hb:zbc n u=u:=by
   have e2:zbc n u=zaB (n+1) u:=by unfold zbc;exact if_pos Pa
   rw [e2]
   exact zlQ n u g1
  rw [hk]at HN
  have HG:=hide (And.intro g1 (And.intro k1 (And.intro Pa (And.intro ba (And.intro Ba (And.intro Ra hb))))))
  clear e1 g1 k1 Pa ba Ba Ra hb hu hk
  go_wp2_with fail
  refine (zaa HN).mono ?_
  rintro e w6 ⟨rfl,Ja⟩
  obtain⟨Da,Ma,Oa,Va,La⟩:=zaa fa
  have Sa:=Va.all Ja
  have Aa:=La.keep Ja
  have hm:=zuE n w6 _ _ _ _ _ u Aa (by have:=(zaa HG).2.2.2.1;omega)
  have HM:=hide hm
  have Db:=hide (And.intro (zal Da Ja) (And.intro Sa Aa))
  obtain⟨q0,q1,q2,q3,q4⟩:=zbb Sa
  clear HN fa Da Ma Oa Va La Sa Aa hm Ja y0 y1 y2 y3 y4
  go_wp2_with fail
  refine (zaa HM).mono ?_
  rintro e w7 ⟨v,rfl,ho,Qa⟩
  replace ho:=ho.byt
  unfold zkf at ho
  rw [if_pos (zaa HG).2.2.1]at ho
  have qa:=hide (fun its=>zAG (zaa HG).1 (its:=its))
  obtain⟨Wa,Sa,Aa⟩:=zaa Db
  have ga:=hide (And.intro (zal Wa Qa) (And.intro (Sa.all Qa) (Aa.keep Qa)))
  clear HM Db Wa Sa Aa Qa q0 q1 q2 q3 q4
  generalize mkup (n+1) u=m at *
  obtain⟨av,cv,rfl,_,_⟩:=ho.shape
  have HC:=hide (zvx w7 av cv m ho)
  clear ho
  go_wp2_with fail
  refine (zaa HC).mono ?_
  intro e w8 h8
  clear HC
  unfold zpm at h8
  cases hz:bldL zaS zaJ m with
  | none=>
   rw [hz]at h8
   obtain⟨rfl,ca⟩:=h8
   have HE:=hide (zal (zaa ga).1 (zal ca ((Below.refl _ _).alloc (Nat.le_refl _) (.cells zN 29))))
   clear ga HG qa HS ca hz
   by_cases hlong:(1500:Int)<(m.length:Int)
   all_goals
    go_wp2_with fail
    go_ret
    exact⟨rfl,zaa HE⟩
  | some its=>
   rw [hz]at h8
   obtain⟨kz,p1,p2,p3,p4,F,rfl,hX,-,-,ca⟩:=h8
   have Ab:=zaa qa its hz
   obtain⟨N,x,rx,ex,-⟩:=ztI hz hX
   obtain⟨K,x',kk,na,ek,Ya⟩:=zAm (t:=u) rx (ex.trans Ab)
   obtain⟨_,ab,nb,cb,ac,nc,cc,ad,nd,cd,ae,ne,ce,-,rfl,rfl,rfl,rfl⟩:=zjg na
   have oa:=(Below.refl w8.heap.size w8).alloc (Nat.le_refl _) (.cells #[.int .i64 kz,.slice ab nb cb,.slice ac nc cc,.slice ad nd cd,.slice ae ne ce] 29)
   have lx:=Loc.made w8 #[.int .i64 kz,.slice ab nb cb,.slice ac nc cc,.slice ad nd cd,.slice ae ne ce] 29
   have Ta:=na.keep oa
   obtain⟨kb,ko,_,_,_,_,_,rfl,rfl,Qb,-⟩:=kid0 Ta ek
   obtain⟨q0,q1,q2,q3,q4⟩:=zbb lx
   obtain⟨Ua,Hb,Xa⟩:=zaa ga
   have ha:=zal ca oa
   have Gb:=hide (And.intro (zal Ua ha) (And.intro (Hb.all ha) (And.intro (Xa.keep ha) (And.intro Ta (And.intro lx (And.intro ek Ya))))))
   clear ga qa ca hz hX Ab rx ex na ek Ya oa lx Ta Ua Hb Xa ha
   go_upto_region 11 with fail
   generalize hW9:w8.alloc (.cells #[.int .i64 kz,.slice ab nb cb,.slice ac nc cc,.slice ad nd cd,.slice (some ⟨kb,ko,none⟩) 1 ce] 29)=w9 at *
   clear hW9
   obtain⟨aa,Fb,Fa,Ta,Cb,ek,Ya⟩:=zaa Gb
   obtain⟨Lb,Kb,c0,c1,c2,c3,c4,e,-,-,Eb,z0,z1,z2,z3,z4,va⟩:=kid0 Ta ek
   cases e
   obtain⟨g1,k1,Pa,ba,Ba,Ra,hb⟩:=zaa HG
   obtain⟨M,s,r1,r2,hs,Na⟩:=znL Fa va rfl Ya g1 k1 Ba Ra
   have hN:=fun W (hW:Below w9.heap.size w9 W)=>zcO n W _ _ _ _ _ u (Fa.keep hW) (by omega)
   have hS:=fun W (hW:Below w9.heap.size w9 W)=>znQ M W _ _ _ _ _ _ _ _ _ _ s s (r2.keep hW) (r1.keep hW) (by omega) (by omega)
   have hT:=fun W (hW:Below w9.heap.size w9 W)=>zpt n W _ _ _ _ _ u (Fa.keep hW) (by omega)
   simp only [Pa]at hN
   simp only [Na]at hS
   simp only [hb]at hT
   have HN:=hide hN
   have ua:=hide hS
   have HT:=hide hT
   have HL:=hide (And.intro aa (And.intro Fb (And.intro Cb (show Kd w9 kb ko c0 c1 c2 c3 c4 from ⟨Eb,z0,z1,z2,z3,z4⟩))))
   have HU:=hide (fun W (hW:Below w9.heap.size w9 W)=>Fa.keep hW)
   clear Gb aa Fb Fa Ta Cb ek Ya va g1 k1 Pa ba Ba Ra hb r1 r2 hs Na hN hS hT z0 z1 z2 z3 z4 Eb q0 q1 q2 q3 q4
   obtain⟨q0,q1,q2,q3,q4⟩:=zbb (zaa HL).2.2.1
   obtain⟨y0,y1,y2,y3,y4⟩:=zbb (zaa HL).2.1
   obtain⟨-,z0,z1,z2,z3,z4⟩:=(zaa HL).2.2.2
   go_region_held3 (fun w'=>w'.cell? ⟨w4.heap.size,0,none⟩=some (.int .i64 u.kind)∧w'.cell? ⟨w4.heap.size,1,none⟩=some (.slice b1 u.name.length d1)∧w'.cell? ⟨w4.heap.size,2,none⟩=some (.slice b2 u.text.length d2)∧w'.cell? ⟨w4.heap.size,3,none⟩=some (.slice b3 u.attrs.length d3)∧w'.cell? ⟨w4.heap.size,4,none⟩=some (.slice b4 u.kids.length d4)∧w'.cell? ⟨w8.heap.size,4,none⟩=some (.slice (some ⟨kb,ko,none⟩) 1 ce)∧w'.cell? ⟨kb,ko,none⟩=some c0∧w'.cell? ⟨kb,ko+1,none⟩=some c1∧w'.cell? ⟨kb,ko+2,none⟩=some c2∧w'.cell? ⟨kb,ko+3,none⟩=some c3∧w'.cell? ⟨kb,ko+4,none⟩=some c4)
    (first | exact⟨by assumption,by assumption,by assumption,by assumption,by assumption,by assumption,by assumption,by assumption,by assumption,by assumption,by assumption⟩ | simp [*])
    (first
     | (go_at_call 12;refine (zaa HN _ ((Below.refl _ _).drew)).mono ?_;clear HN;rintro e Pb ⟨rfl,ka⟩;have Ca:=zal ((Below.refl w9.heap.size w9).drew) ka;obtain⟨q0,q1,q2,q3,q4⟩:=zbb ((zaa HL).2.2.1.all Ca);obtain⟨y0,y1,y2,y3,y4⟩:=zbb ((zaa HL).2.1.all Ca);obtain⟨-,z0,z1,z2,z3,z4⟩:=(zaa HL).2.2.2.keep Ca)
     | (go_at_call 13;refine (zaa ua _ Ca).mono ?_;clear ua;rintro e Nb ⟨rfl,ia⟩;have Ia:=zal Ca ia;obtain⟨q0,q1,q2,q3,q4⟩:=zbb ((zaa HL).2.2.1.all Ia);obtain⟨y0,y1,y2,y3,y4⟩:=zbb ((zaa HL).2.1.all Ia);obtain⟨-,z0,z1,z2,z3,z4⟩:=(zaa HL).2.2.2.keep Ia)
     | (go_at_call 15;refine (zaa HT _ Ia).mono ?_;clear HT;rintro e Jb ⟨kt,e1,m1,f1,e2,m2,f2,e3,m3,f3,e4,m4,f4,rfl,F2,hO,-,-,da⟩;have Ga:=zal Ia da;obtain⟨q0,q1,q2,q3,q4⟩:=zbb ((zaa HL).2.2.1.all Ga);obtain⟨y0,y1,y2,y3,y4⟩:=zbb ((zaa HL).2.1.all Ga);obtain⟨-,z0,z1,z2,z3,z4⟩:=(zaa HL).2.2.2.keep Ga;obtain⟨M2,s2,r1,r2,Ib,Ha⟩:=znL (zaa HU _ Ga) hO.rd rfl rfl (zaa HG).1 (zaa HG).2.1 (zaa HG).2.2.2.2.1 (zaa HG).2.2.2.2.2.1;have pa:=znQ M2 Jb _ _ _ _ _ _ _ _ _ _ s2 s2 r2 r1 (by omega) (by omega);rw [Ha]at pa;have za:=hide pa;clear pa r1 r2 Ib Ha hO da)
     | (go_at_call 13;refine (zaa za).mono ?_;clear za;rintro e Ob ⟨rfl,ra⟩;have Ka:=zal Ga ra;obtain⟨q0,q1,q2,q3,q4⟩:=zbb ((zaa HL).2.2.1.all Ka);obtain⟨y0,y1,y2,y3,y4⟩:=zbb ((zaa HL).2.1.all Ka);obtain⟨-,z0,z1,z2,z3,z4⟩:=(zaa HL).2.2.2.keep Ka))
   all_goals
    go_wp2_with fail
    go_ret
    exact⟨rfl,zal (zaa HL).1 Ka⟩
theorem zyK (hbent:zkw) (hal:∀w,Glo w->Calls Tryz.prog 8 #[] w fun e w'=>e=.returned (.bool true)∧Below w.heap.size w w') (w:Xk) (code:Xl) (l:Xg) (h:Byt w code l) (hG:Glo w) :
  Calls Tryz.prog 4 #[code] w fun e w'=>e=.returned (.bool true)∧Below w.heap.size w w':=by
 by_cases hl:(60000:Int)<(l.length:Int)
 ·exact zzg w code l h hl
 ·exact zuv hbent hal w code l h hG hl
end Go.Proofs.YtgjolijncmkkhaaGreatDoor
