/- Own texts joined: BdI. -/
import Derived.Test.YtgjolijncmkkhaaGreatDoorJa
import Derived.Test.YtgjolijncmkkhaaGreatDoorJn
namespace Go.Proofs.YtgjolijncmkkhaaGreatDoor
open Go.RowKit
set_option linter.unusedVariables false
def zen (its:List Itm):Prop:=∃(n:Nat) (t:Tr n),encT n t=its∧zbc n t
theorem zrt:∀(n:Nat) (t:Tr n),zbc n t->zbc (n+1) (upT n t)
 | 0,t,_=>t.elim
 | n+1,t,h=>by
  have hk:(t.kids.map (upT n)).map (encT (n+1))=t.kids.map (encT n):=by
   rw [List.map_map,show encT (n+1) ∘ upT n=encT n from funext fun x=>zid n x]
  rcases h with ⟨q1,q2,q3,q4,q5,q6⟩ | ⟨⟨q1,q2,q3,q4⟩,q5,q6,q7⟩
  ·exact .inl ⟨q1,q2,q3,(show t.kids.map (upT n)=[] by rw [q4];rfl),q5,q6⟩
  ·refine .inr ⟨⟨q1,q2,q3,q4⟩,fun e=>(show t.kids.map (upT n)=[] by rw [q5 e];rfl),(show AdjX ((t.kids.map (upT n)).map (encT (n+1))) by rw [hk];exact q6),fun k hk=> ?_⟩
   have hk:k∈t.kids.map (upT n):=hk
   obtain⟨u,hu,rfl⟩:=List.mem_map.1 hk
   exact zrt n u (q7 u hu)
theorem ziz {n N:Nat} {t:Tr n} (h:zbc n t) (hN:n<=N):∃t':Tr N,encT N t'=encT n t∧zbc N t':=by
 induction N with
 | zero=>
  have:n=0:=by omega
  subst this
  exact⟨t,rfl,h⟩
 | succ N ih=>
  by_cases e:n=N+1
  ·subst e;exact⟨t,rfl,h⟩
  ·obtain⟨t',h1,h2⟩:=ih (by omega)
   exact⟨upT N t',(zid N t').trans h1,zrt N t' h2⟩
theorem zoP:∀(ks:List (List Itm)),(∀k∈ks,zen k)->∃(n:Nat) (ts:List (Tr n)),ts.map (encT n)=ks∧∀t∈ts,zbc n t
 | [],_=>⟨0,[],rfl,fun _ h=>by cases h⟩
 | k::ks,h=>by
  obtain⟨n,t,e1,e2⟩:=h k (by simp)
  obtain⟨m,ts,f1,f2⟩:=zoP ks (fun x hx=>h x (by simp [hx]))
  obtain⟨t',g1,g2⟩:=ziz (N:=max n m) e2 (Nat.le_max_left _ _)
  have Aa:∀us:List (Tr m),(∀u∈us,zbc m u)->∃vs:List (Tr (max n m)),vs.map (encT (max n m))=us.map (encT m)∧∀v∈vs,zbc (max n m) v:=by
   intro us
   induction us with
   | nil=>intro _;exact⟨[],rfl,fun _ h=>by cases h⟩
   | cons u us ih=>
    intro hu
    obtain⟨vs,k1,k2⟩:=ih (fun x hx=>hu x (by simp [hx]))
    obtain⟨v,k3,k4⟩:=ziz (N:=max n m) (hu u (by simp)) (Nat.le_max_right _ _)
    refine⟨v::vs,by rw [List.map_cons,List.map_cons,k1,k3],fun x hx=> ?_⟩
    rcases List.mem_cons.1 hx with rfl | hx
    ·exact k4
    ·exact k2 x hx
  obtain⟨vs,k1,k2⟩:=Aa ts f2
  refine⟨max n m,t'::vs,by rw [List.map_cons,g1,e1,k1,f1],fun x hx=> ?_⟩
  rcases List.mem_cons.1 hx with rfl | hx
  ·exact g2
  ·exact k2 x hx
theorem zmf {o:OnD} (h:zom o) (hv:zaL o.name=true->o.kids=[]) (hk:∀k∈o.kids,zen k) (ha:AdjX o.kids):∃(n:Nat) (t:Tr (n+1)),encT (n+1) t=zas o∧zbc (n+1) t∧t.name=o.name∧t.attrs=o.attrs:=by
 obtain⟨kd,nm,tx,Aa,ks⟩:=o
 obtain⟨n,ts,rfl,e2⟩:=zoP ks hk
 exact⟨n,(⟨kd,nm,tx,Aa,ts⟩:Nd (Tr n)),rfl,.inr ⟨h,fun e=>List.map_eq_nil_iff.1 (hv e),ha,e2⟩,rfl,rfl⟩
theorem zqo {t:Xc} (h:zaB t) (h0:t≠[]):zen (txtI t):=⟨1,(⟨1,[],t,[],[]⟩:Nd (Tr 0)),rfl,.inl ⟨rfl,rfl,rfl,rfl,h,h0⟩⟩
theorem zfh:∀(ks:List (List Itm)) (k:List Itm),AdjX (ks++[k])↔AdjX ks∧∀a,ks.getLast? = some a->¬ (ziW a=true∧isTx k=true)
 | [],k=>by simp [AdjX]
 | [a],k=>by simp [AdjX]
 | a::b::r,k=>by
  have ih:=zfh (b::r) k
  show (¬ _∧AdjX (b::r++[k]))↔(¬ _∧AdjX (b::r))∧_
  rw [ih,and_assoc]
  simp
theorem zne {k:List Itm} {t:Xc} (h:zen k) (ht:zau k=some t):k=txtI t∧zaB t∧t≠[]∧t.length≠30:=by
 obtain⟨n,u,rfl,hg⟩:=h
 match n,u,hg with
 | n+1,u,hg=>
  rcases hg with ⟨q1,q2,q3,q4,q5,q6⟩ | ⟨⟨q1,q2,q3,q4⟩,q5,q6,q7⟩
  ·have e:encT (n+1) u=txtI u.text:=by rw [zaW,q1,q2,q3,q4];rfl
   rw [e]at ht ⊢
   unfold zau txtI at ht
   simp only [true_and]at ht
   split at ht
   ·cases ht
    rename_i Aa
    exact⟨rfl,q5,q6,Aa⟩
   ·cases ht
  ·rw [zaW,ztG _ q1]at ht
   cases ht
theorem znG (o:OnD) (h:o.kind=0):isTx (zas o)=false:=by
 unfold zas isTx
 simp [h]
def ztm (o:OnD):Prop:=zom o∧zaL o.name=false∧(∀k∈o.kids,zen k)∧AdjX o.kids
def lenO (o:OnD):Nat:=(zas o).length
theorem zmr (o:OnD):lenO o=1+(o.kids.map List.length).sum:=by
 unfold lenO zas
 rw [List.length_cons,zlR,Nat.add_comm]
 simp only [List.length_map]
def Dp:List OnD->Prop
 | []=>True
 | o::os=>(∀k∈o.kids,∀i∈k,os.length+1+i.deep<=19)∧Dp os
structure Stk (os:List OnD) (p:Nat):Prop where
 good:∀o∈os,ztm o
 dp:Dp os
 sum:p=(os.map lenO).sum
 le:p<=120
 len:os.length<=20
 root:∃z,os.getLast? = some z∧z.name=[98,111,100,121]∧z.attrs=[]
theorem zxg {o:OnD} {k:List Itm} (h:ztm o) (hk:zen k) (ha:∀a,o.kids.getLast? = some a->¬ (ziW a=true∧isTx k=true)):ztm { o with kids:=o.kids++[k] }:=by
 obtain⟨h1,h2,h3,h4⟩:=h
 refine⟨h1,h2,fun x hx=> ?_,(zfh _ _).2 ⟨h4,ha⟩⟩
 rcases List.mem_append.1 hx with hx | hx
 ·exact h3 x hx
 ·rw [List.mem_singleton.1 hx];exact hk
theorem znN {b b':OnD} {bs:List OnD} (hn:b'.name=b.name) (ha:b'.attrs=b.attrs) (h:∃z,(b::bs).getLast? = some z∧z.name=[98,111,100,121]∧z.attrs=[]):∃z,(b'::bs).getLast? = some z∧z.name=[98,111,100,121]∧z.attrs=[]:=by
 cases bs with
 | nil=>
  obtain⟨z,h1,h2,h3⟩:=h
  cases h1
  exact⟨b',rfl,by rw [hn];exact h2,by rw [ha];exact h3⟩
 | cons c cs=>
  obtain⟨z,h1,h2,h3⟩:=h
  exact⟨z,by rw [List.getLast?_cons_cons]at h1 ⊢;exact h1,h2,h3⟩
theorem Stk.kid {o:OnD} {os:List OnD} {p q:Nat} {k:List Itm} (h:Stk (o::os) p) (hk:zen k) (ha:∀a,o.kids.getLast? = some a->¬ (ziW a=true∧isTx k=true)) (hd:∀i∈k,os.length+1+i.deep<=19) (hp:q=p+k.length) (hq:q<=120):Stk ({ o with kids:=o.kids++[k] }::os) q:=by
 obtain⟨h1,h2,h3,h4,h5,h6⟩:=h
 refine⟨fun x hx=> ?_,⟨fun x hx i hi=> ?_,h2.2⟩,?_,hq,h5,znN (b:=o) rfl rfl h6⟩
 ·rcases List.mem_cons.1 hx with rfl | hx
  ·exact zxg (h1 o (by simp)) hk ha
  ·exact h1 x (by simp [hx])
 ·rcases List.mem_append.1 hx with hx | hx
  ·exact h2.1 x hx i hi
  ·rw [List.mem_singleton.1 hx]at hi;exact hd i hi
 ·rw [hp,h3]
  simp only [List.map_cons,List.sum_cons,zmr]
  simp
  omega
theorem Stk.close {t b:OnD} {bs:List OnD} {p:Nat} (h:Stk (t::b::bs) p):Stk ({ b with kids:=b.kids++[zas t] }::bs) p:=by
 obtain⟨h1,h2,h3,h4,h5,h6⟩:=h
 have ht:=h1 t (by simp)
 obtain⟨n,u,e1,e2,_⟩:=zmf ht.1 (fun e=>by rw [ht.2.1]at e;cases e) ht.2.2.1 ht.2.2.2
 have hb:Stk (b::bs) (((b::bs).map lenO).sum):=⟨fun x hx=>h1 x (by simp only [List.mem_cons]at hx ⊢;exact .inr hx),h2.2,rfl,by rw [h3]at h4;simp only [List.map_cons,List.sum_cons]at h4 ⊢;omega,by simp at h5 ⊢;omega,by simpa [List.getLast?_cons_cons]using h6⟩
 refine hb.kid ⟨_,u,e1,e2⟩ (fun a _ hc=>by rw [znG t ht.1.1]at hc;cases hc.2) (fun i hi=> ?_) ?_ h4
 ·simp at h5
  rcases List.mem_cons.1 hi with rfl | hi
  ·show bs.length+1+0<=19
   omega
  ·obtain⟨l,hl,Aa⟩:=List.mem_flatten.1 hi
   obtain⟨k,hk,rfl⟩:=List.mem_map.1 hl
   obtain⟨j,hj,rfl⟩:=List.mem_map.1 Aa
   have:=h2.1 k hk j hj
   simp [Itm.more]at this ⊢
   omega
 ·rw [h3]
  simp only [List.map_cons,List.sum_cons,lenO]
  omega
theorem Stk.closes:∀(k:Nat) {t:OnD} {bs:List OnD} {p:Nat},Stk (t::bs) p->Stk ((zaQ k t bs).1::(zaQ k t bs).2) p
 | 0,t,bs,p,h=>by cases bs<;>exact h
 | k+1,t,[],p,h=>h
 | k+1,t,b::bs,p,h=>Stk.closes k h.close
def InvS (s:RdS):Prop:=Stk (s.top::s.below) s.parts∧∀e nm ats,s.tag=some (e,nm,ats)->zdK ats
theorem zrM:zdK []:=⟨by simp,List.Pairwise.nil,fun _ h=>by cases h⟩
theorem zyJ {l:List AtV} {a:AtV} (h:zdK l) (ha:zaB a.2):zdK (zaI l a):=by
 unfold zaI
 by_cases hc:zbk l a.1=true∨l.length=4∨zaC a.1=false
 ·rw [if_pos hc];exact h
 ·rw [if_neg hc]
  simp only [not_or,Bool.not_eq_true,Bool.not_eq_false]at hc
  obtain⟨c1,c2,c3⟩:=hc
  have hb:=zqB h.2.1 c1
  have hf:∀x∈l.take (posA l a.1),klB x.1 a.1=true:=by
   intro x hx
   have e:l.take (posA l a.1)=l.takeWhile (zaZ a.1):=(List.prefix_iff_eq_take.1 (List.takeWhile_prefix _)).symm
   rw [e]at hx
   have:=List.all_takeWhile (l:=l) (p:=zaZ a.1)
   exact List.all_eq_true.1 this x hx
  have hs:=h.2.1
  have Aa:(l.take (posA l a.1)++l.drop (posA l a.1)).Pairwise (fun a b=>klB a.1 b.1=true):=by rw [List.take_append_drop];exact hs
  obtain⟨s1,s2,s3⟩:=List.pairwise_append.1 Aa
  refine⟨by have:=h.1;simp;omega,?_,fun x hx=> ?_⟩
  ·unfold SrtA
   rw [List.pairwise_append]
   refine⟨s1,List.pairwise_cons.2 ⟨fun x hx=>hb x hx,s2⟩,fun x hx y hy=> ?_⟩
   rcases List.mem_cons.1 hy with rfl | hy
   ·exact hf x hx
   ·exact s3 x hx y hy
  ·rcases List.mem_append.1 hx with hx | hx
   ·exact h.2.2 x (List.mem_of_mem_take hx)
   ·rcases List.mem_cons.1 hx with rfl | hx
    ·exact⟨(zbt _).1 c3,ha⟩
    ·exact h.2.2 x (List.mem_of_mem_drop hx)
theorem zwF:zaB []:=⟨by simp,fun i hi=>by simp at hi⟩
theorem zmc {l:Xc} (h1:l.length<=30) (h2:∀x∈l,32<=x∧x<=126):zaB l:=⟨h1,fun i hi=>by rw [show l.getD i 0=l[i] by simp [hi]];exact h2 _ (List.getElem_mem hi)⟩
theorem zrh {x:Int} (h:zcp x=true):32<=x∧x<=126:=by
 unfold zcp at h
 simpa using h
theorem zkw:∀(f k:Nat) (l:Xc),(valL f k l).length<=k∧∀x∈valL f k l,32<=x∧x<=126
 | 0,k,l=>⟨by simp [valL],fun x hx=>by simp [valL]at hx⟩
 | f+1,k,l=>by
  unfold valL
  by_cases h:l=[]∨k=0
  ·rw [if_pos h];exact⟨by simp,fun x hx=>by cases hx⟩
  ·rw [if_neg h]
   simp only
   by_cases hm:zcp (zao l).1=true
   ·rw [if_pos hm]
    obtain⟨h1,h2⟩:=zkw f (k-1) (l.drop (zao l).2)
    refine⟨?_,fun x hx=> ?_⟩
    ·have:k≠0:=fun e=>h (.inr e)
     simp;omega
    ·rcases List.mem_cons.1 hx with rfl | hx
     ·exact zrh hm
     ·exact h2 x hx
   ·rw [if_neg hm];exact zkw f k _
theorem zvg (l:Xc):zaB (zcA l).1.2:=by
 unfold zcA
 simp only
 split
 ·exact zmc (zkw _ 30 _).1 (zkw _ 30 _).2
 ·exact zwF
theorem ziC {s:RdS} (h:room s=true):s.parts+1<=120∧s.below.length+1≠20:=by
 unfold room at h
 simpa using h
theorem zwz {s t:RdS} {x:Int} (h:Stk (s.top::s.below) s.parts) (hs:putX s x=some t):Stk (t.top::t.below) t.parts:=by
 obtain⟨Da,Ha,top,below,p⟩:=s
 have h:Stk (top::below) p:=h
 unfold putX at hs
 simp only at hs
 split at hs
 ·rename_i hm
  have hm:=zrh hm
  split at hs
  ·rename_i u hu
   cases hs
   obtain⟨a,ha,Ca⟩:=Option.bind_eq_some_iff.1 hu
   have Ia:top.kids≠[]:=fun e=>by rw [e]at ha;cases ha
   have Aa:top.kids=top.kids.dropLast++[a]:=by
    obtain⟨ys,hy⟩:=List.getLast?_eq_some_iff.1 ha
    rw [hy,List.dropLast_concat]
   have hg:=h.good top (by simp)
   obtain⟨e1,e2,e3,e4⟩:=zne (hg.2.2.1 a (by rw [Aa];simp)) Ca
   subst e1
   obtain⟨kd,nm,tx,Ga,ks⟩:=top
   simp only at Aa
   generalize ks.dropLast=dl at Aa ⊢
   subst Aa
   have ht:zaB (u++[x]):=zmc (by have:=e2.1;simp;omega) (fun y hy=>by
    rcases List.mem_append.1 hy with hy | hy
    ·exact zlS e2 y hy
    ·rw [List.mem_singleton.1 hy];exact hm)
   obtain⟨h1,h2,h3,h4,h5,h6⟩:=h
   refine⟨fun o ho=> ?_,⟨fun k hk i hi=> ?_,h2.2⟩,?_,h4,h5,znN (b:=⟨kd,nm,tx,Ga,dl++[txtI u]⟩) rfl rfl h6⟩
   ·rcases List.mem_cons.1 ho with rfl | ho
    ·refine⟨hg.1,hg.2.1,fun k hk=> ?_,(zfh _ _).2 ⟨((zfh _ _).1 hg.2.2.2).1,fun a' Fa hc=>((zfh _ _).1 hg.2.2.2).2 a' Fa ⟨hc.1,rfl⟩⟩⟩
     rcases List.mem_append.1 hk with hk | hk
     ·exact hg.2.2.1 k (List.mem_append_left _ hk)
     ·rw [List.mem_singleton.1 hk];exact zqo ht (by simp)
    ·exact h1 o (by simp [ho])
   ·rcases List.mem_append.1 hk with hk | hk
    ·exact h2.1 k (List.mem_append_left _ hk) i hi
    ·rw [List.mem_singleton.1 hk]at hi
     have:=h2.1 (txtI u) (by simp) ⟨0,1,[],u,[]⟩ (by simp [txtI])
     have e:=List.mem_singleton.1 hi
     rw [e]
     exact this
   ·rw [h3]
    simp only [List.map_cons,List.sum_cons,zmr,List.map_append,txtI]
    rfl
  ·rename_i hu
   split at hs
   ·rename_i hr
    cases hs
    obtain⟨r1,r2⟩:=ziC hr
    have Ba:=h.len
    simp at Ba r2
    refine h.kid (k:=txtI [x]) (zqo (zmc (by simp) (fun y hy=>by rw [List.mem_singleton.1 hy];exact hm)) (by simp)) (fun a ha hc=> ?_) (fun i hi=> ?_) rfl r1
    ·rw [ha]at hu
     have hu:zau a=none:=hu
     have:=hc.1
     unfold ziW at this
     rw [hu]at this
     cases this
    ·rw [List.mem_singleton.1 hi]
     show below.length+1+0<=19
     omega
   ·cases hs
 ·cases hs;exact h
theorem zxC {s t:RdS} {nm:Xc} {ats:List AtV} (h:Stk (s.top::s.below) s.parts) (hn:zaw nm) (ha:zdK ats) (hs:putE s nm ats=some t):Stk (t.top::t.below) t.parts:=by
 obtain⟨Ba,Ca,top,below,p⟩:=s
 have h:Stk (top::below) p:=h
 unfold putE at hs
 simp only at hs
 split at hs
 ·rename_i hr
  obtain⟨r1,r2⟩:=ziC hr
  have Aa:=h.len
  simp at Aa r2
  have hh:zom (⟨0,nm,[],ats,[]⟩:OnD):=⟨rfl,hn,rfl,ha⟩
  split at hs
  ·cases hs
   obtain⟨n,u,e1,e2,_⟩:=zmf hh (fun _=>rfl) (fun _ hk=>by cases hk) trivial
   refine h.kid ⟨_,u,e1,e2⟩ (fun a _ hc=>by rw [znG _ rfl]at hc;cases hc.2) (fun i hi=> ?_) rfl r1
   have e:i=⟨0,0,nm,[],ats⟩:=List.mem_singleton.1 hi
   rw [e]
   show below.length+1+0<=19
   omega
  ·rename_i hv
   cases hs
   obtain⟨h1,h2,h3,h4,h5,h6⟩:=h
   refine⟨fun o ho=> ?_,⟨fun k hk=>(by cases hk),h2⟩,?_,r1,by simp;omega,by rw [List.getLast?_cons_cons];exact h6⟩
   ·rcases List.mem_cons.1 ho with rfl | ho
    ·exact⟨hh,by simpa [zok,zaL]using hv,fun _ hk=>(by cases hk),trivial⟩
    ·exact h1 o ho
   ·rw [List.map_cons,List.sum_cons,<-h3]
    show p+1=1+p
    omega
 ·cases hs
theorem zwP {s:RdS} {nm:Xc} (h:Stk (s.top::s.below) s.parts):Stk ((endE s nm).top::(endE s nm).below) (endE s nm).parts:=by
 unfold endE
 split
 ·exact Stk.closes _ h
 ·exact h
theorem zpq {s t:RdS} {e:Bool} {nm:Xc} {ats:List AtV} (h:Stk (s.top::s.below) s.parts) (ha:zdK ats) (hs:endT zaC s e nm ats=some t):Stk (t.top::t.below) t.parts:=by
 unfold endT at hs
 split at hs
 ·rename_i hn
  split at hs
  ·cases hs;exact zwP h
  ·exact zxC h ((zbt nm).1 hn) ha hs
 ·cases hs;exact h
theorem zro {s t:RdS} (h:InvS s) (hs:stp s=some t):InvS t:=by
 obtain⟨Aa,Ga,Ca,below,p⟩:=s
 obtain⟨h1,h2⟩:=h
 cases Ga with
 | some g=>
  obtain⟨e,nm,Fa⟩:=g
  have ha:=h2 e nm Fa rfl
  have hs:zcz zaI zaC ⟨Aa,some (e,nm,Fa),Ca,below,p⟩ e nm Fa=some t:=hs
  cases Aa with
  | nil=>
   have q:=zdp (s:=⟨[],none,Ca,below,p⟩) hs
   exact⟨zpq (s:=⟨[],none,Ca,below,p⟩) h1 ha hs,fun e' Da Ba e1=>by rw [q.2]at e1;cases e1⟩
  | cons x r=>
   unfold zcz at hs
   simp only at hs
   split at hs
   ·have q:=zdp (s:=⟨r,none,Ca,below,p⟩) hs
    exact⟨zpq (s:=⟨r,none,Ca,below,p⟩) h1 ha hs,fun e' Da Ba e1=>by rw [q.2]at e1;cases e1⟩
   ·split at hs
    ·cases hs
     exact⟨h1,fun e' Da Ba e1=>by cases e1;exact zyJ ha (zvg _)⟩
    ·cases hs
     exact⟨h1,fun e' Da Ba e1=>by cases e1;exact ha⟩
 | none=>
  have hs:(if tagB Aa=true then some (zdP ⟨Aa,none,Ca,below,p⟩) else putC ⟨Aa.drop (zao Aa).2,none,Ca,below,p⟩ (zao Aa).1)=some t:=hs
  split at hs
  ·cases hs
   exact⟨h1,fun e' Da Ba e1=>by cases e1;exact zrM⟩
  ·have q:=zhH hs
   exact⟨zwz (s:=⟨Aa.drop (zao Aa).2,none,Ca,below,p⟩) h1 hs,fun e' Da Ba e1=>by rw [q.2]at e1;cases e1⟩
theorem zpd:∀(k:Nat) {s t:RdS},InvS s->iter k s=some t->InvS t
 | 0,s,t,h,hs=>by cases hs;exact h
 | k+1,s,t,h,hs=>by
  unfold iter at hs
  obtain⟨u,h1,h2⟩:=Option.bind_eq_some_iff.1 hs
  exact zpd k (zro h h1) h2
theorem znM (l:Xc):InvS (zaV l):=by
 refine⟨⟨fun o ho=> ?_,⟨fun k hk=>(by cases hk),trivial⟩,rfl,by show 1<=120;decide,by simp [zaV],⟨_,rfl,rfl,rfl⟩⟩,fun e nm Aa h=>by cases h⟩
 rw [show o=⟨0,[98,111,100,121],[],[],[]⟩ from List.mem_singleton.1 ho]
 exact⟨⟨rfl,(zbt _).1 rfl,rfl,zrM⟩,rfl,fun _ hk=>(by cases hk),trivial⟩
theorem zhy:∀(bs:List OnD) (t:OnD),(zaQ bs.length t bs).2=[]
 | [],_=>rfl
 | b::bs,t=>zhy bs _
theorem zwm {l:Xc} {its:List Itm} (h:bldL zaI zaC l=some its):∃(n:Nat) (t:Tr (n+1)),encT (n+1) t=its∧zbc (n+1) t∧t.name=[98,111,100,121]∧t.attrs=[]∧its.length<=120∧∀i∈its,i.deep<=19:=by
 obtain⟨_,s,k,hk,rfl⟩:=zrI h
 have hI:=zpd k (znM l) hk
 have hc:=Stk.closes s.below.length hI.1
 rw [zhy]at hc
 generalize (zaQ s.below.length s.top s.below).1=o at hc
 have hg:=hc.good o (by simp)
 obtain⟨n,t,e1,e2,e3,e4⟩:=zmf hg.1 (fun e=>by rw [hg.2.1]at e;cases e) hg.2.2.1 hg.2.2.2
 obtain⟨z,z1,z2,z3⟩:=hc.root
 cases z1
 refine⟨n,t,e1,e2,e3.trans z2,e4.trans z3,?_,fun i hi=> ?_⟩
 ·have:=hc.sum
  have h2:=hc.le
  simp [lenO]at this
  omega
 ·rcases List.mem_cons.1 hi with rfl | hi
  ·show 0<=19
   decide
  ·obtain⟨m,hm,Aa⟩:=List.mem_flatten.1 hi
   obtain⟨q,hq,rfl⟩:=List.mem_map.1 hm
   obtain⟨j,hj,rfl⟩:=List.mem_map.1 Aa
   have:=hc.dp.1 q hq j hj
   simp [Itm.more]at this ⊢
   omega
end Go.Proofs.YtgjolijncmkkhaaGreatDoor
