/- Own texts joined: BigI, SetQ, SdM, SdB, SdI, OpsT, LesI, OpsM, PutV, L5fd, L5tk, L5ao, L5sa, L5do, L5sd, PlR, L5fo, OpsS, SFo, L5os, FoldM, PjM, PjK, PjS, FoY, BdO, BdL, LBuilds. -/
import Derived.Test.YtgjolijncmkkhaaGreatDoorJa
import Derived.Test.YtgjolijncmkkhaaGreatDoorJe
import Derived.Test.YtgjolijncmkkhaaGreatDoorJf
import Derived.Test.YtgjolijncmkkhaaGreatDoorJl
import Derived.Test.YtgjolijncmkkhaaGreatDoorJm
import Derived.Test.YtgjolijncmkkhaaGreatDoorJn
import Derived.Test.YtgjolijncmkkhaaGreatDoorJo
import Derived.Test.YtgjolijncmkkhaaGreatDoorJp
import Derived.Test.YtgjolijncmkkhaaGreatDoorJt
import Derived.Test.YtgjolijncmkkhaaGreatDoorJu
import Derived.Test.YtgjolijncmkkhaaGreatDoorJv
import Derived.Deep.RegionHeld3
import Derived.WalkLawsBesides
import Derived.Deep.QuietTactic
import Derived.BigQuiet
import Derived.Deep.AppendLies
import Derived.Deep.Cut
import Derived.Deep.CutRange
namespace Go.Proofs.YtgjolijncmkkhaaGreatDoor
open Go.RowKit
set_option linter.unusedVariables false
set_option maxRecDepth 100000
theorem zru (w:Xg) (code:Xh) (l:Xc) (h:Byt w code l) :
  Calls Tryz.prog 7 #[code] w fun e w'=>e=.returned (.bool (decide ((60000:Int)<(l.length:Int))))∧w'=w:=by
 obtain⟨a0,c0,rfl,_,_⟩:=h.shape
 clear h
 go_enter Tryz.func7,Tryz.ntmps7
 go_wp2_with fail
 go_ret
 exact⟨rfl,rfl⟩
theorem StB.one {w0 w:Xg} {sb b c:Nat} {l:List PlV} {F:Xd} (h:StB w0 w sb (some ⟨b,0,none⟩) c l F) {k:Nat} {p:PlV} (hk:l[k]? = some p) :
  ∃Cs C G,RowJ w 146 9 b l.length c Cs k C∧PlF w0 w C p G∧G.Nodup∧b∉G∧b<w.heap.size∧b≠sb∧
   ∀(w':Xg) (D:Xf) (p':PlV) (G':Xd),RowJ w' 146 9 b l.length c Cs k D->Frm w w' [b]->PlF w0 w' D p' G'->G'.Nodup->(∀q∈G',q∈G)->
    ∃F',StB w0 w' sb (some ⟨b,0,none⟩) c (l.set k p') F'∧∀q∈F',q∈F:=by
 obtain⟨h1,h2,h3,h4,h5,h6⟩:=h
 obtain⟨Fa,rfl⟩:=List.getElem?_eq_some_iff.1 hk
 obtain⟨Cs,C,G,hR,hP,Ma,Ka,Aa,Ja,La⟩:=h2.one h3 k Fa
 have Ca:=(h4 b Aa).2.1
 have Da:=(h4 b Aa).2.2
 refine⟨Cs,C,G,hR,hP,Ma,Ja,Ca,Da,fun w' D p' G' Ia f Ha Ga Ba=> ?_⟩
 obtain⟨F',g1,g2,g3⟩:=La w' D p' G' Ia f Ha Ga (fun q hq=>.inl (Ba q hq))
 have g4:∀q∈F',q∈F:=fun q hq=>(g3 q hq).elim id (fun h7=>Ka q (Ba q h7))
 have Na:=f.size
 refine⟨F',⟨?_,g1,g2,fun q hq=> ?_,h5,h6.trans (f.below h6.size (fun q hq=>by simp at hq;subst hq;exact (h4 q Aa).1))⟩,g4⟩
 ·rw [List.length_set]
  exact h1.frm f (by simp;omega)
 ·have:=h4 q (g4 q hq)
  exact⟨this.1,by omega,this.2.2⟩
theorem StB.text {w0 w:Xg} {sb b c:Nat} {l:List PlV} {F:Xd} (h:StB w0 w sb (some ⟨b,0,none⟩) c l F) {k:Nat} {p:PlV} (hk:l[k]? = some p) {v:Xh} {t:Xc} (hv:Byt w0 v t) :
  (∃F',StB w0 (w.setCell ⟨b,k*9+7,none⟩ v) sb (some ⟨b,0,none⟩) c (l.set k { p with text:=t }) F'∧∀q∈F',q∈F)∧Frm w (w.setCell ⟨b,k*9+7,none⟩ v) [b]:=by
 obtain⟨Cs,C,G,hR,hP,Ba,Ca,Da,Fa,Aa⟩:=h.one hk
 have f:=zdZ w b (k*9+7) v
 obtain⟨kv,n,t9,a,F1,F2,F3,eC,q1,q2,q3,q4,eG⟩:=hP.frm f (fun q hq e=>by simp at e;subst e;exact Ca hq)
 refine⟨Aa _ _ { p with text:=t } G (hR.put 7 (by decide) v) f ?_ Ba (fun q hq=>hq),f⟩
 subst eC
 exact⟨kv,n,v,a,F1,F2,F3,rfl,q1,q2,hv,q4,eG⟩
def SdR (w0 w:Xg) (sb:Nat) (F:Xd) (m:List PlV) (w':Xg):Prop:=∃a' c' F',StB w0 w' sb a' c' m F'∧Frm w w' (sb::F)∧∀q∈F',q∈F∨w.heap.size<=q
theorem Frm.moreS {a b c:Xg} {S S':Xd} (h:Frm a b S) (k:Frm b c S') (hs:∀q∈S',q∈S∨a.heap.size<=q):Frm a c S:=
 ⟨k.os.trans h.os,k.tape.trans h.tape,k.output.trans h.output,Nat.le_trans h.size k.size,fun i hi hn=>(k.block i (Nat.lt_of_lt_of_le hi h.size) (fun e=>(hs i e).elim hn (fun h'=>by omega))).trans (h.block i hi hn)⟩
theorem SdR.trans {w0 w w1 w2:Xg} {sb:Nat} {F F1:Xd} {m:List PlV} (f:Frm w w1 (sb::F)) (hF:∀q∈F1,q∈F∨w.heap.size<=q) (h:SdR w0 w1 sb F1 m w2):SdR w0 w sb F m w2:=by
 obtain⟨a',c',F',h1,h2,h3⟩:=h
 refine⟨a',c',F',h1,f.moreS h2 (fun q hq=> ?_),fun q hq=> ?_⟩
 ·rcases List.mem_cons.1 hq with rfl | hq
  ·exact .inl (List.mem_cons_self ..)
  ·exact (hF q hq).imp (fun h=>List.mem_cons_of_mem _ h) id
 ·rcases h3 q hq with h | h
  ·exact hF q h
  ·exact .inr (Nat.le_trans f.size h)
def zxF (w:Xg) (C:Xf) (o:OpV):Prop:=∃k n t,C=[.int .i64 o.kind,.int .i64 o.atN,.int .i64 o.atR,.int .i64 o.nodeN,.int .i64 o.nodeR,.int .i64 o.parN,.int .i64 o.parR,k,.int .i64 o.elem,n,t,.bool o.gone]∧Ints w k o.key∧Byt w n o.name∧Byt w t o.text
def RdOps (w:Xg) (v:Xh) (l:List OpV):Prop:=Elems w 12 v l (zxF w)
theorem Loc.two {w:Xg} {g:Nat} {v0 v1:Xh} {T:Xi} (h:Loc w g #[v0,v1] T):w.cell? ⟨g,0,none⟩=some v0∧w.cell? ⟨g,1,none⟩=some v1:=⟨h.cell 0,h.cell 1⟩
theorem RdOps.cases {w:Xg} {v:Xh} {l:List OpV} (h:RdOps w v l):(l=[]∧∃a cap,v=.slice a 0 cap)∨(∃b off cap,v=.slice (some ⟨b,off,none⟩) l.length cap∧l≠[]∧b<w.heap.size∧∀i (hi:i<l.length),∃C:Xf,C.length=12∧(∀j,j<12->w.cell? ⟨b,off+i*12+j,none⟩=C[j]?)∧zxF w C l[i]):=by
 obtain⟨_,⟨rfl,rfl⟩ | ⟨x,cap,rfl,hc,rfl⟩ | ⟨b,off,cap,rfl,g1,g2,g3,g4,g5⟩⟩:=h
 ·exact .inl ⟨rfl,_,_,rfl⟩
 ·exact .inl ⟨rfl,_,_,rfl⟩
 ·exact .inr ⟨b,off,cap,rfl,g3,g4,g5⟩
theorem AttrsF.at {w0 w:Xg} {v:Xh} {l:List (Xc×Xc)} {F:Xd} (h:AttrsF w0 w v l F) (hb:Below w0.heap.size w0 w) {i:Nat} (hi:i<l.length) :
  ∃b off cap y1 d1 y2 d2,v=.slice (some ⟨b,off,none⟩) l.length cap∧b<w.heap.size∧w.cell? ⟨b,off+i*2,none⟩=some (.slice y1 l[i].1.length d1)∧w.cell? ⟨b,off+i*2+1,none⟩=some (.slice y2 l[i].2.length d2)∧Byt w0 (.slice y1 l[i].1.length d1) l[i].1∧Byt w0 (.slice y2 l[i].2.length d2) l[i].2:=by
 rcases h with ⟨h,_⟩ | ⟨Cs,Fs,e1,e2,e3,e4,_⟩
 ·obtain⟨hm,⟨_,e⟩ | ⟨_,_,_,_,e⟩ | ⟨pb,Ba,cap,rfl,_,_,_,Ca,Da⟩⟩:=h
  ·subst e;simp at hi
  ·subst e;simp at hi
  obtain⟨C,hC,Aa,y1,y2,rfl,h1,h2⟩:=Da i hi
  obtain⟨a1,c1,rfl,_,_⟩:=h1.shape
  obtain⟨a2,c2,rfl,_,_⟩:=h2.shape
  have q0:=Aa 0 (by omega)
  have q1:=Aa 1 (by omega)
  exact⟨pb,Ba,cap,a1,c1,a2,c2,rfl,Nat.lt_of_lt_of_le Ca hb.size,(hb.cell (p:=⟨pb,Ba+i*2,none⟩) Ca).trans q0,(hb.cell (p:=⟨pb,Ba+i*2+1,none⟩) Ca).trans q1,h1,h2⟩
 ·rcases e4.2 with ⟨_,e0⟩ | ⟨g,cap,Fa,rfl,_,hg,_⟩
  ·omega
  obtain⟨_,y1,y2,eC,h1,h2,_⟩:=e3 i hi
  have Aa:=fun x (hx:x<2)=>zeK e4 (fun i hi=>(e3 i (by omega)).1) e1 i x hi hx
  rw [eC]at Aa
  obtain⟨a1,c1,rfl,_,_⟩:=h1.shape
  obtain⟨a2,c2,rfl,_,_⟩:=h2.shape
  exact⟨g,0,cap,a1,c1,a2,c2,rfl,(Array.getElem?_eq_some_iff.1 hg).1,by rw [Nat.zero_add];exact Aa 0 (by decide),by rw [Nat.zero_add];exact Aa 1 (by decide),h1,h2⟩
def DoR (w0 w:Xg) (sb:Nat) (F:Xd) (m:List PlV) (w':Xg):Prop:=∃a' c' F',StB w0 w' sb a' c' m F'∧Frm w w' (sb::F)∧∀q∈F',q∈F∨w.heap.size<=q
theorem DoR.of {w0 w w':Xg} {sb:Nat} {a:Xe} {c:Nat} {l m:List PlV} {F F':Xd} (h:StB w0 w' sb a c l F') (e:m=l) (f:Frm w w' (sb::F)) (hF:∀q∈F',q∈F∨w.heap.size<=q):DoR w0 w sb F m w':=⟨a,c,F',e ▸ h,f,hF⟩
def PlsR (w:Xg) (v:Xh) (l:List PlV) (F:Xd):Prop:=OwElems w 146 9 v l (fun C p G=>zon w C p∧G=[]) F
theorem PlsR.of {w:Xg} {v:Xh} {l:List PlV} {F:Xd} {R:Xf->PlV->Xd->Prop} (h:OwElems w 146 9 v l R F) (hR:∀C x G,R C x G->zon w C x):PlsR w v l (FB v):=by
 obtain⟨Cs,Fs,h1,h2,h3,h4,h5⟩:=h
 refine⟨Cs,List.replicate l.length [],h1,by simp,fun i hi=>⟨(h3 i hi).1,hR _ _ _ (h3 i hi).2,by simp [hi]⟩,h4,?_⟩
 simp
def GdA (x:AtV):Prop:=x.1.length<=100∧x.2.length<=100
def Gd (p:PlV):Prop:=p.key.length<=100∧p.name.length<=100∧p.text.length<=100∧SrtA p.attrs∧p.attrs.length<=4∧∀x∈p.attrs,GdA x
theorem zpm {l:Xc} (h:zaw l):okB l:=fun x hx=>by
 obtain⟨i,hi,rfl⟩:=List.getElem_of_mem hx
 have h1:=h.2.2 i hi
 rw [zcP hi]at h1
 unfold zez at h1
 omega
structure Alg (l:List PlV) (done:List OpV):Prop where
 fr:Fr l
 gd:∀p∈l,Gd p
 kd:Kd2 l
 ids:∀p∈l,p.idN=0∨∃o∈done,p.id=o.at'
 len:l.length<=121+done.length
theorem Alg.at {l:List PlV} {done:List OpV} (h:Alg l done):AtI l:=fun p hp=>⟨(h.gd p hp).2.2.2.1,(h.gd p hp).2.2.2.2.1⟩
end Go.Proofs.YtgjolijncmkkhaaGreatDoor
namespace Go.Proofs.YtgjolijncmkkhaaGreatDoor
set_option linter.unusedVariables false
end Go.Proofs.YtgjolijncmkkhaaGreatDoor
namespace Go.Proofs.YtgjolijncmkkhaaGreatDoor
open Go.RowKit
set_option linter.unusedVariables false
set_option maxRecDepth 100000
theorem zwq {l:List AtV} (hl:l.length<=4) (hg:∀x∈l,zaw x.1∧zaB x.2) (hs:SrtA l):zbf l:=by
 refine⟨hl,fun i hi=> ?_⟩
 unfold zfB
 have e:l.getD i ([],[])=l[i]:=by simp [hi]
 rw [e]
 have h1:=hg l[i] (List.getElem_mem _)
 refine⟨h1.1,h1.2,fun h0=> ?_⟩
 have Aa:i-1<l.length:=by omega
 have e2:l.getD (i-1) ([],[])=l[i-1]:=by simp [Aa]
 rw [e2]
 have h2:=hg l[i-1] (List.getElem_mem _)
 have h3:=(List.pairwise_iff_getElem.1 hs) (i-1) i Aa hi (by omega)
 have h4:ziU l[i-1].1 l[i].1=klB l[i-1].1 l[i].1:=zpD (zpm h2.1) (zpm h1.1)
 rw [h4]
 exact h3
theorem ztn {n:Nat} {t:Tr (n+1)} (h:zbc (n+1) t):(t.kind=1∧zbM t=true∧t.kids=[])∨(t.kind=0∧zbQ t=true):=by
 rcases h with ⟨q1,q2,q3,q4,q5,q6⟩ | ⟨⟨q1,q2,q3,q4⟩,q5,q6,q7⟩
 ·exact .inl ⟨q1,(zgb t).2 ⟨by rw [q2];rfl,by rw [q3];rfl,by rw [q4];rfl,q5⟩,q4⟩
 ·refine .inr ⟨q1,(zfI t).2 ⟨q1,q2,by rw [q3];rfl,zwq q4.1 q4.2.2 q4.2.1,fun hc=> ?_⟩⟩
  have:=q5 ((zcF _).2 hc.1)
  have h2:=hc.2
  rw [this]at h2
  simp at h2
theorem zox:∀(n:Nat) (deep:Int) (t:Tr n) (left:Int),zbc n t->(∀i∈encT n t,deep+i.deep<=20)->((encT n t).length:Int)<=left->okT n deep t left=(true,left-(encT n t).length)
 | 0,_,t,_,_,_,_=>t.elim
 | n+1,deep,t,left,h,hd,hl=>by
  have h0:=hd ⟨0,t.kind,t.name,t.text,t.attrs⟩ (by rw [zaW];unfold zas;simp)
  rw [zeX]at hl
  simp only [Int.natCast_add,Int.cast_ofNat_Int]at hl h0
  rw [zor,if_neg (by omega),zeX]
  rcases ztn h with ⟨q1,q2,q3⟩ | ⟨q1,q2⟩
  ·rw [if_pos q1,q2,q3]
   simp [szE]
  ·rw [if_neg (by rw [q1];decide),if_pos q2]
   have hg:∀k∈t.kids,zbc n k:=by
    rcases h with ⟨q,_⟩ | ⟨_,_,_,q7⟩
    ·rw [q1]at q;cases q
    ·exact q7
   have Aa:∀(ks:List (Tr n)) (l:Int),(∀k∈ks,k∈t.kids)->(szE n ks:Int)<=l->okK (okT n (deep+1)) ks l=(true,l-szE n ks):=by
    intro ks
    induction ks with
    | nil=>intro l _ _;simp [okK,szE]
    | cons k ks ih=>
     intro l hk hs
     have e:szE n (k::ks)=(encT n k).length+szE n ks:=rfl
     rw [e]at hs
     have Ba:=zox n (deep+1) k l (hg k (hk k (by simp))) (fun i hi=>by
      have:=hd i.more (by
       rw [zaW]
       unfold zas
       exact List.mem_cons_of_mem _ (List.mem_flatten.2 ⟨(encT n k).map Itm.more,List.mem_map.2 ⟨encT n k,List.mem_map.2 ⟨k,hk k (by simp),rfl⟩,rfl⟩,List.mem_map.2 ⟨i,hi,rfl⟩⟩))
      simp [Itm.more]at this
      omega) (by omega)
     rw [okK,Ba,if_pos rfl,ih _ (fun x hx=>hk x (by simp [hx])) (by simp;omega),e]
     simp
     omega
   rw [Aa t.kids (left-1) (fun _ h=>h) (by omega)]
   simp
   omega
theorem zoD {n:Nat} {t:Tr (n+1)} (h:zbc (n+1) t) (h0:t.kind=0) (hs:(encT (n+1) t).length<=120) (hd:∀i∈encT (n+1) t,i.deep<=19):okN n t=true:=by
 unfold okN
 rw [decide_eq_true h0,zox (n+1) 1 t 120 h (fun i hi=>by have:=hd i hi;omega) (by omega)]
 rfl
theorem zot:∀(n:Nat) (d:Int) (t:Tr n),hp n d t=(encT n t).map fun i=>(d+i.deep,i.kind,i.name,i.text,i.attrs)
 | 0,_,t=>t.elim
 | n+1,d,t=>by
  rw [zbK,zaW]
  unfold zas
  rw [List.map_cons,List.map_flatten,List.map_map,List.map_map]
  simp only [Int.cast_ofNat_Int,Int.add_zero]
  congr 2
  refine List.map_congr_left fun k hk=> ?_
  rw [zot n (d+1) k]
  simp only [Function.comp_def,List.map_map,Itm.more]
  refine List.map_congr_left fun i hi=> ?_
  simp
  omega
theorem zme {n:Nat} {t u:Tr n} (h:encT n t=encT n u):t=u:=zoI n 0 t u (by rw [zot,zot,h])
theorem zsI {n N:Nat} {w:Xg} {C:Xf} {t:Tr n} (h:RdNode n w C t) (hN:n<=N):∃t':Tr N,RdNode N w C t'∧encT N t'=encT n t:=by
 induction N with
 | zero=>
  have:n=0:=by omega
  subst this
  exact⟨t,h,rfl⟩
 | succ N ih=>
  by_cases e:n=N+1
  ·subst e;exact⟨t,h,rfl⟩
  ·obtain⟨t',h1,h2⟩:=ih (by omega)
   exact⟨upT N t',zxL h1,(zid N t').trans h2⟩
theorem zlZ:∀(n:Nat) (t:Tr n),zbc n t->szT n t+1<=300*(encT n t).length
 | 0,t,_=>t.elim
 | n+1,t,h=>by
  rw [zeX]
  have Ba:(∀k∈t.kids,zbc n k)->t.kids.length+(t.kids.map (szT n)).sum<=300*szE n t.kids:=by
   intro hg
   generalize t.kids=ks at hg
   induction ks with
   | nil=>simp [szE]
   | cons k ks ih=>
    have h1:=zlZ n k (hg k (by simp))
    have h2:=ih (fun x hx=>hg x (by simp [hx]))
    have e:szE n (k::ks)=(encT n k).length+szE n ks:=rfl
    rw [e]
    simp
    omega
  show t.name.length+t.text.length+szA t.attrs+(t.kids.length+(t.kids.map (szT n)).sum)+1<=_
  rcases h with ⟨q1,q2,q3,q4,q5,q6⟩ | ⟨⟨q1,q2,q3,q4⟩,q5,q6,q7⟩
  ·rw [q2,q3,q4]
   have:=q5.1
   simp [szA]
   omega
  ·have h1:=Ba q7
   have h2:=q2.2.1
   have h3:szA t.attrs<=4+4*38:=by
    have Aa:∀l:List AtV,(∀x∈l,zaw x.1∧zaB x.2)->szA l<=39*l.length:=by
     intro l
     induction l with
     | nil=>intro _;simp [szA]
     | cons x l ih=>
      intro hx
      have a1:=ih (fun y hy=>hx y (by simp [hy]))
      have a2:=hx x (by simp)
      have a3:=a2.1.2.1
      have a4:=a2.2.1
      unfold szA at a1 ⊢
      simp
      omega
    have:=Aa t.attrs q4.2.2
    have:=q4.1
    omega
   rw [q3]
   simp
   omega
theorem zAn {n m:Nat} {w:Xg} {C:Xf} {t:Tr n} {u:Tr (m+1)} (h:RdNode n w C t) (he:encT n t=encT (m+1) u) (hg:zbc (m+1) u):∃(N:Nat) (v:Tr (N+1)),RdNode (N+1) w C v∧zbc (N+1) v∧encT (N+1) v=encT n t:=by
 obtain⟨t',h1,h2⟩:=zsI (N:=max n m+1) h (by omega)
 obtain⟨u',g1,g2⟩:=ziz (N:=max n m+1) hg (by omega)
 have e:t'=u':=zme (by rw [h2,g1,he])
 exact⟨max n m,t',h1,by rw [e];exact g2,h2⟩
theorem zmZ {n:Nat} {t:Tr (n+1)} (h0:t.kind=0) (hn:t.name=[98,111,100,121]) (ha:t.attrs=[]):mkup (n+1) t=[60,98,111,100,121,62]++((t.kids.map (mkup n)).flatten++[60,47,98,111,100,121,62]):=by
 rw [zdn,if_neg (by rw [h0];decide),hn,ha,if_neg (by decide)]
 simp [zal]
theorem ztq {n:Nat} {t:Tr (n+1)} (h0:t.kind=0) (hn:t.name=[98,111,100,121]) (ha:t.attrs=[]):(mkup (n+1) t).length=(t.kids.map (mkup n)).flatten.length+13∧((mkup (n+1) t).drop 6).take ((mkup (n+1) t).length-13)=(t.kids.map (mkup n)).flatten:=by
 rw [zmZ h0 hn ha]
 generalize (t.kids.map (mkup n)).flatten=f
 refine⟨by simp,?_⟩
 have e:([60,98,111,100,121,62]++(f++[60,47,98,111,100,121,62]):Xc).length-13=f.length:=by simp
 rw [e]
 rw [List.drop_append_of_le_length (by simp)]
 simp
theorem zue {n:Nat} {t:Tr (n+1)} (hg:zbc (n+1) t) (hn:t.name=[98,111,100,121]):t.kind=0:=by
 rcases hg with ⟨_,q2,_⟩ | ⟨⟨q1,_⟩,_⟩
 ·rw [hn]at q2;cases q2
 ·exact q1
theorem zur {n:Nat} {t:Tr (n+1)} (h:okN n t=true):zel n t t=true:=by
 unfold zel
 rw [h,zsa rfl]
 rfl
theorem zpj {n m:Nat} {t:Tr (n+1)} {u:Tr (m+1)} (h:encT (n+1) t=encT (m+1) u):t.kind=u.kind∧t.name=u.name∧t.attrs=u.attrs:=by
 rw [zaW,zaW]at h
 unfold zas at h
 injection h with h _
 simp only [Itm.mk.injEq]at h
 exact⟨h.2.1,h.2.2.1,h.2.2.2.2⟩
theorem zkm {l:Xc} {its:List Itm} {w:Xg} {C:Xf} {F:Xd} (hb:bldL zaI zaC l=some its) (hX:OwX w C its F) :
  ∃(N:Nat) (u:Tr (N+1)),RdNode (N+1) w C u∧encT (N+1) u=its∧zbc (N+1) u∧u.kind=0∧u.name=[98,111,100,121]∧u.attrs=[]∧okN N u=true∧szT (N+1) u<=36000∧its.length<=120∧∀i∈its,i.deep<=19:=by
 obtain⟨n,t,e1,hg,hn,ha,Aa,hd⟩:=zwm hb
 obtain⟨n',t',ho,e2⟩:=hX
 obtain⟨N,u,hr,hu,eu⟩:=zAn ho.rd (e2.trans e1.symm) hg
 have eu:=eu.trans e2
 obtain⟨q1,q2,q3⟩:=zpj (eu.trans e1.symm)
 have Ba:=q2.trans hn
 have h0:=zue hu Ba
 have Ca:=zlZ (N+1) u hu
 rw [eu]at Ca
 exact⟨N,u,hr,eu,hu,h0,Ba,q3.trans ha,zoD hu h0 (by rw [eu];exact Aa) (by rw [eu];exact hd),by omega,Aa,hd⟩
theorem ztL {l:Xc} {its:List Itm} {w:Xg} {C:Xf} {F:Xd} (hb:bldL zaI zaC l=some its) (hX:OwX w C its F) :
  ∃(N:Nat) (u:Tr (N+1)),RdNode (N+1) w C u∧encT (N+1) u=its∧zbc (N+1) u∧u.kind=0∧u.name=[98,111,100,121]∧u.attrs=[]∧okN N u=true∧szT (N+1) u<=36000∧its.length<=120∧(∀i∈its,i.deep<=19)∧(((u.kids.map (mkup N)).flatten).length<=1500->bldL zaI zaC (u.kids.map (mkup N)).flatten=some its):=by
 obtain⟨N,u,h1,h2,h3,h4,h5,h6,h7,h8,h9,Aa⟩:=zkm hb hX
 refine⟨N,u,h1,h2,h3,h4,h5,h6,h7,h8,h9,Aa,fun hl=> ?_⟩
 rw [<-h2]
 exact zvR h3 h5 h6 (by rw [h2];exact h9) (by rw [h2];exact Aa) hl
theorem zup {N M:Nat} {w:Xg} {C D:Xf} {u:Tr (N+1)} {v:Tr (M+1)} {its:List Itm} (h:RdNode (N+1) w C u) (k:RdNode (M+1) w D v) (hu:encT (N+1) u=its) (hv:encT (M+1) v=its) (hg:zbc (N+1) u) (h0:u.kind=0) (hl:its.length<=120) (hd:∀i∈its,i.deep<=19) :
  ∃(K:Nat) (x:Tr (K+1)),RdNode (K+1) w C x∧RdNode (K+1) w D x∧szT (K+1) x<=36000∧zel K x x=true:=by
 obtain⟨x,h1,h2⟩:=zsI (N:=max N M+1) h (by omega)
 obtain⟨y,k1,k2⟩:=zsI (N:=max N M+1) k (by omega)
 obtain⟨z,g1,g2⟩:=ziz (N:=max N M+1) hg (by omega)
 have e:x=y:=zme (by rw [h2,k2,hu,hv])
 have e':x=z:=zme (by rw [h2,g1])
 subst e
 subst e'
 have hs:=zlZ _ x g2
 rw [h2,hu]at hs
 have hx:encT (max N M+1) x=its:=h2.trans hu
 exact⟨max N M,x,h1,k1,by omega,zur (zoD g2 ((zpj h2).1.trans h0) (by rw [hx];exact hl) (by rw [hx];exact hd))⟩
theorem zzc {w:Xg} {b off cap:Nat} {l p f q:Xc} (h:Byt w (.slice (some ⟨b,off,none⟩) l.length cap) l) (e:l=p++(f++q)) (hp:p≠[]):Byt w (.slice (some ⟨b,off+p.length,none⟩) f.length (cap-p.length)) f:=by
 have h0:l≠[]:=by rw [e];simp [hp]
 obtain⟨r1,r2,r3,r4⟩:=h.row h0
 have hl:l.length=p.length+(f.length+q.length):=by rw [e];simp
 refine⟨fun x hx=>h.1 x (by rw [e];simp [hx]),by have:=h.2.1;omega,?_⟩
 by_cases hf:f=[]
 ·subst hf
  exact .inr (.inl ⟨_,_,rfl,by omega,rfl⟩)
 ·refine .inr (.inr ⟨b,off+p.length,_,rfl,by omega,by omega,hf,r3,fun i hi=> ?_⟩)
  rw [Nat.add_assoc,r4 (p.length+i) (by omega),e]
  simp only [List.getD_eq_getElem?_getD]
  rw [List.getElem?_append_right (by omega),Nat.add_sub_cancel_left,List.getElem?_append_left hi]
def LawT (w:Xg) (e:Ending) (w':Xg):Prop:=e=.returned (.bool true)∧Below w.heap.size w w'
set_option maxHeartbeats 6400000 in
theorem zsv (w:Xg) (code:Xh) (l:Xc) (h:Byt w code l) (hl:(60000:Int)<(l.length:Int)):Calls Tryz.prog 3 #[code] w fun e w'=>LawT w e w':=by
 have hb:=zru w code l h
 rw [decide_eq_true hl]at hb
 have HB:=hide hb
 have H0:=hide (Below.refl w.heap.size w)
 obtain⟨a0,c0,rfl,_,_⟩:=h.shape
 clear h hb hl
 go_enter Tryz.func3,Tryz.ntmps3
 go_wp2_with fail
 refine (zaa HB).mono ?_
 rintro e w1 ⟨rfl,rfl⟩
 go_wp2_with fail
 refine (zaa HB).mono ?_
 rintro e w2 ⟨rfl,rfl⟩
 go_wp2_with fail
 go_ret
 exact⟨rfl,zaa H0⟩
set_option maxHeartbeats 6400000 in
theorem zpJ (hal:∀w,Glo w->Calls Tryz.prog 8 #[] w fun e w'=>e=.returned (.bool true)∧Below w.heap.size w w') (w:Xg) (code:Xh) (l:Xc) (h:Byt w code l) (hG:Glo w) (hl:¬ (60000:Int)<(l.length:Int)):Calls Tryz.prog 3 #[code] w fun e w'=>LawT w e w':=by
 have hb:=zru w code l h
 rw [decide_eq_false hl]at hb
 have HB:=hide hb
 have HA:=hide (hal w hG)
 have HD:=hide (fun W (hW:Below w.heap.size w W)=>znU W code l (h.keep hW))
 obtain⟨a0,c0,rfl,_,_⟩:=h.shape
 clear h hb hl hG hal
 go_enter Tryz.func3,Tryz.ntmps3
 go_wp2_with fail
 refine (zaa HB).mono ?_
 rintro e w1 ⟨rfl,rfl⟩
 go_wp2_with fail
 refine (zaa HA).mono ?_
 rintro e w2 ⟨rfl,ca⟩
 have ja:=hide (zaa HD _ ca)
 have HX:=hide ca
 clear HA HB HD ca
 go_wp2_with fail
 refine (zaa ja).mono ?_
 rintro e w3 ⟨v,m,rfl,hm,pa⟩
 obtain⟨a1,c1,rfl,_,_⟩:=hm.shape
 have Qa:=zar (zaa HX) pa
 have HC:=hide (zmN w3 a1 c1 m hm)
 have HX:=hide Qa
 clear ja hm pa Qa
 go_wp2_with fail
 refine (zaa HC).mono ?_
 intro e w4 h4
 clear HC
 unfold zlI at h4
 cases hz:bldL zaI zaC m with
 | none=>
  rw [hz]at h4
  obtain⟨rfl,Ra⟩:=h4
  have Aa:=zar (zaa HX) Ra
  have HX:=hide (zar Aa ((Below.refl _ _).alloc (Nat.le_refl _) (.cells zN 29)))
  clear Ra Aa hz
  go_wp2_with fail
  go_ret
  exact⟨rfl,zaa HX⟩
 | some its=>
  rw [hz]at h4
  obtain⟨k,b1,b2,b3,b4,F,rfl,hX,-,-,Ra⟩:=h4
  obtain⟨N,u,hr,eu,hg,h0,hn,ha,La,Wa,Ua,Va,Ba⟩:=ztL hz hX
  have HH:=hide (And.intro Ua (And.intro Va (And.intro eu (And.intro hg (And.intro h0 Ba)))))
  have Aa:=zar (zaa HX) Ra
  obtain⟨_,ab,nb,cb,ac,nc,cc,ad,nd,cd,ae,ne,ce,-,rfl,rfl,rfl,rfl⟩:=ziG hr
  have hA:=(Below.refl w4.heap.size w4).alloc (Nat.le_refl _) (.cells #[.int .i64 k,.slice ab nb cb,.slice ac nc cc,.slice ad nd cd,.slice ae ne ce] 29)
  have lb:=Loc.made w4 #[.int .i64 k,.slice ab nb cb,.slice ac nc cc,.slice ad nd cd,.slice ae ne ce] 29
  obtain⟨y0,y1,y2,y3,y4⟩:=zcB lb
  have HM:=hide (zti N _ _ _ _ _ _ u (hr.keep hA) (by omega))
  have ya:=hide (And.intro Aa (And.intro hA (And.intro lb hr)))
  have HF:=hide (And.intro eu (And.intro hg (And.intro h0 (And.intro hn (And.intro ha (And.intro La (And.intro Wa Ba)))))))
  clear HX Ra Aa hA lb hr eu hg h0 hn ha La Wa Ba hX hz Ua Va
  go_wp2_with fail
  refine (zaa HM).mono ?_
  rintro e w5 ⟨v,rfl,ho,ea⟩
  obtain⟨Aa,hA,lb,hr⟩:=zaa ya
  have La:=(zaa HF).2.2.2.2.2.1
  have Sa:=zmZ (zaa HF).2.2.1 (zaa HF).2.2.2.1 (zaa HF).2.2.2.2.1
  replace ho:=ho.byt
  unfold zjF at ho
  rw [if_pos La]at ho
  have Fa:=(ztq (zaa HF).2.2.1 (zaa HF).2.2.2.1 (zaa HF).2.2.2.2.1).1
  have Wa:=(zaa HF).2.2.2.2.2.2.1
  have hn:=(zaa HF).2.2.2.1
  obtain⟨av,cv,rfl,_,_⟩:=ho.shape
  obtain⟨bm,om,rfl⟩:=ho.some' (fun e=>by rw [e]at Fa;simp at Fa)
  have Pa:=zar hA ea
  have Oa:=hr.keep Pa
  have Ka:=lb.all ea
  obtain⟨z0,z1,z2,z3,z4⟩:=zcB Ka
  have HN:=zey N w5 _ _ _ _ _ u Oa (by omega)
  rw [La]at HN
  have Hb:=hide HN
  clear HN
  have HN:=Hb
  clear Hb
  have Lb:¬ ((mkup (N+1) u).length:Int)<13:=by omega
  have HY:=hide (And.intro Aa (And.intro Pa (And.intro Ka (And.intro Oa (And.intro ho (And.intro Fa Sa))))))
  have sa:=hide hn
  clear HM ya ea Aa hA lb hr La ho Fa Sa Wa hn Pa Oa Ka y0 y1 y2 y3 y4
  go_wp2_with fail
  refine (zaa HN).mono ?_
  rintro e w6 ⟨rfl,Na⟩
  obtain⟨Aa,Pa,Ka,Oa,ho,Fa,Sa⟩:=zaa HY
  have hn:=zaa sa
  have Ma:=Oa.keep Na
  obtain⟨x0,x1,x2,x3,x4⟩:=zcB (Ka.all Na)
  obtain⟨_,_,_,_,e9,_,_,ga,_⟩:=id Ma
  simp only [List.cons.injEq,and_true]at e9
  obtain⟨_,rfl,-,-,-⟩:=e9
  rw [hn]at ga
  have ta:=zbn w6 _ _ ga
  rw [show str [98,111,100,121]={ data:= #[98,111,100,121] } from rfl]at ta
  have Ca:=zar Pa Na
  have HZ:=hide (And.intro Aa (And.intro Ca (And.intro Ma (And.intro (ho.keep Na) (And.intro Fa (And.intro Sa (Ka.all Na)))))))
  clear HN HY sa Na Aa Pa Ka Oa ho Fa Sa hn Ma ga Ca z0 z1 z2 z3 z4
  have Da:=((zaa HZ).2.2.2.1.row (fun e=>by have:=(zaa HZ).2.2.2.2.1;rw [e]at this;simp at this))
  obtain⟨Da,Ja,-⟩:=Da
  have Fa:=(zaa HZ).2.2.2.2.1
  generalize hK:(mkup (N+1) u).length=K at *
  have g0:wrap64 ((K:Int)-7)=(K:Int)-7:=by unfold wrap64;unfold maxLen at Ja;omega
  have g1:(6:Int)<=(K:Int)-7:=by omega
  have g4:max ((K:Int)-7) 0=(K:Int)-7:=by omega
  have g5:(0:Int)<=(K:Int)-7:=by omega
  have g2:(K:Int)-7<=(cv:Int):=by omega
  have g3:((K:Int)-7).toNat=K-7:=by omega
  have HK:=hide (And.intro hK Fa)
  clear hK Fa Da Ja
  generalize hfl:(u.kids.map (mkup N)).flatten=flat at *
  clear hfl
  go_wp2_with (at_builtin;refine zbP rfl _ _ rfl w6.heap.size _ [] rfl (zdl w6) _ flat rfl ?hb ?c1 ?c2 ?_)
  case hb=>
   have hm:=(zaa HZ).2.2.2.1
   rw [<-(zaa HK).1]at hm
   have hb:=(zzc hm (zaa HZ).2.2.2.2.2.1 (by simp)).keep ((Below.refl _ _).alloc (Nat.le_refl _) (.cells #[] 5))
   have e1:flat.length=K-7-6:=by have:=(zaa HK).2;omega
   rw [e1]at hb
   simpa [Act.eval,g3]using hb
  case c1=>rw [List.length_nil,Nat.zero_add];have:=(zaa HK).2;have:=zjK (N+1) u;have:=(zaa HF).2.2.2.2.2.2.1;have:=(zaa HK).1;omega
  case c2=>simp
  all_goals
   intro v' w7 hO wa
   obtain⟨Aa,Ca,Ma,-,-,-,Eb⟩:=zaa HZ
   have qa:=(Below.refl w6.heap.size w6).alloc (Nat.le_refl _) (.cells #[] 5)
   have Ga:=zbo qa wa (fun q hq=>by simp [Value.ownBlock]at hq;omega)
   have Ya:=hide (And.intro Aa (And.intro Ca (And.intro (Ma.keep Ga) (And.intro Ga (Eb.all Ga)))))
   have ba:=hO.byt
   obtain⟨a7,c7,rfl,_,_⟩:=ba.shape
   have ka:=hide (zmN w7 a7 c7 _ ba)
   clear Aa Ca Ma Eb qa Ga hO wa ba HZ HK g0 g1 g2 g3 g4 g5 x0 x1 x2 x3 x4 Lb ta
   generalize hfn:flat.length=nf at *
   go_wp2_with fail
   refine (zaa ka).mono ?_
   intro e w8 h8
   clear ka
   unfold zlI at h8
   cases hz2:bldL zaI zaC flat with
   | none=>
    rw [hz2]at h8
    obtain⟨rfl,Ta⟩:=h8
    have va:(1500:Int)<(nf:Int):=by
     rcases Nat.lt_or_ge 1500 nf with h | h
     ·omega
     ·have:=(zaa HH).2.2.2.2.2 (by omega)
      rw [hz2]at this
      cases this
    obtain⟨Aa,Ca,Xa,Ga,Za⟩:=zaa Ya
    have HE:=hide (zar (zar (zar Aa Ca) Ga) (zar Ta ((Below.refl _ _).alloc (Nat.le_refl _) (.cells zN 29))))
    clear Ya Aa Ca Xa Ga Za Ta hz2 HH HF
    go_wp2_with fail
    go_ret
    exact⟨rfl,zaa HE⟩
   | some its2=>
    rw [hz2]at h8
    obtain⟨k',Ob,Mb,Pb,Nb,F',rfl,za,-,-,Ta⟩:=h8
    have da:¬ (1500:Int)<(nf:Int):=by
     have:=(zrI hz2).1
     omega
    obtain⟨Aa,Ca,Xa,Ga,Za⟩:=zaa Ya
    obtain⟨Ua,Va,eu,hg,h0,Ba⟩:=zaa HH
    have e2:its2=its:=by have:=Ba (by omega);rw [hz2]at this;exact Option.some.inj this
    subst e2
    obtain⟨N2,u2,aa,ua,Bb,ma,-⟩:=zkm hz2 za
    obtain⟨_,la,Ab,oa,na,ra,xa,Db,Cb,ia,Gb,Jb,Fb,-,rfl,rfl,rfl,rfl⟩:=ziG aa
    have fa:=(Below.refl w8.heap.size w8).alloc (Nat.le_refl _) (.cells #[.int .i64 k',.slice la Ab oa,.slice na ra xa,.slice Db Cb ia,.slice Gb Jb Fb] 29)
    have lx:=Loc.made w8 #[.int .i64 k',.slice la Ab oa,.slice na ra xa,.slice Db Cb ia,.slice Gb Jb Fb] 29
    have Ha:=zar Ta fa
    obtain⟨p0,p1,p2,p3,p4⟩:=zcB lx
    obtain⟨q0,q1,q2,q3,q4⟩:=zcB (Za.all Ha)
    obtain⟨M,x,r1,r2,hs,Ia⟩:=zup (aa.keep fa) (Xa.keep Ha) ua eu Bb ma Ua Va
    have hS:=zus M _ _ _ _ _ _ _ _ _ _ _ x x r1 r2 (by omega) (by omega)
    rw [Ia]at hS
    have HS:=hide hS
    have HE:=hide (zar (zar (zar Aa Ca) Ga) Ha)
    clear Ya HH HF Aa Ca Xa Ga Za Ua Va eu hg h0 Ba aa ua Bb ma fa lx Ha r1 r2 hs Ia hS Ta za hz2
    go_wp2_with fail
    refine (zaa HS).mono ?_
    rintro e w9 ⟨rfl,Ib⟩
    have Kb:=hide (zar (zaa HE) Ib)
    clear HS HE Ib p0 p1 p2 p3 p4 q0 q1 q2 q3 q4
    go_wp2_with fail
    go_ret
    exact⟨rfl,zaa Kb⟩
theorem zsp (hal:∀w,Glo w->Calls Tryz.prog 8 #[] w fun e w'=>e=.returned (.bool true)∧Below w.heap.size w w') (w:Xg) (code:Xh) (l:Xc) (h:Byt w code l) (hG:Glo w) :
  Calls Tryz.prog 3 #[code] w fun e w'=>e=.returned (.bool true)∧Below w.heap.size w w':=by
 by_cases hl:(60000:Int)<(l.length:Int)
 ·exact zsv w code l h hl
 ·exact zpJ hal w code l h hG hl
end Go.Proofs.YtgjolijncmkkhaaGreatDoor
