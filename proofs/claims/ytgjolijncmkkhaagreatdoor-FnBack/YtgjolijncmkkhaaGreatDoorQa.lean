/- Own texts joined: Base, To, Tree, LocB, OwnT, Sz, ToT, OnceI, NameS, Str, AttrS, OnceJ, HasI, OnceW, App, FrpT, SayS, PutW, SayW, AppR. -/
import Derived.WalkKit
import Derived.OpenShut
import Derived.WalkSpells
import Derived.WalkSmall
import Derived.Laws.AppendOwnNone
import Derived.Laws.CopyOwn
import Derived.Test.YtgjolijncmkkhaaGreatDoorChecked
import Derived.WideMake
import Derived.Defers
import Derived.Laws.LoneSync
import Derived.Laws.Pointers
import Derived.RegionTactic
import Derived.RegionCalls
import Derived.WalkLawsBesides
import Derived.Deep.RegionHeld3
import Derived.Deep.QuietTactic
import Derived.BigQuiet
import Derived.Lib.AppendStr
import Derived.Deep.RegionLaw
namespace Go.Proofs.YtgjolijncmkkhaaGreatDoor
open Go.RowKit
set_option linter.unusedVariables false
abbrev Xg := List Int
abbrev Xh := List Nat
abbrev Xi := Option Addr
abbrev Xj := List Value
abbrev Xk := World
abbrev Xl := Value
abbrev Xm := TypeId
theorem hide {p:Prop} (h:p):Hid p:=h
theorem zaa {p:Prop} (h:Hid p):p:=h
def okB (l:Xg):Prop:=∀x∈l,0<=x∧x<=255
def vals (l:Xg):Xj:=l.map (Value.int .u8)
def Byt (w:Xk) (v:Xl) (l:Xg):Prop:=
 okB l∧l.length<=maxLen∧
 ((v=.slice none 0 0∧l=[])∨
  (∃x cap,v=.slice (some x) 0 cap∧cap<=maxLen∧l=[])∨
  (∃b off cap,v=.slice (some ⟨b,off,none⟩) l.length cap∧l.length<=cap∧cap<=maxLen∧l≠[]∧b<w.heap.size∧
   ∀i,i<l.length->w.cell? ⟨b,off+i,none⟩=some (.int .u8 (l.getD i 0))))
def Own (w:Xk) (base:Nat) (v:Xl) (l:Xg):Prop:=okB l∧w.ownsRow base 5 1 v l.length (vals l)
theorem zdC {l:Xg} {k:Nat} (h:k<l.length):l.getD k 0=l[k]:=by simp [h]
theorem zaI:okB []:=fun _ h=>by cases h
theorem okB.app {a b:Xg} (h:okB a) (k:okB b):okB (a++b):=fun x hx=>by
 rcases List.mem_append.1 hx with h' | h'
 ·exact h x h'
 ·exact k x h'
theorem okB.take {a:Xg} (h:okB a) (n:Nat):okB (a.take n):=fun x hx=>h x (List.mem_of_mem_take hx)
theorem okB.drop {a:Xg} (h:okB a) (n:Nat):okB (a.drop n):=fun x hx=>h x (List.mem_of_mem_drop hx)
theorem okB.at {a:Xg} (h:okB a) (i:Nat):0<=a[i]?.getD 0∧a[i]?.getD 0<=255:=by
 by_cases hi:i<a.length
 ·rw [List.getElem?_eq_getElem hi];exact h _ (List.getElem_mem hi)
 ·rw [List.getElem?_eq_none (by omega)];decide
theorem okB.one {x:Int} (h0:0<=x) (h1:x<=255):okB [x]:=fun y hy=>by simp at hy;subst hy;exact⟨h0,h1⟩
theorem zbu (l:Xg):(vals l).length=l.length:=by simp [vals]
theorem zfy (a b:Xg):vals (a++b)=vals a++vals b:=by simp [vals]
theorem zqQ (l:Xg):∀u∈vals l,u.oneCell'=true:=ints_oneCell _ _
theorem zfp {l:Xg} {i:Nat} (h:i<l.length):(vals l)[i]? = some (.int .u8 (l.getD i 0)):=by simp [vals,h]
theorem Own.lt {w:Xk} {base:Nat} {v:Xl} {l:Xg} (h:Own w base v l):∀k,v.ownBlock=some k->base<=k∧k<w.heap.size:=h.2.lt
theorem Own.mono {w:Xk} {base base':Nat} {v:Xl} {l:Xg} (h:Own w base v l) (hb:base'<=base):Own w base' v l:=by
 refine⟨h.1,h.2.1,?_⟩
 rcases h.2.2 with h' | ⟨g,cap,cur,h1,h2,h3⟩
 ·exact .inl h'
 ·exact .inr ⟨g,cap,cur,h1,by omega,h3⟩
theorem Own.byt {w:Xk} {base:Nat} {v:Xl} {l:Xg} (h:Own w base v l):Byt w v l:=by
 obtain⟨Fa,Ba,Da⟩:=h
 have hl:=Ba
 rcases Da with ⟨rfl,h0⟩ | ⟨g,cap,Ha,rfl,hb,hg,Ga,Ca,Ia,Aa⟩
 ·exact⟨Fa,by omega,.inl ⟨rfl,List.eq_nil_of_length_eq_zero h0⟩⟩
 ·refine⟨Fa,by omega,.inr ?_⟩
  by_cases h0:l=[]
  ·subst h0;exact .inl ⟨_,cap,rfl,Ca,rfl⟩
  ·refine .inr ⟨g,0,cap,rfl,Ga,Ca,h0,?_,fun i hi=> ?_⟩
   ·by_cases hlt:g<w.heap.size
    ·exact hlt
    ·rw [Array.getElem?_eq_none (by omega)]at hg;cases hg
   ·have:=World.ownsRow.cellAt (w:=w) (base:=base) (e:=5) (size:=1) (g:=g) (n:=l.length) (cap:=cap) (xs:=vals l) ⟨Ba,.inr ⟨g,cap,Ha,rfl,hb,hg,Ga,Ca,Ia,Aa⟩⟩ i (by omega)
    rw [zfp hi]at this
    simpa using this
theorem Byt.shape {w:Xk} {v:Xl} {l:Xg} (h:Byt w v l):∃a cap,v=.slice a l.length cap∧l.length<=cap∧cap<=maxLen:=by
 obtain⟨_,hm,⟨rfl,rfl⟩ | ⟨x,cap,rfl,hc,rfl⟩ | ⟨b,Aa,cap,rfl,h1,h2,_⟩⟩:=h
 ·exact⟨none,0,rfl,Nat.le_refl _,hm⟩
 ·exact⟨some x,cap,rfl,Nat.zero_le _,hc⟩
 ·exact⟨_,cap,rfl,h1,h2⟩
theorem Byt.keep {w w':Xk} {v:Xl} {l:Xg} (h:Byt w v l) (hb:Below w.heap.size w w'):Byt w' v l:=by
 obtain⟨Aa,hm,h1 | h2 | ⟨b,Ba,Ca,rfl,h1,h2,h3,h4,h5⟩⟩:=h
 ·exact⟨Aa,hm,.inl h1⟩
 ·exact⟨Aa,hm,.inr (.inl h2)⟩
 ·exact⟨Aa,hm,.inr (.inr ⟨b,Ba,Ca,rfl,h1,h2,h3,Nat.lt_of_lt_of_le h4 hb.size,fun i hi=>by rw [hb.cell (p:=⟨b,Ba+i,none⟩) h4];exact h5 i hi⟩)⟩
theorem Own.keep {w w':Xk} {base:Nat} {v:Xl} {l:Xg} (h:Own w base v l) (hb:Below w.heap.size w w'):Own w' base v l:=
 ⟨h.1,h.2.kept (row:=none) ⟨hb.os,hb.tape,hb.output,hb.size,fun k hk _=>hb.block k hk⟩ (by cases hv:v.ownBlock<;>simp)⟩
theorem Own.keepBy {w w':Xk} {base:Nat} {v:Xl} {l:Xg} {row:Option Nat} (h:Own w base v l) (hg:w.grownBy w' row) (hne:v.ownBlock=none∨v.ownBlock≠row):Own w' base v l:=
 ⟨h.1,h.2.kept hg hne⟩
theorem Below.ofGrown {w w':Xk} (h:w.grownBy w' none):Below w.heap.size w w':=⟨h.os,h.tape,h.output,h.size,fun k hk=>h.block k hk (by simp)⟩
theorem Below.toGrown {w w':Xk} (h:Below w.heap.size w w') (row:Option Nat):w.grownBy w' row:=⟨h.os,h.tape,h.output,h.size,fun k hk _=>h.block k hk⟩
theorem zal {a b c:Xk} (h:Below a.heap.size a b) (k:Below b.heap.size b c):Below a.heap.size a c:=h.trans (k.mono h.size)
theorem zfm {a b c:Xk} {row:Option Nat} (h:Below a.heap.size a b) (k:b.grownBy c row) (hr:∀g,row=some g->a.heap.size<=g):Below a.heap.size a c:=h.grown k h.size hr
theorem zaA {a b c:Xk} {row:Option Nat} (h:a.grownBy b row) (k:b.grownBy c row):a.grownBy c row:=
 ⟨k.os.trans h.os,k.tape.trans h.tape,k.output.trans h.output,Nat.le_trans h.size k.size,fun i hi Aa=>(k.block i (Nat.lt_of_lt_of_le hi h.size) Aa).trans (h.block i hi Aa)⟩
theorem zbp (b off i:Nat):(⟨b,off,none⟩:Addr).add i=⟨b,off+i,none⟩:=by
 unfold Addr.add
 by_cases h:i=0<;>simp [h]
theorem zaP {w:Xk} {a:Addr} {v:Xl} (h:w.cell? a=some v):a.block<w.heap.size:=by
 by_cases hlt:a.block<w.heap.size
 ·exact hlt
 ·unfold World.cell? at h
  rw [Array.getElem?_eq_none (by omega)]at h
  cases h
theorem zlP {w:Xk} {a:Xi} {len cap:Nat} {zs:Xg}
  (h:(a=none∧len=0∧cap=0∧zs=[])∨∃x,a=some x∧len<=cap∧cap<=maxLen∧zs.length=cap∧(∀i,i<zs.length->w.cell? (x.add i)=some (.int .u8 (zs.getD i 0)))∧∀n∈zs,(Lit.int .u8 n).wf=true) :
  Byt w (.slice a len cap) (zs.take len):=by
 rcases h with ⟨rfl,rfl,rfl,rfl⟩ | ⟨x,rfl,hl,hm,hz,Aa,Ha⟩
 ·exact⟨zaI,by simp [maxLen],.inl ⟨rfl,rfl⟩⟩
 ·have Fa:okB (zs.take len):=fun n hn=>bounds_u8 (Ha n (List.mem_of_mem_take hn))
  have Ba:(zs.take len).length=len:=by simp;omega
  by_cases h0:len=0
  ·subst h0
   exact⟨Fa,by simp [maxLen],.inr (.inl ⟨x,cap,rfl,hm,by simp⟩)⟩
  ·obtain⟨b,Ia,Da⟩:=x
   have hc:=Aa 0 (by omega)
   have Ca:Da=none:=by simpa [Addr.add]using World.cell?_spot hc
   subst Ca
   refine⟨Fa,by omega,.inr (.inr ⟨b,Ia,cap,by rw [Ba],by omega,hm,?_,?_,fun i hi=> ?_⟩)⟩
   ·intro e;rw [e]at Ba;simp at Ba;omega
   ·have:=zaP hc;simpa [Addr.add]using this
   ·have Ga:=Aa i (by omega)
    rw [List.getD_eq_getElem?_getD,List.getElem?_take,if_pos (by omega),<-List.getD_eq_getElem?_getD]
    rw [zbp]at Ga
    exact Ga
theorem Tryz.info5:(Tryz.prog.info? 5).map (fun i=>(i.zero,i.size,i.bytes))=some (some (.int .u8 0),1,1):=by kernel_rfl
structure Nd (α:Type) where
 kind:Int
 name:Xg
 text:Xg
 attrs:List (Xg×Xg)
 kids:List α
def Tr:Nat->Type
 | 0=>Empty
 | n+1=>Nd (Tr n)
def Elems {α:Type} (w:Xk) (size:Nat) (v:Xl) (l:List α) (R:Xj->α->Prop):Prop:=
 l.length<=maxLen∧
 ((v=.slice none 0 0∧l=[])∨
  (∃x cap,v=.slice (some x) 0 cap∧cap<=maxLen∧l=[])∨
  (∃b off cap,v=.slice (some ⟨b,off,none⟩) l.length cap∧l.length<=cap∧cap<=maxLen∧l≠[]∧b<w.heap.size∧
   ∀i (hi:i<l.length),∃C:Xj,C.length=size∧(∀j,j<size->w.cell? ⟨b,off+i*size+j,none⟩=C[j]?)∧R C l[i]))
theorem Elems.shape {α:Type} {w:Xk} {size:Nat} {v:Xl} {l:List α} {R:Xj->α->Prop} (h:Elems w size v l R):∃a cap,v=.slice a l.length cap∧l.length<=cap∧cap<=maxLen:=by
 obtain⟨hm,⟨rfl,rfl⟩ | ⟨x,cap,rfl,hc,rfl⟩ | ⟨b,Aa,cap,rfl,h1,h2,_⟩⟩:=h
 ·exact⟨none,0,rfl,Nat.le_refl _,hm⟩
 ·exact⟨some x,cap,rfl,Nat.zero_le _,hc⟩
 ·exact⟨_,cap,rfl,h1,h2⟩
theorem Elems.keep {α:Type} {w w':Xk} {size:Nat} {v:Xl} {l:List α} {R R':Xj->α->Prop} (h:Elems w size v l R) (hb:Below w.heap.size w w') (hR:∀C x,x∈l->R C x->R' C x):Elems w' size v l R':=by
 obtain⟨hm,h1 | h2 | ⟨b,Aa,Ba,rfl,h1,h2,h3,h4,h5⟩⟩:=h
 ·exact⟨hm,.inl h1⟩
 ·exact⟨hm,.inr (.inl h2)⟩
 ·refine⟨hm,.inr (.inr ⟨b,Aa,Ba,rfl,h1,h2,h3,Nat.lt_of_lt_of_le h4 hb.size,fun i hi=> ?_⟩)⟩
  obtain⟨C,hC,hc,hr⟩:=h5 i hi
  exact⟨C,hC,fun j hj=>(hb.cell (p:=⟨b,Aa+i*size+j,none⟩) h4).trans (hc j hj),hR C _ (List.getElem_mem hi) hr⟩
theorem ziZ {α:Type} {w:Xk} {b off k:Nat} {x:α} {R:Xj->α->Prop} (h:∃C:Xj,C.length=5∧(∀j,j<5->w.cell? ⟨b,off+k*5+j,none⟩=C[j]?)∧R C x) :
  ∃c0 c1 c2 c3 c4,w.cell? ⟨b,off+k*5,none⟩=some c0∧w.cell? ⟨b,off+k*5+1,none⟩=some c1∧w.cell? ⟨b,off+k*5+2,none⟩=some c2∧w.cell? ⟨b,off+k*5+3,none⟩=some c3∧w.cell? ⟨b,off+k*5+4,none⟩=some c4∧R [c0,c1,c2,c3,c4] x:=by
 obtain⟨C,hC,Aa,hr⟩:=h
 match C,hC with
 | [c0,c1,c2,c3,c4],_=>exact⟨c0,c1,c2,c3,c4,Aa 0 (by omega),Aa 1 (by omega),Aa 2 (by omega),Aa 3 (by omega),Aa 4 (by omega),hr⟩
theorem zlE {α:Type} {w:Xk} {b off k:Nat} {x:α} {R:Xj->α->Prop} (h:∃C:Xj,C.length=2∧(∀j,j<2->w.cell? ⟨b,off+k*2+j,none⟩=C[j]?)∧R C x) :
  ∃c0 c1,w.cell? ⟨b,off+k*2,none⟩=some c0∧w.cell? ⟨b,off+k*2+1,none⟩=some c1∧R [c0,c1] x:=by
 obtain⟨C,hC,Aa,hr⟩:=h
 match C,hC with
 | [c0,c1],_=>exact⟨c0,c1,Aa 0 (by omega),Aa 1 (by omega),hr⟩
def zBz (w:Xk) (C:Xj) (x:Xg×Xg):Prop:=∃a b,C=[a,b]∧Byt w a x.1∧Byt w b x.2
def RdAttrs (w:Xk) (v:Xl) (l:List (Xg×Xg)):Prop:=Elems w 2 v l (zBz w)
def RdNode:(n:Nat)->Xk->Xj->Tr n->Prop
 | 0=>fun _ _ _=>False
 | n+1=>fun w C t=>∃a b c d,C=[.int .i64 t.kind,a,b,c,d]∧-9223372036854775808<=t.kind∧t.kind<=9223372036854775807∧Byt w a t.name∧Byt w b t.text∧RdAttrs w c t.attrs∧Elems w 5 d t.kids (RdNode n w)
def RdKids (n:Nat) (w:Xk) (v:Xl) (l:List (Tr n)):Prop:=Elems w 5 v l (RdNode n w)
theorem RdAttrs.keep {w w':Xk} {v:Xl} {l:List (Xg×Xg)} (h:RdAttrs w v l) (hb:Below w.heap.size w w'):RdAttrs w' v l:=
 Elems.keep h hb (fun C x _ ⟨a,b,e,h1,h2⟩=>⟨a,b,e,h1.keep hb,h2.keep hb⟩)
theorem RdNode.keep {n:Nat} {w w':Xk} {C:Xj} {t:Tr n} (h:RdNode n w C t) (hb:Below w.heap.size w w'):RdNode n w' C t:=by
 induction n generalizing C with
 | zero=>exact h
 | succ n ih=>
  obtain⟨a,b,c,d,e,k1,k2,h1,h2,h3,h4⟩:=h
  exact⟨a,b,c,d,e,k1,k2,h1.keep hb,h2.keep hb,h3.keep hb,Elems.keep h4 hb (fun C x _ hr=>ih hr)⟩
theorem RdKids.keep {n:Nat} {w w':Xk} {v:Xl} {l:List (Tr n)} (h:RdKids n w v l) (hb:Below w.heap.size w w'):RdKids n w' v l:=
 Elems.keep h hb (fun C x _ hr=>RdNode.keep hr hb)
def szA (l:List (Xg×Xg)):Nat:=l.length+(l.map fun x=>x.1.length+x.2.length).sum
def szT:(n:Nat)->Tr n->Nat
 | 0=>fun _=>0
 | n+1=>fun t=>t.name.length+t.text.length+szA t.attrs+(t.kids.length+(t.kids.map (szT n)).sum)
def szK (n:Nat) (l:List (Tr n)):Nat:=l.length+(l.map (szT n)).sum
def FB (v:Xl):Xh:=v.ownBlock.toList
structure Frm (w w':Xk) (S:Xh):Prop where
 os:w'.os=w.os
 tape:w'.tape=w.tape
 output:w'.output=w.output
 size:w.heap.size<=w'.heap.size
 block:∀k,k<w.heap.size->k∉S->w'.heap[k]? = w.heap[k]?
theorem Frm.refl (w:Xk) (S:Xh):Frm w w S:=⟨rfl,rfl,rfl,Nat.le_refl _,fun _ _ _=>rfl⟩
theorem Frm.trans {a b c:Xk} {S:Xh} (h:Frm a b S) (k:Frm b c S):Frm a c S:=
 ⟨k.os.trans h.os,k.tape.trans h.tape,k.output.trans h.output,Nat.le_trans h.size k.size,fun i hi hn=>(k.block i (Nat.lt_of_lt_of_le hi h.size) hn).trans (h.block i hi hn)⟩
theorem Frm.mono {a b:Xk} {S S':Xh} (h:Frm a b S) (hs:∀g∈S,g∈S'):Frm a b S':=⟨h.os,h.tape,h.output,h.size,fun i hi hn=>h.block i hi (fun e=>hn (hs i e))⟩
theorem Frm.ofBelow {a b:Xk} (h:Below a.heap.size a b) (S:Xh):Frm a b S:=⟨h.os,h.tape,h.output,h.size,fun i hi _=>h.block i hi⟩
theorem Frm.ofGrown {a b:Xk} {row:Option Nat} (h:a.grownBy b row):Frm a b row.toList:=⟨h.os,h.tape,h.output,h.size,fun i hi hn=>h.block i hi (fun e=>hn (by rw [<-e];simp))⟩
theorem Frm.below {a b:Xk} {S:Xh} {B:Nat} (h:Frm a b S) (hB:B<=a.heap.size) (hs:∀g∈S,B<=g):Below B a b:=⟨h.os,h.tape,h.output,h.size,fun i hi=>h.block i (by omega) (fun e=>by have:=hs i e;omega)⟩
theorem Frm.new {a b c:Xk} {S S':Xh} (h:Frm a b S) (k:Frm b c S') (hs:∀g∈S',a.heap.size<=g):Frm a c S:=
 ⟨k.os.trans h.os,k.tape.trans h.tape,k.output.trans h.output,Nat.le_trans h.size k.size,fun i hi hn=>(k.block i (Nat.lt_of_lt_of_le hi h.size) (fun e=>by have:=hs i e;omega)).trans (h.block i hi hn)⟩
theorem zbG {w w':Xk} {base:Nat} {e:Xm} {size:Nat} {v:Xl} {n:Nat} {xs:Xj} {S:Xh} (h:w.ownsRow base e size v n xs) (f:Frm w w' S) (hd:∀g∈FB v,g∉S):w'.ownsRow base e size v n xs:=by
 refine⟨h.1,?_⟩
 rcases h.2 with h' | ⟨g,cap,cur,rfl,hb,hg,hr⟩
 ·exact .inl h'
 ·have Aa:g<w.heap.size:=by
   by_cases Aa:g<w.heap.size
   ·exact Aa
   ·rw [Array.getElem?_eq_none (by omega)]at hg;cases hg
  exact .inr ⟨g,cap,cur,rfl,hb,(f.block g Aa (hd g (by simp [FB,Value.ownBlock]))).trans hg,hr⟩
theorem Own.frm {w w':Xk} {base:Nat} {v:Xl} {l:Xg} {S:Xh} (h:Own w base v l) (f:Frm w w' S) (hd:∀g∈FB v,g∉S):Own w' base v l:=⟨h.1,zbG h.2 f hd⟩
theorem zqx {w:Xk} {base:Nat} {e:Xm} {size:Nat} {v:Xl} {n:Nat} {xs:Xj} (h:w.ownsRow base e size v n xs) (b:Nat) (hb:b<=base):w.ownsRow b e size v n xs:=by
 refine⟨h.1,?_⟩
 rcases h.2 with h' | ⟨g,cap,cur,e1,h1,h2⟩
 ·exact .inl h'
 ·exact .inr ⟨g,cap,cur,e1,by omega,h2⟩
def Rng (F:Xh) (lo hi:Nat):Prop:=∀g∈F,lo<=g∧g<hi
theorem Rng.mono {F:Xh} {lo hi lo' hi':Nat} (h:Rng F lo hi) (h1:lo'<=lo) (h2:hi<=hi'):Rng F lo' hi':=fun g hg=>by have:=h g hg;omega
theorem Rng.nil (lo hi:Nat):Rng [] lo hi:=fun g hg=>by cases hg
theorem zaU (v:Xl):(FB v).Nodup:=by unfold FB;cases v.ownBlock<;>simp
theorem Own.rng {w:Xk} {base:Nat} {v:Xl} {l:Xg} (h:Own w base v l):Rng (FB v) base w.heap.size:=fun g hg=>h.lt g (by simpa [FB]using hg)
def Loc (w:Xk) (g:Nat) (cs:Array Xl) (T:Xm):Prop:=w.heap[g]? = some (.cells cs T (0,0))
theorem Loc.lt {w:Xk} {g:Nat} {cs:Array Xl} {T:Xm} (h:Loc w g cs T):g<w.heap.size:=by
 by_cases hlt:g<w.heap.size
 ·exact hlt
 ·unfold Loc at h;rw [Array.getElem?_eq_none (by omega)]at h;cases h
theorem Loc.cell {w:Xk} {g:Nat} {cs:Array Xl} {T:Xm} (h:Loc w g cs T) (j:Nat):w.cell? ⟨g,j,none⟩=cs[j]? :=cell_of_row w g j cs T (0,0) h
theorem Loc.frozen {w:Xk} {g:Nat} {cs:Array Xl} {T:Xm} (h:Loc w g cs T) (j:Nat):w.frozen? ⟨g,j,none⟩=false:=frozen_of_row w g j cs T h
theorem Loc.keep {w w':Xk} {g:Nat} {cs:Array Xl} {T:Xm} {B:Nat} (h:Loc w g cs T) (hb:Below B w w') (hB:g<B):Loc w' g cs T:=(hb.block g hB).trans h
theorem Loc.all {w w':Xk} {g:Nat} {cs:Array Xl} {T:Xm} (h:Loc w g cs T) (hb:Below w.heap.size w w'):Loc w' g cs T:=h.keep hb h.lt
theorem Loc.frm {w w':Xk} {g:Nat} {cs:Array Xl} {T:Xm} {S:Xh} (h:Loc w g cs T) (f:Frm w w' S) (hn:g∉S):Loc w' g cs T:=(f.block g h.lt hn).trans h
theorem Loc.set {w:Xk} {g:Nat} {cs:Array Xl} {T:Xm} (h:Loc w g cs T) (j:Nat) (v:Xl):Loc (w.setCell ⟨g,j,none⟩ v) g (cs.setIfInBounds j v) T:=heap_setCell_same w g j cs T v h
theorem Loc.other {w:Xk} {g:Nat} {cs:Array Xl} {T:Xm} (h:Loc w g cs T) (q j:Nat) (v:Xl) (hn:g≠q):Loc (w.setCell ⟨q,j,none⟩ v) g cs T:=(heap_setCell_other w ⟨q,j,none⟩ g v hn).trans h
theorem Loc.alloc {w:Xk} {g:Nat} {cs:Array Xl} {T:Xm} (h:Loc w g cs T) (o:Obj):Loc (w.alloc o) g cs T:=(heap_alloc_old w o h.lt).trans h
theorem Loc.made (w:Xk) (cs:Array Xl) (T:Xm):Loc (w.alloc (.cells cs T)) w.heap.size cs T:=heap_alloc_new w _
theorem zaq (w:Xk) (g j:Nat) (v:Xl):Frm w (w.setCell ⟨g,j,none⟩ v) [g]:=
 ⟨rfl,rfl,rfl,by simp,fun k _ hk=>heap_setCell_other w ⟨g,j,none⟩ k v (fun e=>hk (by simp [e]))⟩
def OwElems {α:Type} (w:Xk) (e:Xm) (size:Nat) (v:Xl) (l:List α) (R:Xj->α->Xh->Prop) (F:Xh):Prop:=
 ∃(Cs:List (Xj)) (Fs:List (Xh)),Cs.length=l.length∧Fs.length=l.length∧(∀i (hi:i<l.length),(Cs.getD i []).length=size∧R (Cs.getD i []) l[i] (Fs.getD i []))∧
  w.ownsRow 0 e size v l.length Cs.flatten∧F=FB v++Fs.flatten
def OwAttr (w:Xk) (C:Xj) (x:Xg×Xg) (F:Xh):Prop:=∃a b,C=[a,b]∧Own w 0 a x.1∧Own w 0 b x.2∧F=FB a++FB b
def OwAttrs (w:Xk) (v:Xl) (l:List (Xg×Xg)) (F:Xh):Prop:=OwElems w 132 2 v l (OwAttr w) F
def OwNode:(n:Nat)->Xk->Xj->Tr n->Xh->Prop
 | 0=>fun _ _ _ _=>False
 | n+1=>fun w C t F=>∃a b c d Fc Fd,C=[.int .i64 t.kind,a,b,c,d]∧-9223372036854775808<=t.kind∧t.kind<=9223372036854775807∧Own w 0 a t.name∧Own w 0 b t.text∧
   OwAttrs w c t.attrs Fc∧OwElems w 29 5 d t.kids (OwNode n w) Fd∧F=FB a++FB b++Fc++Fd
def OwKids (n:Nat) (w:Xk) (v:Xl) (l:List (Tr n)) (F:Xh):Prop:=OwElems w 29 5 v l (OwNode n w) F
theorem zaH {Fs:List (Xh)} {i g:Nat} (h:g∈Fs.getD i []):g∈Fs.flatten:=by
 by_cases hi:i<Fs.length
 ·rw [List.getD_eq_getElem?_getD,List.getElem?_eq_getElem hi]at h
  exact List.mem_flatten.2 ⟨_,List.getElem_mem hi,h⟩
 ·rw [List.getD_eq_getElem?_getD,List.getElem?_eq_none (by omega)]at h;simp at h
theorem OwElems.frm {α:Type} {w w':Xk} {e:Xm} {size:Nat} {v:Xl} {l:List α} {R R':Xj->α->Xh->Prop} {F S:Xh} (h:OwElems w e size v l R F) (f:Frm w w' S) (hd:∀g∈F,g∉S)
  (hR:∀C x G,R C x G->(∀g∈G,g∉S)->R' C x G):OwElems w' e size v l R' F:=by
 obtain⟨Cs,Fs,h1,h2,h3,h4,rfl⟩:=h
 refine⟨Cs,Fs,h1,h2,fun i hi=>⟨(h3 i hi).1,hR _ _ _ (h3 i hi).2 (fun g hg=>hd g (List.mem_append_right _ (zaH hg)))⟩,zbG h4 f (fun g hg=>hd g (List.mem_append_left _ hg)),rfl⟩
theorem OwAttrs.frm {w w':Xk} {v:Xl} {l:List (Xg×Xg)} {F S:Xh} (h:OwAttrs w v l F) (f:Frm w w' S) (hd:∀g∈F,g∉S):OwAttrs w' v l F:=
 OwElems.frm h f hd (fun C x G ⟨a,b,e,h1,h2,h3⟩ hG=>by
  subst h3
  exact⟨a,b,e,h1.frm f (fun g hg=>hG g (by simp [hg])),h2.frm f (fun g hg=>hG g (by simp [hg])),rfl⟩)
theorem OwNode.frm {n:Nat} {w w':Xk} {C:Xj} {t:Tr n} {F S:Xh} (h:OwNode n w C t F) (f:Frm w w' S) (hd:∀g∈F,g∉S):OwNode n w' C t F:=by
 induction n generalizing C F with
 | zero=>exact h
 | succ n ih=>
  obtain⟨a,b,c,d,Fc,Fd,e,k1,k2,h1,h2,h3,h4,rfl⟩:=h
  exact⟨a,b,c,d,Fc,Fd,e,k1,k2,h1.frm f (fun g hg=>hd g (by simp [hg])),h2.frm f (fun g hg=>hd g (by simp [hg])),h3.frm f (fun g hg=>hd g (by simp [hg])),
   OwElems.frm h4 f (fun g hg=>hd g (by simp [hg])) (fun C x G hr hG=>ih hr hG),rfl⟩
theorem OwNode.keep {n:Nat} {w w':Xk} {C:Xj} {t:Tr n} {F:Xh} (h:OwNode n w C t F) (hb:Below w.heap.size w w'):OwNode n w' C t F:=h.frm (Frm.ofBelow hb []) (fun _ _=>by simp)
theorem OwKids.frm {n:Nat} {w w':Xk} {v:Xl} {l:List (Tr n)} {F S:Xh} (h:OwKids n w v l F) (f:Frm w w' S) (hd:∀g∈F,g∉S):OwKids n w' v l F:=OwElems.frm h f hd (fun C x G hr hG=>OwNode.frm hr f hG)
theorem zmE (Cs:List (Xj)) (size:Nat) (h:∀i,i<Cs.length->(Cs.getD i []).length=size) (i j:Nat) (hi:i<Cs.length) (hj:j<size):Cs.flatten[i*size+j]? = (Cs.getD i [])[j]? :=by
 induction Cs generalizing i with
 | nil=>simp at hi
 | cons C Cs ih=>
  have h0:C.length=size:=by simpa using h 0 (by simp)
  cases i with
  | zero=>simp [List.getElem?_append,h0,hj]
  | succ i=>
   have e:(i+1)*size+j=C.length+(i*size+j):=by rw [h0,Nat.succ_mul];omega
   rw [List.flatten_cons,e,List.getElem?_append_right (by omega),Nat.add_sub_cancel_left]
   have:=ih (fun k hk=>by simpa using h (k+1) (by simpa using hk)) i (by simpa using hi)
   simpa using this
theorem OwElems.rd {α:Type} {w:Xk} {e:Xm} {size:Nat} {v:Xl} {l:List α} {R:Xj->α->Xh->Prop} {R':Xj->α->Prop} {F:Xh} (h:OwElems w e size v l R F) (hm:l.length<=maxLen)
  (hR:∀C x G,R C x G->R' C x):Elems w size v l R':=by
 obtain⟨Cs,Fs,h1,h2,h3,h4,rfl⟩:=h
 have Aa:=h4
 refine⟨hm,?_⟩
 rcases h4.2 with ⟨rfl,h0⟩ | ⟨g,Da,Ha,rfl,hb,hg,Ga,Ba,Ia,Ca⟩
 ·exact .inl ⟨rfl,List.eq_nil_of_length_eq_zero h0⟩
 ·by_cases h0:l=[]
  ·subst h0
   exact .inr (.inl ⟨_,Da,rfl,Ba,rfl⟩)
  ·refine .inr (.inr ⟨g,0,Da,rfl,Ga,Ba,h0,(Aa.lt g rfl).2,fun i hi=>⟨Cs.getD i [],(h3 i hi).1,fun j hj=> ?_,hR _ _ _ (h3 i hi).2⟩⟩)
   have Fa:i*size+j<l.length*size:=by
    have:(i+1)*size<=l.length*size:=Nat.mul_le_mul_right _ hi
    rw [Nat.succ_mul]at this;omega
   rw [Nat.zero_add,Aa.cellAt (i*size+j) Fa]
   exact zmE Cs size (fun k hk=>(h3 k (by omega)).1) i j (by omega) hj
theorem OwElems.len {α:Type} {w:Xk} {e:Xm} {size:Nat} {v:Xl} {l:List α} {R:Xj->α->Xh->Prop} {F:Xh} (h:OwElems w e size v l R F):l.length<=maxLen:=by
 obtain⟨Cs,Fs,h1,h2,h3,h4,rfl⟩:=h
 rcases h4.2 with ⟨_,h0⟩ | ⟨g,Da,Aa,rfl,hb,hg,Ca,Ba,_⟩
 ·rw [h0];exact Nat.zero_le _
 ·omega
theorem OwAttrs.rd {w:Xk} {v:Xl} {l:List (Xg×Xg)} {F:Xh} (h:OwAttrs w v l F):RdAttrs w v l:=OwElems.rd h (OwElems.len h) (fun C x G ⟨a,b,e,h1,h2,_⟩=>⟨a,b,e,h1.byt,h2.byt⟩)
theorem OwNode.rd {n:Nat} {w:Xk} {C:Xj} {t:Tr n} {F:Xh} (h:OwNode n w C t F):RdNode n w C t:=by
 induction n generalizing C F with
 | zero=>exact h
 | succ n ih=>
  obtain⟨a,b,c,d,Fc,Fd,e,k1,k2,h1,h2,h3,h4,rfl⟩:=h
  exact⟨a,b,c,d,e,k1,k2,h1.byt,h2.byt,h3.rd,OwElems.rd h4 (OwElems.len h4) (fun C x G hr=>ih hr)⟩
set_option maxRecDepth 100000
def zaK:Obj:=.map #[{ key:=.string ⟨#[98,114]⟩,val:=.agg #[],born:=0 },{ key:=.string ⟨#[104,114]⟩,val:=.agg #[],born:=1 }] 2
theorem zom (W:Xk) (o o':Obj):({ (W.alloc o)with heap:=(W.alloc o).heap.setIfInBounds W.heap.size o' }:Xk)=W.alloc o':=by
 have e:(W.heap.push o).setIfInBounds W.heap.size o'=W.heap.push o':=by
  apply Array.ext'
  rw [Array.toList_setIfInBounds,Array.toList_push,Array.toList_push]
  rw [List.set_append_right _ _ (by simp)]
  simp
 show ({ W with heap:=(W.heap.push o).setIfInBounds W.heap.size o' }:Xk)={ W with heap:=W.heap.push o' }
 rw [e]
theorem zuc (W:Xk):(Instr.mapUpdate 80 (.map (some W.heap.size)) (.string ⟨#[98,114]⟩) (.agg #[])).run Tryz.prog (W.alloc (.map #[] 0))=.ok () (W.alloc (.map #[{ key:=.string ⟨#[98,114]⟩,val:=.agg #[],born:=0 }] 1)):=by
 rw [run_mapUpdate_first (P:=Tryz.prog) (W.alloc (.map #[] 0)) 80 9 68 W.heap.size 0 ⟨#[98,114]⟩ (.agg #[]) Tryz.underlying80 Tryz.underlying9 (heap_alloc_new W _),zom]
theorem zun (W:Xk):(Instr.mapUpdate 80 (.map (some W.heap.size)) (.string ⟨#[104,114]⟩) (.agg #[])).run Tryz.prog (W.alloc (.map #[{ key:=.string ⟨#[98,114]⟩,val:=.agg #[],born:=0 }] 1))=.ok () (W.alloc zaK):=by
 have hb:=heap_alloc_new W (.map #[{ key:=.string ⟨#[98,114]⟩,val:=.agg #[],born:=0 }] 1)
 have hf:Instr.findNow .string (.string ⟨#[104,114]⟩) ([{ key:=.string ⟨#[98,114]⟩,val:=.agg #[],born:=0 }]:List MapEntry) 0=some none:=rfl
 have hc:(Instr.checkKey false 10000 9 (.string ⟨#[104,114]⟩)).run Tryz.prog (W.alloc (.map #[{ key:=.string ⟨#[98,114]⟩,val:=.agg #[],born:=0 }] 1))=.ok () (W.alloc (.map #[{ key:=.string ⟨#[98,114]⟩,val:=.agg #[],born:=0 }] 1)):=MapKept.run_checkKey (k:=.string ⟨#[104,114]⟩) Tryz.underlying9 (by simp [MapKept.IsKey]) false 9999
 simp [Instr.mapUpdate,run_underlying Tryz.underlying80,MapKept.run_getObj_map hb,hc,MapKept.run_findKey Tryz.underlying9 hf,MapKept.run_setObj_map _ hb,Result.andThen]
 exact zom W _ _
theorem zyO (g:Nat) (w:Xk) (cs:Array Xl) (hl:Loc w g cs 82) (c3:Xl) (h3:w.cell? ⟨g,3,none⟩=some c3) :
  Calls Tryz.prog 108 #[.pointer (some ⟨g,0,none⟩)] w fun e w'=>e=.returned (.tuple #[])∧w'=(w.setCell ⟨g,3,none⟩ (.map (some w.heap.size))).alloc zaK:=by
 have Aa:= @run_makeMap Tryz.prog
 have h1:=zuc w
 have h2:=zun w
 have hg:=hl.lt
 have f3:=hl.frozen 3
 go_enter Tryz.func108,Tryz.ntmps108
 go_wp2
 go_end0
 exact⟨rfl,rfl⟩
theorem disable (w:Xk):(callFunc 235 #[]).run Tryz.prog w=.ok (.value (.tuple #[])) w:=run_call_mark0 Tryz.func235 (by kernel_rfl) (by kernel_rfl) (by kernel_rfl) .disable (by kernel_rfl) w
theorem enable (w:Xk):(callFunc 237 #[]).run Tryz.prog w=.ok (.value (.tuple #[])) w:=run_call_mark0 Tryz.func237 (by kernel_rfl) (by kernel_rfl) (by kernel_rfl) .enable (by kernel_rfl) w
theorem acquire (a:Addr) (w:Xk):(callFunc 238 #[.pointer (some a)]).run Tryz.prog w=.ok (.value (.tuple #[])) w:=run_call_marked Tryz.func238 (by kernel_rfl) (by kernel_rfl) (by kernel_rfl) .acquire (by kernel_rfl) a w
theorem releaseMerge (a:Addr) (w:Xk):(callFunc 240 #[.pointer (some a)]).run Tryz.prog w=.ok (.value (.tuple #[])) w:=run_call_marked Tryz.func240 (by kernel_rfl) (by kernel_rfl) (by kernel_rfl) .releaseMerge (by kernel_rfl) a w
theorem zeg (a:Addr) (x:Xl) (u:FrameMode) (w:Xk) (hc:w.cell? a=some x) (hz:w.frozen? a=false) :
  CallsD Tryz.prog 180 #[.pointer (some a),.bool true] u w fun e u' w'=>u'=u∧(e=.returned (.tuple #[])∧w'=w.drew.setCell a (.int .u32 1)):=by
 have Aa:w.drew.cell? a=some x:=by go_simp
 have Ba:w.drew.frozen? a=false:=by go_simp
 have Ca:=run_call_store (P:=Tryz.prog) Tryz.func202 (by kernel_rfl) (by kernel_rfl) (by kernel_rfl) (by kernel_rfl) (k:=.u32) (y:=1) Aa Ba
 go_enter_d Tryz.func180,Tryz.ntmps180
 go_wp2
 go_region_calls
 all_goals (go_end0;exact⟨rfl,rfl⟩)
theorem zef (a:Addr) (u:FrameMode) (w:Xk) (hc:w.cell? a=some (.int .i32 1)) (hz:w.frozen? a=false) :
  CallsD Tryz.prog 179 #[.pointer (some a)] u w fun e u' w'=>u'=u∧(e=.returned (.tuple #[])∧w'=w.setCell a (.int .i32 0)):=by
 have hd:=disable
 have he:=enable
 have hr:=releaseMerge
 have Aa:=run_call_add (P:=Tryz.prog) Tryz.func241 (by kernel_rfl) (by kernel_rfl) (by kernel_rfl) .i32 (by kernel_rfl) (y:= -1) (s:=0) hc hz (by simp [go_sem];rfl)
 have Ba:=run_convert_to_unsafe (P:=Tryz.prog) (src:=301) (dst:=274) Tryz.underlying301 Tryz.underlying274 (by kernel_rfl) hc
 go_enter_d Tryz.func179,Tryz.ntmps179
 go_wp2
 go_end0
 go_wp2
 go_end0
 exact⟨rfl,rfl⟩
theorem zid (a:Addr) (w:Xk) (hc:w.cell? a=some (.int .i32 0)) (hz:w.frozen? a=false) :
  Calls Tryz.prog 178 #[.pointer (some a)] w fun e w'=>e=.returned (.tuple #[])∧w'=w.setCell a (.int .i32 1):=by
 have hd:=disable
 have he:=enable
 have ha:=acquire
 have Ba:=run_call_cas_hit (P:=Tryz.prog) Tryz.func236 (by kernel_rfl) (by kernel_rfl) (by kernel_rfl) .i32 (by kernel_rfl) (y:=1) hc hz
 have Aa:(w.setCell a (.int .i32 1)).cell? a=some (.int .i32 1):=World.cell?_setCell_same w a _ hc
 have Ca:=run_convert_to_unsafe (P:=Tryz.prog) (src:=301) (dst:=274) Tryz.underlying301 Tryz.underlying274 (by kernel_rfl) Aa
 go_enter Tryz.func178,Tryz.ntmps178
 go_wp2
 first | go_end0 | (simp only [Exit.inBlock,Exit.then];refine bodyPost_ret (results_none rfl _ _ _) rfl ?_) | refine bodyPost_ret (results_none rfl _ _ _) rfl ?_
 go_wp2
 go_end0
 exact⟨rfl,rfl⟩
def zex (f:Nat->Int->Prop) (l:Xg) (k:Nat):Prop:=∀i,i<k->f i (l.getD i 0)
theorem zeb {f:Nat->Int->Prop} {l:Xg} {k:Nat} (h:zex f l k) (h1:f k (l.getD k 0)):zex f l (k+1):=fun i hi=>by
 by_cases e:i=k
 ·subst e;exact h1
 ·exact h i (by omega)
def zcR (i:Nat) (x:Int):Prop:=(97<=x∧x<=122)∨(0<i∧48<=x∧x<=57)
def zat (l:Xg):Prop:=1<=l.length∧l.length<=8∧zex zcR l l.length
def zcD (_:Nat) (x:Int):Prop:=32<=x∧x<=126
def zar (l:Xg):Prop:=l.length<=30∧zex zcD l l.length
theorem zrJ (w:Xk) (a:Xi) (n cap:Nat) (h:n<1∨8<n) :
  Calls Tryz.prog 75 #[.slice a n cap] w fun e w'=>e=.returned (.bool false)∧w'=w:=by
 by_cases h1:n<1
 ·have Aa:(n:Int)<1:=by omega
  go_enter Tryz.func75,Tryz.ntmps75
  go_wp2
  go_ret
  exact⟨rfl,rfl⟩
 ·have Aa:decide ((n:Int)<1)=false:=by simp;omega
  have h2:(8:Int)<(n:Int):=by omega
  go_enter Tryz.func75,Tryz.ntmps75
  go_wp2
  go_ret
  exact⟨rfl,rfl⟩
open Classical in
set_option maxHeartbeats 1600000 in
theorem zwQ (w:Xk) (b off cap:Nat) (l:Xg) (hok:okB l) (h1:1<=l.length) (h8:l.length<=8)
  (hc:∀i,i<l.length->w.cell? ⟨b,off+i,none⟩=some (.int .u8 (l.getD i 0))) :
  Calls Tryz.prog 75 #[.slice (some ⟨b,off,none⟩) l.length cap] w fun e w'=>e=.returned (.bool (decide (zat l)))∧w'=w:=by
 have d1:decide ((l.length:Int)<1)=false:=by simp;omega
 have d2:decide ((8:Int)<(l.length:Int))=false:=by simp;omega
 go_enter Tryz.func75,Tryz.ntmps75
 go_wp2
 go_loop [3] (fun i=>∃k:Nat,k<=l.length∧i=.int .i64 k∧zex zcR l k) (fun i=>l.length-(intOf i).toNat)
 case atStart=>exact⟨0,Nat.zero_le _,rfl,fun i hi=>by omega⟩
 case round=>
  obtain⟨k,hk,rfl,ha⟩:=hrel
  have HA:=hide ha
  clear ha
  by_cases hlt:k<l.length
  ·obtain⟨x,hx⟩:∃x,x=l.getD k 0:=⟨_,rfl⟩
   have Ca:w.cell? ⟨b,off+k,none⟩=some (.int .u8 x):=by rw [hx];exact hc _ hlt
   have HX:=hide hx
   have Ba:(k:Int)<(l.length:Int):=by omega
   clear hc hx
   by_cases hn:zcR k x
   ·have HN:=hide hn
    have Aa:(decide (x<97)=false∧decide (122<x)=false)∨(decide (x<97)=true∧((k:Int) == 0)=false∧decide (x<48)=false∧decide (57<x)=false):=by
     rcases hn with ⟨a1,a2⟩ | ⟨a1,a2,a3⟩
     ·left;simp;omega
     ·right;simp;omega
    clear hn
    rcases Aa with ⟨q1,q2⟩ | ⟨q1,q2,q3,q4⟩
    all_goals
     go_wp2
     go_round
     case rel=>exact⟨k+1,by omega,by go_num,zeb (zaa HA) (by rw [<-zaa HX];exact zaa HN)⟩
     case measure=>simp [intOf];omega
   ·have HF:=hide (show decide (zat l)=false by
     simp only [decide_eq_false_iff_not]
     rintro⟨_,_,h⟩
     exact hn (by rw [zaa HX];exact h k hlt))
    have Aa:(decide (x<97)=true∧(((k:Int) == 0)=true∨((k:Int) == 0)=false∧(decide (x<48)=true∨decide (x<48)=false∧decide (57<x)=true)))∨
      (decide (x<97)=false∧decide (122<x)=true∧(((k:Int) == 0)=true∨((k:Int) == 0)=false∧decide (x<48)=false∧decide (57<x)=true)):=by
     unfold zcR at hn
     simp
     omega
    clear hn
    rcases Aa with ⟨q1,q2 | ⟨q2,q3 | ⟨q3,q4⟩⟩⟩ | ⟨q1,q2,q3 | ⟨q3,q4,q5⟩⟩
    all_goals
     go_wp2
     go_ret
     exact⟨by rw [zaa HF];rfl,rfl⟩
  ·have e:k=l.length:=by omega
   subst e
   have HF:=hide (show decide (zat l)=true by simp only [decide_eq_true_eq];exact⟨h1,h8,zaa HA⟩)
   clear hc
   go_wp2
   go_ret
   exact⟨by rw [zaa HF];rfl,rfl⟩
open Classical in
theorem znr (w:Xk) (v:Xl) (l:Xg) (h:Byt w v l) :
  Calls Tryz.prog 75 #[v] w fun e w'=>e=.returned (.bool (decide (zat l)))∧w'=w:=by
 by_cases hl:l.length<1∨8<l.length
 ·obtain⟨a,Aa,rfl,_⟩:=h.shape
  have hd:decide (zat l)=false:=by simp only [decide_eq_false_iff_not];rintro⟨_,_,_⟩;omega
  rw [hd]
  exact zrJ w a _ Aa hl
 ·obtain⟨Ba,hm,⟨rfl,rfl⟩ | ⟨x,Aa,rfl,hc,rfl⟩ | ⟨b,Ca,Aa,rfl,_,_,_,_,h5⟩⟩:=h
  ·simp at hl
  ·simp at hl
  ·exact zwQ w b Ca Aa l Ba (by omega) (by omega) h5
open Classical in
set_option maxHeartbeats 1600000 in
theorem zoc (w:Xk) (v:Xl) (l:Xg) (h:Byt w v l) :
  Calls Tryz.prog 74 #[v] w fun e w'=>e=.returned (.bool (decide (zar l)))∧w'=w:=by
 by_cases hl:30<l.length
 ·obtain⟨a,Ba,rfl,_⟩:=h.shape
  have HD:=hide (show decide (zar l)=false by simp only [decide_eq_false_iff_not];rintro⟨_,_⟩;omega)
  have d2:(30:Int)<(l.length:Int):=by omega
  go_enter Tryz.func74,Tryz.ntmps74
  go_wp2
  go_ret
  exact⟨by rw [zaa HD];rfl,rfl⟩
 have d2:¬ (30:Int)<(l.length:Int):=by omega
 by_cases h0:l=[]
 ·obtain⟨a,Ba,rfl,_⟩:=h.shape
  subst h0
  have HD:=hide (show decide (zar [])=true by simp only [decide_eq_true_eq];exact⟨by simp,fun i hi=>by simp at hi⟩)
  go_enter Tryz.func74,Tryz.ntmps74
  go_wp2
  refine wp_loop_rounds 1 ?_
  rw [rounds_succ]
  go_wp2
  go_ret
  exact⟨by rw [zaa HD];rfl,rfl⟩
 obtain⟨Ga,hm,⟨_,e⟩ | ⟨_,_,_,_,e⟩ | ⟨b,Ca,Ba,rfl,_,_,_,_,hc⟩⟩:=h
 ·exact absurd e h0
 ·exact absurd e h0
 go_enter Tryz.func74,Tryz.ntmps74
 go_wp2
 go_loop [3] (fun i=>∃k:Nat,k<=l.length∧i=.int .i64 k∧zex zcD l k) (fun i=>l.length-(intOf i).toNat)
 case atStart=>exact⟨0,Nat.zero_le _,rfl,fun i hi=>by omega⟩
 case round=>
  obtain⟨k,hk,rfl,ha⟩:=hrel
  have HA:=hide ha
  clear ha
  by_cases hlt:k<l.length
  ·obtain⟨x,hx⟩:∃x,x=l.getD k 0:=⟨_,rfl⟩
   have Fa:w.cell? ⟨b,Ca+k,none⟩=some (.int .u8 x):=by rw [hx];exact hc _ hlt
   have HX:=hide hx
   have Da:(k:Int)<(l.length:Int):=by omega
   clear hc hx
   by_cases hn:zcD k x
   ·have HN:=hide hn
    have q1:decide (x<32)=false:=by unfold zcD at hn;simp;omega
    have q2:decide (126<x)=false:=by unfold zcD at hn;simp;omega
    clear hn
    go_wp2
    go_round
    case rel=>exact⟨k+1,by omega,by go_num,zeb (zaa HA) (by rw [<-zaa HX];exact zaa HN)⟩
    case measure=>simp [intOf];omega
   ·have HF:=hide (show decide (zar l)=false by
     simp only [decide_eq_false_iff_not]
     rintro⟨_,h⟩
     exact hn (by rw [zaa HX];exact h k hlt))
    have Aa:decide (x<32)=true∨(decide (x<32)=false∧decide (126<x)=true):=by
     unfold zcD at hn;simp;omega
    clear hn
    rcases Aa with q1 | ⟨q1,q2⟩
    all_goals
     go_wp2
     go_ret
     exact⟨by rw [zaa HF];rfl,rfl⟩
  ·have e:k=l.length:=by omega
   subst e
   have HF:=hide (show decide (zar l)=true by simp only [decide_eq_true_eq];exact⟨by omega,zaa HA⟩)
   clear hc
   go_wp2
   go_ret
   exact⟨by rw [zaa HF];rfl,rfl⟩
theorem zbV (w:Xk) (v:Xl) (l:Xg) (h:Byt w v l) (hn:zat l):Calls Tryz.prog 75 #[v] w fun e w'=>e=.returned (.bool true)∧w'=w:=by
 refine (znr w v l h).mono ?_
 rintro e w' ⟨rfl,h⟩
 exact⟨by simp [hn],h⟩
theorem zqG (w:Xk) (v:Xl) (l:Xg) (h:Byt w v l) (hn:¬ zat l):Calls Tryz.prog 75 #[v] w fun e w'=>e=.returned (.bool false)∧w'=w:=by
 refine (znr w v l h).mono ?_
 rintro e w' ⟨rfl,h⟩
 exact⟨by simp [hn],h⟩
theorem zgk (w:Xk) (v:Xl) (l:Xg) (h:Byt w v l) (hn:zar l):Calls Tryz.prog 74 #[v] w fun e w'=>e=.returned (.bool true)∧w'=w:=by
 refine (zoc w v l h).mono ?_
 rintro e w' ⟨rfl,h⟩
 exact⟨by simp [hn],h⟩
theorem zrr (w:Xk) (v:Xl) (l:Xg) (h:Byt w v l) (hn:¬ zar l):Calls Tryz.prog 74 #[v] w fun e w'=>e=.returned (.bool false)∧w'=w:=by
 refine (zoc w v l h).mono ?_
 rintro e w' ⟨rfl,h⟩
 exact⟨by simp [hn],h⟩
def allB (f:Nat->Int->Bool) (l:Xg):Bool:=(List.range l.length).all fun i=>f i (l.getD i 0)
theorem zqR {f:Nat->Int->Bool} {p:Nat->Int->Prop} (h:∀i x,f i x=true↔p i x) (l:Xg):allB f l=true↔zex p l l.length:=by
 unfold allB zex
 rw [List.all_eq_true]
 constructor
 ·intro k i hi;exact (h _ _).1 (k i (List.mem_range.2 hi))
 ·intro k i hi;exact (h _ _).2 (k i (List.mem_range.1 hi))
def zaJ (l:Xg):Bool:=decide (1<=l.length) && decide (l.length<=8) && allB (fun i x=>decide (97<=x∧x<=122) || decide (0<i∧48<=x∧x<=57)) l
theorem zby (l:Xg):zaJ l=true↔zat l:=by
 unfold zaJ zat
 rw [Bool.and_eq_true,Bool.and_eq_true,decide_eq_true_eq,decide_eq_true_eq,zqR (p:=zcR) (fun i x=>by unfold zcR;rw [Bool.or_eq_true,decide_eq_true_eq,decide_eq_true_eq]),and_assoc]
def zoZ (l:Xg):Bool:=decide (l.length<=30) && allB (fun _ x=>decide (32<=x∧x<=126)) l
theorem zop (l:Xg):zoZ l=true↔zar l:=by
 unfold zoZ zar
 rw [Bool.and_eq_true,decide_eq_true_eq,zqR (p:=zcD) (fun i x=>by unfold zcD;rw [decide_eq_true_eq])]
def str (l:Xg):ByteArray:=l.foldl (fun r n=>r.push (UInt8.ofNat n.toNat)) ByteArray.empty
theorem zBu (l:Xg) (s:ByteArray):(l.foldl (fun r n=>r.push (UInt8.ofNat n.toNat)) s).data.toList=s.data.toList++l.map (fun n=>UInt8.ofNat n.toNat):=by
 induction l generalizing s with
 | nil=>simp
 | cons x l ih=>rw [List.foldl_cons,ih];simp [ByteArray.push]
theorem zcd (l:Xg):(str l).data.toList=l.map (fun n=>UInt8.ofNat n.toNat):=by
 unfold str;rw [zBu];rfl
theorem zbJ (s:ByteArray):s.toList=s.data.toList:=Go.ByteArray.toList_eq s
theorem zsG {a b:Xg} (ha:okB a) (hb:okB b) (h:(str a).toList=(str b).toList):a=b:=by
 rw [zbJ,zbJ,zcd,zcd]at h
 have hg:∀l:Xg,okB l->(l.map (fun n=>UInt8.ofNat n.toNat)).map (fun u=>(u.toNat:Int))=l:=by
  intro l hl
  induction l with
  | nil=>rfl
  | cons x l ih=>
   have hx:=hl x (by simp)
   have e:((UInt8.ofNat x.toNat).toNat:Int)=x:=by
    rw [UInt8.toNat_ofNat'];omega
   rw [List.map_cons,List.map_cons,ih (fun y hy=>hl y (by simp [hy])),e]
 rw [<-hg a ha,<-hg b hb,h]
theorem zmX {a b:Xg} (ha:okB a) (hb:okB b):((str a).toList == (str b).toList)=decide (a=b):=by
 by_cases h:a=b
 ·subst h;simp
 ·have:¬ (str a).toList=(str b).toList:=fun e=>h (zsG ha hb e)
  rw [decide_eq_false h,beq_eq_false_iff_ne];exact this
theorem zbf (w:Xk) (u:Xl) (a:Xg) (hu:Byt w u a):(convert 22 9 u).run Tryz.prog w=.ok (.string (str a)) w:=by
 have Aa:∀(x:Addr) (c:Nat),(∀j,j<a.length->w.cell? (x.add j)=some (.int .u8 (a.getD j 0)))->(convert 22 9 (.slice (some x) a.length c)).run Tryz.prog w=.ok (.string (str a)) w:=by
  intro x c hc
  rw [run_convert_bytes_string w 22 9 5 (some x) a.length c Tryz.underlying22 Tryz.underlying5 Tryz.underlying9]
  refine run_bytesToString w x a.length c a ?_
  have h:=run_loadCells_list (P:=Tryz.prog) (w:=w) x (vals a) (fun j v hj=>by
   have Ba:j<a.length:=by
    by_cases Ba:j<a.length
    ·exact Ba
    ·rw [List.getElem?_eq_none (by rw [zbu];omega)]at hj;cases hj
   rw [zfp Ba]at hj
   rw [hc j Ba];exact hj)
  rw [zbu]at h
  exact h
 obtain⟨Da,_,⟨rfl,rfl⟩ | ⟨x,Ca,rfl,hc,rfl⟩ | ⟨p,Fa,Ca,rfl,h1,h2,h3,h4,h5⟩⟩:=hu
 ·rw [run_convert_bytes_string w 22 9 5 none 0 0 Tryz.underlying22 Tryz.underlying5 Tryz.underlying9]
  simp [Conv.bytesToString,str]
 ·exact Aa x Ca (fun j hj=>by simp at hj)
 ·exact Aa _ Ca (fun j hj=>by rw [zbp];exact h5 j hj)
def Void (l:Xg):Prop:=l=[98,114]∨l=[104,114]
theorem zBj:(str [98,114]).toList=[98,114]:=by rw [zbJ,zcd];rfl
theorem zBO:(str [104,114]).toList=[104,114]:=by rw [zbJ,zcd];rfl
theorem zvR:okB [98,114]:=fun x hx=>by simp at hx;omega
theorem zvi:okB [104,114]:=fun x hx=>by simp at hx;omega
open Classical in
set_option maxHeartbeats 1600000 in
theorem zon (w:Xk) (v:Xl) (l:Xg) (h:Byt w v l) :
  Calls Tryz.prog 77 #[v] w fun e w'=>e=.returned (.bool (decide (Void l)))∧w'=w:=by
 have c1:=zbf w v l h
 have b1:((str l).toList == [98,114])=decide (l=[98,114]):=by rw [<-zBj];exact zmX h.1 zvR
 have b2:((str l).toList == [104,114])=decide (l=[104,114]):=by rw [<-zBO];exact zmX h.1 zvi
 obtain⟨a1,k1,rfl,_⟩:=h.shape
 generalize str l=s at *
 by_cases h1:l=[98,114]
 ·have HD:=hide (show decide (Void l)=true by simp [Void,h1])
  have d1:(s.toList == [98,114])=true:=by rw [b1];simp [h1]
  clear b1 b2 h1
  go_enter Tryz.func77,Tryz.ntmps77
  go_wp2
  go_ret
  exact⟨by rw [zaa HD];rfl,rfl⟩
 ·have d1:(s.toList == [98,114])=false:=by rw [b1];simp [h1]
  by_cases h2:l=[104,114]
  ·have HD:=hide (show decide (Void l)=true by simp [Void,h2])
   have d2:(s.toList == [104,114])=true:=by rw [b2];simp [h2]
   clear b1 b2 h1 h2
   go_enter Tryz.func77,Tryz.ntmps77
   go_wp2
   go_ret
   exact⟨by rw [zaa HD];rfl,rfl⟩
  ·have HD:=hide (show decide (Void l)=false by simp [Void,h1,h2])
   have d2:(s.toList == [104,114])=false:=by rw [b2];simp [h2]
   clear b1 b2 h1 h2
   go_enter Tryz.func77,Tryz.ntmps77
   go_wp2
   go_ret
   exact⟨by rw [zaa HD];rfl,rfl⟩
def zfd (a b:Xg):Bool:=Op.bytesLess (str a).toList (str b).toList
def zda (l:List (Xg×Xg)) (i:Nat):Prop:=zat (l.getD i ([],[])).1∧zar (l.getD i ([],[])).2∧(0<i->zfd (l.getD (i-1) ([],[])).1 (l.getD i ([],[])).1=true)
def zaC (l:List (Xg×Xg)):Prop:=l.length<=4∧∀i,i<l.length->zda l i
theorem zhg {p:Nat->Prop} {k:Nat} (h:∀i,i<k->p i) (h1:p k) (i:Nat) (hi:i<k+1):p i:=by
 by_cases e:i=k
 ·subst e;exact h1
 ·exact h i (by omega)
open Classical in
set_option maxHeartbeats 3200000 in
theorem zmi (w:Xk) (v:Xl) (l:List (Xg×Xg)) (h:RdAttrs w v l) :
  Calls Tryz.prog 76 #[v] w fun e w'=>e=.returned (.bool (decide (zaC l)))∧Below w.heap.size w w':=by
 by_cases hl:4<l.length
 ·obtain⟨a,Ha,rfl,_⟩:=Elems.shape h
  have HD:=hide (show decide (zaC l)=false by simp only [decide_eq_false_iff_not];rintro⟨_,_⟩;omega)
  have d2:(4:Int)<(l.length:Int):=by omega
  go_enter Tryz.func76,Tryz.ntmps76
  go_wp2_with fail
  go_ret
  exact⟨by rw [zaa HD];rfl,Below.refl _ _⟩
 have d2:¬ (4:Int)<(l.length:Int):=by omega
 by_cases h0:l=[]
 ·obtain⟨a,Ha,rfl,_⟩:=Elems.shape h
  subst h0
  have HD:=hide (show decide (zaC [])=true by simp only [decide_eq_true_eq];exact⟨by simp,fun i hi=>by simp at hi⟩)
  go_enter Tryz.func76,Tryz.ntmps76
  go_wp2_with fail
  refine wp_loop_rounds 1 ?_
  rw [rounds_succ]
  go_wp2_with fail
  go_ret
  exact⟨by rw [zaa HD];rfl,Below.refl _ _⟩
 obtain⟨_,⟨_,e⟩ | ⟨_,_,_,_,e⟩ | ⟨b,Ga,Ha,rfl,g1,g2,g3,g4,g5⟩⟩:=h
 ·exact absurd e h0
 ·exact absurd e h0
 go_enter Tryz.func76,Tryz.ntmps76
 go_wp2_with fail
 go_loopw [3] (fun i wr=>∃k:Nat,k<=l.length∧i=.int .i64 k∧(∀i,i<k->zda l i)∧Below w.heap.size w wr) (fun i _=>l.length-(intOf i).toNat)
 case atStart=>exact⟨0,Nat.zero_le _,rfl,fun i hi=>by omega,Below.refl _ _⟩
 case round=>
  obtain⟨k,hk,rfl,ha,hB⟩:=hrel
  have HA:=hide ha
  clear ha
  by_cases hlt:k<l.length
  ·obtain⟨c0,c1,e0,e1,hc⟩:=zlE (g5 k hlt)
   obtain⟨_,_,ee,Ba,Ca⟩:=hc
   simp only [List.cons.injEq,and_true]at ee
   obtain⟨rfl,rfl⟩:=ee
   replace e0:=(hB.cell (p:=⟨b,Ga+k*2,none⟩) g4).trans e0
   replace e1:=(hB.cell (p:=⟨b,Ga+k*2+1,none⟩) g4).trans e1
   replace Ba:=Ba.keep hB
   replace Ca:=Ca.keep hB
   have Ja:(k:Int)<(l.length:Int):=by omega
   have Pa:(0:Int)<=(k:Int):=by omega
   obtain⟨x,hx⟩:∃x,x=l[k]:=⟨_,rfl⟩
   rw [<-hx]at Ba Ca
   have Aa:l.getD k ([],[])=x:=by rw [hx];simp [hlt]
   obtain⟨a0,n0,La,_,_⟩:=Ba.shape
   obtain⟨a1,n1,Ia,_,_⟩:=Ca.shape
   subst La Ia
   by_cases hn:zat x.1
   ·by_cases ht:zar x.2
    ·by_cases hkz:k=0
     ·have HT:=hide (show zda l k from ⟨by rw [Aa];exact hn,by rw [Aa];exact ht,fun h=>by omega⟩)
      have HN:=hide hn
      have HX:=hide ht
      subst hkz
      have dk:decide ((0:Int)<((0:Nat):Int))=false:=by simp
      simp only [Nat.zero_mul,Nat.add_zero]at e0 e1
      clear g5 hn ht Aa hx
      go_wp2_with fail
      go_quiet (first | (go_at_call 75;exact Calls.quiet_of_same (zbV _ _ x.1 (Ba.keep (below_drewN (Below.refl _ _) _)) (zaa HN))) | (go_at_call 74;exact Calls.quiet_of_same (zgk _ _ x.2 (Ca.keep (below_drewN (Below.refl _ _) _)) (zaa HX))))
      go_wp2_with fail
      go_roundw
      case rel=>exact⟨1,by omega,by go_num,fun i hi=>by obtain rfl:i=0:=(by omega);exact zaa HT,below_drewN hB _⟩
      case measure=>simp [intOf];omega
     ·obtain⟨p0,p1,u0,u1,hp⟩:=zlE (g5 (k-1) (by omega))
      obtain⟨_,_,ee,Da,Ma⟩:=hp
      simp only [List.cons.injEq,and_true]at ee
      obtain⟨rfl,rfl⟩:=ee
      replace u0:=(hB.cell (p:=⟨b,Ga+(k-1)*2,none⟩) g4).trans u0
      replace Da:=Da.keep hB
      obtain⟨y,hy⟩:∃y,y=l[k-1]:=⟨_,rfl⟩
      rw [<-hy]at Da
      have Fa:l.getD (k-1) ([],[])=y:=by rw [hy];simp [show k-1<l.length by omega]
      obtain⟨a2,n2,Ka,_,_⟩:=Da.shape
      subst Ka
      have cx:=fun q=>zbf (wr.drewN q) _ x.1 (Ba.keep (below_drewN (Below.refl _ _) q))
      have cy:=fun q=>zbf (wr.drewN q) _ y.1 (Da.keep (below_drewN (Below.refl _ _) q))
      have Ta:0<k:=by omega
      have Qa:decide (0<k)=true:=by simp;omega
      have Oa:(0:Int)<=(k:Int)-1:=by omega
      have Na:(k:Int)-1<(l.length:Int):=by omega
      have Sa:((k:Int)-1).toNat=k-1:=by omega
      have HN:=hide hn
      have HX:=hide ht
      by_cases hl2:zfd y.1 x.1=true
      ·have HT:=hide (show zda l k from ⟨by rw [Aa];exact hn,by rw [Aa];exact ht,fun _=>by rw [Aa,Fa];exact hl2⟩)
       unfold zfd at hl2
       clear g5 hn ht Aa hx hy Fa
       go_wp2_with fail
       go_quiet (first | (go_at_call 75;exact Calls.quiet_of_same (zbV _ _ x.1 (Ba.keep (below_drewN (Below.refl _ _) _)) (zaa HN))) | (go_at_call 74;exact Calls.quiet_of_same (zgk _ _ x.2 (Ca.keep (below_drewN (Below.refl _ _) _)) (zaa HX))))
       go_wp2_with fail
       go_roundw
       case rel=>exact⟨k+1,by omega,by go_num,fun i hi=>zhg (zaa HA) (zaa HT) i hi,below_drewN hB _⟩
       case measure=>simp [intOf];omega
      ·have HF:=hide (show decide (zaC l)=false by
        simp only [decide_eq_false_iff_not]
        rintro⟨_,h⟩
        exact hl2 (by have:=(h k hlt).2.2 (by omega);rwa [Aa,Fa]at this))
       have Ra:Op.bytesLess (str y.1).toList (str x.1).toList=false:=by unfold zfd at hl2;simpa using hl2
       clear g5 hn ht Aa hx hy Fa hl2
       go_wp2_with fail
       go_quiet (first | (go_at_call 75;exact Calls.quiet_of_same (zbV _ _ x.1 (Ba.keep (below_drewN (Below.refl _ _) _)) (zaa HN))) | (go_at_call 74;exact Calls.quiet_of_same (zgk _ _ x.2 (Ca.keep (below_drewN (Below.refl _ _) _)) (zaa HX))))
       go_wp2_with fail
       go_ret
       exact⟨by rw [zaa HF];rfl,below_drewN hB _⟩
    ·have HF:=hide (show decide (zaC l)=false by
      simp only [decide_eq_false_iff_not]
      rintro⟨_,h⟩
      exact ht (by have:=(h k hlt).2.1;rwa [Aa]at this))
     have HN:=hide hn
     have HX:=hide ht
     clear g5 hn ht Aa hx
     go_wp2_with fail
     go_quiet (first | (go_at_call 75;exact Calls.quiet_of_same (zbV _ _ x.1 (Ba.keep (below_drewN (Below.refl _ _) _)) (zaa HN))) | (go_at_call 74;exact Calls.quiet_of_same (zrr _ _ x.2 (Ca.keep (below_drewN (Below.refl _ _) _)) (zaa HX))))
     go_wp2_with fail
     go_ret
     exact⟨by rw [zaa HF];rfl,below_drewN hB _⟩
   ·have HF:=hide (show decide (zaC l)=false by
     simp only [decide_eq_false_iff_not]
     rintro⟨_,h⟩
     exact hn (by have:=(h k hlt).1;rwa [Aa]at this))
    have HN:=hide hn
    clear g5 hn Aa hx
    go_wp2_with fail
    go_quiet ((go_at_call 75;exact Calls.quiet_of_same (zqG _ _ x.1 (Ba.keep (below_drewN (Below.refl _ _) _)) (zaa HN))))
    go_wp2_with fail
    go_ret
    exact⟨by rw [zaa HF];rfl,below_drewN hB _⟩
  ·have e:k=l.length:=by omega
   subst e
   have HF:=hide (show decide (zaC l)=true by simp only [decide_eq_true_eq];exact⟨by omega,zaa HA⟩)
   clear g5
   go_wp2_with fail
   go_ret
   exact⟨by rw [zaa HF];rfl,hB⟩
def vs0:Array Xl:= #[.int .u32 0,.int .i32 0,.int .u32 0,.map none]
def vs1 (m:Nat):Array Xl:= #[.int .u32 1,.int .i32 0,.int .u32 0,.map (some m)]
theorem zcr (a:Addr) (x:Int) (w:Xk) (hc:w.cell? a=some (.int .u32 x)) (b:Bool) (hb:(x != 0)=b) :
  Calls Tryz.prog 148 #[.pointer (some a)] w fun e w'=>e=.returned (.bool b)∧w'=w:=by
 have Aa:=run_call_load (P:=Tryz.prog) Tryz.func177 (by kernel_rfl) (by kernel_rfl) (by kernel_rfl) .u32 (by kernel_rfl) hc
 go_enter Tryz.func148,Tryz.ntmps148
 go_wp2
 go_ret
 exact⟨rfl,rfl⟩
theorem Frm.drew (w:Xk) (S:Xh):Frm w w.drew S:=Frm.ofBelow ((Below.refl _ _).drew) S
theorem zuF (w:Xk) (a:Addr) (v:Xl):(w.setCell a v).os=w.os:=by unfold World.setCell;repeat (first | rfl | split)
theorem zqC (w:Xk) (a:Addr) (v:Xl):(w.setCell a v).tape=w.tape:=by unfold World.setCell;repeat (first | rfl | split)
theorem zmz (w:Xk) (a:Addr) (v:Xl):(w.setCell a v).output=w.output:=by unfold World.setCell;repeat (first | rfl | split)
theorem Frm.set (w:Xk) (g j:Nat) (v:Xl):Frm w (w.setCell ⟨g,j,none⟩ v) [g]:=
 ⟨zuF w _ v,zqC w _ v,zmz w _ v,by simp,fun i _ hn=>heap_setCell_other w ⟨g,j,none⟩ i v (fun e=>hn (by simp;exact e))⟩
theorem Frm.alloc (w:Xk) (o:Obj) (S:Xh):Frm w (w.alloc o) S:=Frm.ofBelow ((Below.refl _ _).alloc (Nat.le_refl _) _) S
set_option maxHeartbeats 1600000 in
theorem zxz (g:Nat) (w:Xk) (hl:Loc w g vs0 82) :
  Calls Tryz.prog 149 #[.pointer (some ⟨g,0,none⟩),.func (.func 108) #[.pointer (some ⟨g,0,none⟩)] #[]] w fun e w'=>e=.returned (.tuple #[])∧∃m,w.heap.size<=m∧Loc w' g (vs1 m) 82∧w'.heap[m]? = some zaK∧Frm w w' [g]:=by
 have h1:w.cell? ⟨g,1,none⟩=some (.int .i32 0):=hl.cell 1
 have f1:=hl.frozen 1
 have l1:Loc (w.setCell ⟨g,1,none⟩ (.int .i32 1)) g #[.int .u32 0,.int .i32 1,.int .u32 0,.map none] 82:=hl.set 1 (.int .i32 1)
 have F1:=Frm.set w g 1 (.int .i32 1)
 have Ia:∀(x:Bool) (w:Xk),(Op.unary .not (.bool x)).run Tryz.prog w=.ok (.bool (!x)) w:=fun _ _=>rfl
 go_enter_defers Tryz.func149,Tryz.ntmps149
 go_wp2_with (go_at_call 178;refine (zid ⟨g,1,none⟩ _ (by go_simp) (by go_simp)).mono ?_;rintro e w' ⟨rfl,rfl⟩)
 generalize w.setCell ⟨g,1,none⟩ (.int .i32 1)=w1 at *
 refine (zcr ⟨g,0,none⟩ 0 w1 (l1.cell 0) false (by simp)).mono ?_
 rintro e w1 ⟨rfl,rfl⟩
 go_wp2_with fail
 refine (zyO g w1 _ l1 _ (l1.cell 3)).mono ?_
 rintro e w2 ⟨rfl,Aa⟩
 have l2:Loc w2 g #[.int .u32 0,.int .i32 1,.int .u32 0,.map (some w1.heap.size)] 82:=by rw [Aa];exact (l1.set 3 (.map (some w1.heap.size))).alloc _
 have m2:w2.heap[w1.heap.size]? = some zaK:=by rw [Aa];have:=heap_alloc_new (w1.setCell ⟨g,3,none⟩ (.map (some w1.heap.size))) zaK;rwa [show (w1.setCell ⟨g,3,none⟩ (.map (some w1.heap.size))).heap.size=w1.heap.size by simp]at this
 have F2:Frm w1 w2 [g]:=by rw [Aa];exact (Frm.set w1 g 3 _).trans (Frm.alloc _ _ _)
 have Fa:w1.heap.size≠g:=by have:=l1.lt;omega
 have Ga:=F1.trans F2
 have Ha:=F1.size
 clear Aa
 generalize w1.heap.size=m at *
 go_wp2_with fail
 refine leaves_cons (f:=180) (args:= #[.pointer (some ⟨g,0,none⟩),.bool true]) (by simp) (by simp [go_sem]) ?_
 refine (zeg ⟨g,0,none⟩ (.int .u32 0) .returning _ (l2.cell 0) (l2.frozen 0)).mono ?_
 rintro e u' w3 ⟨rfl,rfl,Ba⟩
 have ld:Loc w2.drew g #[.int .u32 0,.int .i32 1,.int .u32 0,.map (some m)] 82:=l2.frm (Frm.drew w2 []) (by simp)
 have l3:Loc w3 g #[.int .u32 1,.int .i32 1,.int .u32 0,.map (some m)] 82:=by rw [Ba];exact ld.set 0 (.int .u32 1)
 have F3:Frm w2 w3 [g]:=by rw [Ba];exact (Frm.drew w2 _).trans (Frm.set _ g 0 _)
 clear Ba
 refine leaves_cons (f:=179) (args:= #[.pointer (some ⟨g,1,none⟩)]) (by simp [settle]) (by simp [go_sem]) ?_
 refine (zef ⟨g,1,none⟩ _ _ (l3.cell 1) (l3.frozen 1)).mono ?_
 rintro e u' w4 ⟨rfl,rfl,Ca⟩
 have l4:Loc w4 g (vs1 m) 82:=by rw [Ca];exact l3.set 1 (.int .i32 0)
 have F4:Frm w3 w4 [g]:=by rw [Ca];exact Frm.set _ g 1 _
 have hm:m<w2.heap.size:=by
  by_cases h:m<w2.heap.size
  ·exact h
  ·rw [Array.getElem?_eq_none (by omega)]at m2;cases m2
 have Da:=F3.trans F4
 have m4:w4.heap[m]? = some zaK:=(Da.block m hm (by simpa using Fa)).trans m2
 simp [Leaves,settle,results,Tryz.results149]
 exact⟨m,Ha,l4,m4,Ga.trans Da⟩
def VMade (B:Nat) (w:Xk) (g:Nat):Prop:=∃m,B<=m∧Loc w g (vs1 m) 82∧w.heap[m]? = some zaK
def VSet (B:Nat) (w:Xk) (g:Nat):Prop:=Loc w g vs0 82∨VMade B w g
theorem zBU (B g:Nat) (w:Xk) (h:VSet B w g) (hB:B<=w.heap.size) :
  Calls Tryz.prog 107 #[.pointer (some ⟨g,0,none⟩),.func (.func 108) #[.pointer (some ⟨g,0,none⟩)] #[]] w fun e w'=>e=.returned (.tuple #[])∧VMade B w' g∧Frm w w' [g]:=by
 have Ba:∀(x:Bool) (w:Xk),(Op.unary .not (.bool x)).run Tryz.prog w=.ok (.bool (!x)) w:=fun _ _=>rfl
 rcases h with hl | ⟨m,Aa,hl,hm⟩
 ·have h0:w.cell? ⟨g,0,none⟩=some (.int .u32 0):=hl.cell 0
  go_enter Tryz.func107,Tryz.ntmps107
  go_wp2_with fail
  refine (zcr ⟨g,0,none⟩ 0 w h0 false (by simp)).mono ?_
  rintro e w ⟨rfl,rfl⟩
  go_wp2_with fail
  refine (zxz g w hl).mono ?_
  rintro e w' ⟨rfl,m,Aa,l',m',F'⟩
  go_wp2_with fail
  go_end0
  exact⟨rfl,⟨m,Nat.le_trans hB Aa,l',m'⟩,F'⟩
 ·have h0:w.cell? ⟨g,0,none⟩=some (.int .u32 1):=hl.cell 0
  go_enter Tryz.func107,Tryz.ntmps107
  go_wp2_with fail
  refine (zcr ⟨g,0,none⟩ 1 w h0 true (by simp)).mono ?_
  rintro e w ⟨rfl,rfl⟩
  go_wp2_with fail
  go_end0
  exact⟨rfl,⟨m,Aa,hl,hm⟩,Frm.refl _ _⟩
def zjC (s:ByteArray):Bool:=s == ⟨#[98,114]⟩ || s == ⟨#[104,114]⟩
theorem zdI (w:Xk) (m:Nat) (s:ByteArray) (hm:w.heap[m]? = some zaK) :
  (Instr.lookup 80 (.map (some m)) (.string s) true).run Tryz.prog w=.ok (.tuple #[.agg #[],.bool (zjC s)]) w:=by
 have hc:(Instr.checkKey false 10000 9 (.string s)).run Tryz.prog w=.ok () w:=MapKept.run_checkKey (k:=.string s) Tryz.underlying9 (by simp [MapKept.IsKey]) false 9999
 have hz:(zeroValue 68).run Tryz.prog w=.ok (.agg #[]) w:=by kernel_rfl
 have hb:w.heap[m]? = some (.map #[{ key:=.string ⟨#[98,114]⟩,val:=.agg #[],born:=0 },{ key:=.string ⟨#[104,114]⟩,val:=.agg #[],born:=1 }] 2):=hm
 by_cases h1:(s == ⟨#[98,114]⟩)=true
 ·have hf:Instr.findNow .string (.string s) ([{ key:=.string ⟨#[98,114]⟩,val:=.agg #[],born:=0 },{ key:=.string ⟨#[104,114]⟩,val:=.agg #[],born:=1 }]:List MapEntry) 0=some (some (0,.agg #[])):=by simp [Instr.findNow,Instr.sameNow,h1]
  simp [Instr.lookup,run_underlying Tryz.underlying80,MapKept.run_getObj_map hb,hc,MapKept.run_findKey Tryz.underlying9 hf,Result.andThen,zjC,h1]
 ·have Aa:(s == ⟨#[98,114]⟩)=false:=by simpa using h1
  by_cases h2:(s == ⟨#[104,114]⟩)=true
  ·have hf:Instr.findNow .string (.string s) ([{ key:=.string ⟨#[98,114]⟩,val:=.agg #[],born:=0 },{ key:=.string ⟨#[104,114]⟩,val:=.agg #[],born:=1 }]:List MapEntry) 0=some (some (1,.agg #[])):=by simp [Instr.findNow,Instr.sameNow,Aa,h2]
   simp [Instr.lookup,run_underlying Tryz.underlying80,MapKept.run_getObj_map hb,hc,MapKept.run_findKey Tryz.underlying9 hf,Result.andThen,zjC,Aa,h2]
  ·have Ba:(s == ⟨#[104,114]⟩)=false:=by simpa using h2
   have hf:Instr.findNow .string (.string s) ([{ key:=.string ⟨#[98,114]⟩,val:=.agg #[],born:=0 },{ key:=.string ⟨#[104,114]⟩,val:=.agg #[],born:=1 }]:List MapEntry) 0=some none:=by simp [Instr.findNow,Instr.sameNow,Aa,Ba]
   simp [Instr.lookup,run_underlying Tryz.underlying80,MapKept.run_getObj_map hb,hc,MapKept.run_findKey Tryz.underlying9 hf,hz,Result.andThen,zjC,Aa,Ba]
theorem zwc (l:Xg) (b:ByteArray) (h:b.data.toList=l.map (fun n=>UInt8.ofNat n.toNat)):str l=b:=
 ByteArray.ext (Array.ext' (by rw [zcd,h]))
open Classical in
theorem ziR (l:Xg) (hl:okB l):zjC (str l)=decide (Void l):=by
 have e1:(⟨#[98,114]⟩:ByteArray)=str [98,114]:=(zwc _ _ rfl).symm
 have e2:(⟨#[104,114]⟩:ByteArray)=str [104,114]:=(zwc _ _ rfl).symm
 have hb:∀k,okB k->(str l == str k)=decide (l=k):=fun k hk=>by
  by_cases h:l=k
  ·subst h;rw [(MapKept.bytes_beq _ _).2 rfl];simp
  ·rw [decide_eq_false h,<-Bool.not_eq_true,MapKept.bytes_beq]
   intro e
   exact h (zsG hl hk (by rw [e]))
 unfold zjC
 rw [e1,e2,hb _ zvR,hb _ zvi]
 unfold Void
 rw [Bool.eq_iff_iff]
 simp
open Classical in
set_option maxHeartbeats 1600000 in
theorem zAw (B g:Nat) (w:Xk) (v:Xl) (l:Xg) (h:VSet B w g) (hBB:B<=w.heap.size) (hv:∀w',Frm w w' [g]->Byt w' v l) :
  Calls Tryz.prog 60 #[.pointer (some ⟨g,0,none⟩),v] w fun e w'=>e=.returned (.bool (decide (Void l)))∧VMade B w' g∧Frm w w' [g]:=by
 have Da:∀(fn:Fn) (first cap:Array Xl) (w:Xk),(Instr.makeFunc fn first cap).run Tryz.prog w=.ok (.func fn first cap) w:=fun _ _ _ _=>rfl
 have hg:g<w.heap.size:=by
  rcases h with h | ⟨m,_,h,_⟩
  ·exact h.lt
  ·exact h.lt
 obtain⟨a1,k1,rfl,_⟩:=(hv w (Frm.refl _ _)).shape
 have HV:=hide hv
 clear hv
 go_enter Tryz.func60,Tryz.ntmps60
 go_wp2_with fail
 refine (zBU B g w h hBB).mono ?_
 rintro e w1 ⟨rfl,⟨m,Ca,l1,m1⟩,F1⟩
 have h3:w1.cell? ⟨g,3,none⟩=some (.map (some m)):=l1.cell 3
 have Ga:w1.drew.cell? ⟨g,3,none⟩=some (.map (some m)):=l1.cell 3
 have Fa:(w1.alloc (.cells #[] 68)).cell? ⟨g,3,none⟩=some (.map (some m)):=(l1.alloc _).cell 3
 have Ba:m<w1.heap.size:=by
  by_cases h:m<w1.heap.size
  ·exact h
  ·rw [Array.getElem?_eq_none (by omega)]at m1;cases m1
 have Aa:Byt w1 _ l:=zaa HV w1 F1
 have c1:=zbf w1.drew _ l (Aa.keep ((Below.refl _ _).drew))
 have c2:=zbf (w1.alloc (.cells #[] 68)).drew _ l (Aa.keep (((Below.refl _ _).alloc (Nat.le_refl _) _).drew))
 have q1:=fun s=>zdI w1.drew m s m1
 have q2:=fun s=>zdI (w1.alloc (.cells #[] 68)).drew m s ((heap_alloc_old w1 _ Ba).trans m1)
 have HS:=hide (ziR l Aa.1)
 generalize str l=s at *
 generalize l.length=n at *
 go_wp2_with fail
 go_region
 all_goals
  go_wp2_with fail
  go_ret
  exact⟨by rw [<-zaa HS];rfl,⟨m,Ca,(l1.alloc _).all ((Below.refl _ _).drew),(heap_alloc_old w1 _ Ba).trans m1⟩,F1.trans ((Frm.alloc w1 _ _).trans (Frm.drew _ _))⟩
def ws0 (o:Xl):Array Xl:= #[o,.int .u32 0,.int .i32 0,.int .u32 0,.map none]
def ws1 (o:Xl) (m:Nat):Array Xl:= #[o,.int .u32 1,.int .i32 0,.int .u32 0,.map (some m)]
def ztG (B:Nat) (o:Xl) (w:Xk) (g:Nat):Prop:=∃m,B<=m∧Loc w g (ws1 o m) 86∧w.heap[m]? = some zaK
def WSet (B:Nat) (o:Xl) (w:Xk) (g:Nat):Prop:=Loc w g (ws0 o) 86∨ztG B o w g
theorem zvp (o:Xl) (g:Nat) (w:Xk) (cs:Array Xl) (hl:Loc w g cs 86) (c3:Xl) (h3:w.cell? ⟨g,4,none⟩=some c3) :
  Calls Tryz.prog 108 #[.pointer (some ⟨g,1,none⟩)] w fun e w'=>e=.returned (.tuple #[])∧w'=(w.setCell ⟨g,4,none⟩ (.map (some w.heap.size))).alloc zaK:=by
 have Aa:= @run_makeMap Tryz.prog
 have h1:=zuc w
 have h2:=zun w
 have hg:=hl.lt
 have f3:=hl.frozen 4
 go_enter Tryz.func108,Tryz.ntmps108
 go_wp2
 go_end0
 exact⟨rfl,rfl⟩
set_option maxHeartbeats 1600000 in
theorem zwk (o:Xl) (g:Nat) (w:Xk) (hl:Loc w g (ws0 o) 86) :
  Calls Tryz.prog 149 #[.pointer (some ⟨g,1,none⟩),.func (.func 108) #[.pointer (some ⟨g,1,none⟩)] #[]] w fun e w'=>e=.returned (.tuple #[])∧∃m,w.heap.size<=m∧Loc w' g (ws1 o m) 86∧w'.heap[m]? = some zaK∧Frm w w' [g]:=by
 have h1:w.cell? ⟨g,2,none⟩=some (.int .i32 0):=hl.cell 2
 have f1:=hl.frozen 2
 have l1:Loc (w.setCell ⟨g,2,none⟩ (.int .i32 1)) g #[o,.int .u32 0,.int .i32 1,.int .u32 0,.map none] 86:=hl.set 2 (.int .i32 1)
 have F1:=Frm.set w g 2 (.int .i32 1)
 have Ia:∀(x:Bool) (w:Xk),(Op.unary .not (.bool x)).run Tryz.prog w=.ok (.bool (!x)) w:=fun _ _=>rfl
 go_enter_defers Tryz.func149,Tryz.ntmps149
 go_wp2_with (go_at_call 178;refine (zid ⟨g,2,none⟩ _ (by go_simp) (by go_simp)).mono ?_;rintro e w' ⟨rfl,rfl⟩)
 generalize w.setCell ⟨g,2,none⟩ (.int .i32 1)=w1 at *
 refine (zcr ⟨g,1,none⟩ 0 w1 (l1.cell 1) false (by simp)).mono ?_
 rintro e w1 ⟨rfl,rfl⟩
 go_wp2_with fail
 refine (zvp o g w1 _ l1 _ (l1.cell 4)).mono ?_
 rintro e w2 ⟨rfl,Aa⟩
 have l2:Loc w2 g #[o,.int .u32 0,.int .i32 1,.int .u32 0,.map (some w1.heap.size)] 86:=by rw [Aa];exact (l1.set 4 (.map (some w1.heap.size))).alloc _
 have m2:w2.heap[w1.heap.size]? = some zaK:=by rw [Aa];have:=heap_alloc_new (w1.setCell ⟨g,4,none⟩ (.map (some w1.heap.size))) zaK;rwa [show (w1.setCell ⟨g,4,none⟩ (.map (some w1.heap.size))).heap.size=w1.heap.size by simp]at this
 have F2:Frm w1 w2 [g]:=by rw [Aa];exact (Frm.set w1 g 4 _).trans (Frm.alloc _ _ _)
 have Fa:w1.heap.size≠g:=by have:=l1.lt;omega
 have Ga:=F1.trans F2
 have Ha:=F1.size
 clear Aa
 generalize w1.heap.size=m at *
 go_wp2_with fail
 refine leaves_cons (f:=180) (args:= #[.pointer (some ⟨g,1,none⟩),.bool true]) (by simp) (by simp [go_sem]) ?_
 refine (zeg ⟨g,1,none⟩ (.int .u32 0) .returning _ (l2.cell 1) (l2.frozen 1)).mono ?_
 rintro e u' w3 ⟨rfl,rfl,Ba⟩
 have ld:Loc w2.drew g #[o,.int .u32 0,.int .i32 1,.int .u32 0,.map (some m)] 86:=l2.frm (Frm.drew w2 []) (by simp)
 have l3:Loc w3 g #[o,.int .u32 1,.int .i32 1,.int .u32 0,.map (some m)] 86:=by rw [Ba];exact ld.set 1 (.int .u32 1)
 have F3:Frm w2 w3 [g]:=by rw [Ba];exact (Frm.drew w2 _).trans (Frm.set _ g 1 _)
 clear Ba
 refine leaves_cons (f:=179) (args:= #[.pointer (some ⟨g,2,none⟩)]) (by simp [settle]) (by simp [go_sem]) ?_
 refine (zef ⟨g,2,none⟩ _ _ (l3.cell 2) (l3.frozen 2)).mono ?_
 rintro e u' w4 ⟨rfl,rfl,Ca⟩
 have l4:Loc w4 g (ws1 o m) 86:=by rw [Ca];exact l3.set 2 (.int .i32 0)
 have F4:Frm w3 w4 [g]:=by rw [Ca];exact Frm.set _ g 2 _
 have hm:m<w2.heap.size:=by
  by_cases h:m<w2.heap.size
  ·exact h
  ·rw [Array.getElem?_eq_none (by omega)]at m2;cases m2
 have Da:=F3.trans F4
 have m4:w4.heap[m]? = some zaK:=(Da.block m hm (by simpa using Fa)).trans m2
 simp [Leaves,settle,results,Tryz.results149]
 exact⟨m,Ha,l4,m4,Ga.trans Da⟩
theorem zzH (B:Nat) (o:Xl) (g:Nat) (w:Xk) (h:WSet B o w g) (hB:B<=w.heap.size) :
  Calls Tryz.prog 107 #[.pointer (some ⟨g,1,none⟩),.func (.func 108) #[.pointer (some ⟨g,1,none⟩)] #[]] w fun e w'=>e=.returned (.tuple #[])∧ztG B o w' g∧Frm w w' [g]:=by
 have Ba:∀(x:Bool) (w:Xk),(Op.unary .not (.bool x)).run Tryz.prog w=.ok (.bool (!x)) w:=fun _ _=>rfl
 rcases h with hl | ⟨m,Aa,hl,hm⟩
 ·have h0:w.cell? ⟨g,1,none⟩=some (.int .u32 0):=hl.cell 1
  go_enter Tryz.func107,Tryz.ntmps107
  go_wp2_with fail
  refine (zcr ⟨g,1,none⟩ 0 w h0 false (by simp)).mono ?_
  rintro e w ⟨rfl,rfl⟩
  go_wp2_with fail
  refine (zwk o g w hl).mono ?_
  rintro e w' ⟨rfl,m,Aa,l',m',F'⟩
  go_wp2_with fail
  go_end0
  exact⟨rfl,⟨m,Nat.le_trans hB Aa,l',m'⟩,F'⟩
 ·have h0:w.cell? ⟨g,1,none⟩=some (.int .u32 1):=hl.cell 1
  go_enter Tryz.func107,Tryz.ntmps107
  go_wp2_with fail
  refine (zcr ⟨g,1,none⟩ 1 w h0 true (by simp)).mono ?_
  rintro e w ⟨rfl,rfl⟩
  go_wp2_with fail
  go_end0
  exact⟨rfl,⟨m,Aa,hl,hm⟩,Frm.refl _ _⟩
open Classical in
set_option maxHeartbeats 1600000 in
theorem zzm (B:Nat) (o:Xl) (g:Nat) (w:Xk) (v:Xl) (l:Xg) (h:WSet B o w g) (hBB:B<=w.heap.size) (hv:∀w',Frm w w' [g]->Byt w' v l) :
  Calls Tryz.prog 60 #[.pointer (some ⟨g,1,none⟩),v] w fun e w'=>e=.returned (.bool (decide (Void l)))∧ztG B o w' g∧Frm w w' [g]:=by
 have Da:∀(fn:Fn) (first cap:Array Xl) (w:Xk),(Instr.makeFunc fn first cap).run Tryz.prog w=.ok (.func fn first cap) w:=fun _ _ _ _=>rfl
 have hg:g<w.heap.size:=by
  rcases h with h | ⟨m,_,h,_⟩
  ·exact h.lt
  ·exact h.lt
 obtain⟨a1,k1,rfl,_⟩:=(hv w (Frm.refl _ _)).shape
 have HV:=hide hv
 clear hv
 go_enter Tryz.func60,Tryz.ntmps60
 go_wp2_with fail
 refine (zzH B o g w h hBB).mono ?_
 rintro e w1 ⟨rfl,⟨m,Ca,l1,m1⟩,F1⟩
 have h3:w1.cell? ⟨g,4,none⟩=some (.map (some m)):=l1.cell 4
 have Ga:w1.drew.cell? ⟨g,4,none⟩=some (.map (some m)):=l1.cell 4
 have Fa:(w1.alloc (.cells #[] 68)).cell? ⟨g,4,none⟩=some (.map (some m)):=(l1.alloc _).cell 4
 have Ba:m<w1.heap.size:=by
  by_cases h:m<w1.heap.size
  ·exact h
  ·rw [Array.getElem?_eq_none (by omega)]at m1;cases m1
 have Aa:Byt w1 _ l:=zaa HV w1 F1
 have c1:=zbf w1.drew _ l (Aa.keep ((Below.refl _ _).drew))
 have c2:=zbf (w1.alloc (.cells #[] 68)).drew _ l (Aa.keep (((Below.refl _ _).alloc (Nat.le_refl _) _).drew))
 have q1:=fun s=>zdI w1.drew m s m1
 have q2:=fun s=>zdI (w1.alloc (.cells #[] 68)).drew m s ((heap_alloc_old w1 _ Ba).trans m1)
 have HS:=hide (ziR l Aa.1)
 generalize str l=s at *
 generalize l.length=n at *
 go_wp2_with fail
 go_region
 all_goals
  go_wp2_with fail
  go_ret
  exact⟨by rw [<-zaa HS];rfl,⟨m,Ca,(l1.alloc _).all ((Below.refl _ _).drew),(heap_alloc_old w1 _ Ba).trans m1⟩,F1.trans ((Frm.alloc w1 _ _).trans (Frm.drew _ _))⟩
theorem zdU {w:Xk} {ops:Array Oper} {rest:List Oper} {o:Oper} {a:Act} {Q:Exit->Act->Xk->Prop} (hgd:o.guard=none) (s x:Operand)
  (ho:o.op=.call { callee:=.builtin .append,args:= #[s,x],argTypes:= #[22,22] })
  (base:Nat) (v:Xl) (l:Xg) (hs:a.eval s=v) (hown:Own w base v l) (u:Xl) (m:Xg) (hx:a.eval x=u) (hu:Byt w u m)
  (hlen:l.length+m.length<=134217728) (hbase:base<=w.heap.size)
  (h:∀v' w',Own w' base v' (l++m)->w.grownBy w' v.ownBlock->wpList Tryz.prog ops Q rest (a.put o.dst v') w'):wpList Tryz.prog ops Q (o::rest) a w:=by
 obtain⟨i0,hi,Ha,Ia,Da⟩:=info_parts Tryz.info5
 have Aa:∀(ad:Addr) (c:Nat),a.eval x=.slice (some ad) m.length c->(∀j,j<m.length->w.cell? (ad.add j)=some (.int .u8 (m.getD j 0)))->wpList Tryz.prog ops Q (o::rest) a w:=by
  intro ad c Fa hc
  refine wpList_append_own _ hgd s x 22 ho base 5 i0 (.int .u8 0) 1 1 Tryz.underlying22 hi Ha Ia Da rfl (by decide) v l.length (vals l) hs hown.2 ad m.length c (vals m) Fa (by rw [zbu];omega) ?_ (zqQ m) (by unfold maxLen;omega) (by omega) hbase ?_
  ·intro j y hj
   have Ba:j<m.length:=by
    by_cases Ba:j<m.length
    ·exact Ba
    ·rw [List.getElem?_eq_none (by rw [zbu];omega)]at hj;cases hj
   rw [zfp Ba]at hj
   rw [hc j Ba];exact hj
  ·intro v' w' h1 h2 _
   refine h v' w' ⟨hown.1.app hu.1,?_⟩ h2
   rw [zfy,List.length_append];exact h1
 obtain⟨Ja,hm,⟨rfl,rfl⟩ | ⟨y,Ca,rfl,hc,rfl⟩ | ⟨b,Ga,Ca,rfl,h1,h2,h3,h4,h5⟩⟩:=hu
 ·refine wpList_append_own_none hgd s x 22 ho base 5 i0 1 Tryz.underlying22 hi v l.length (vals l) hs hown.2 hx ?_
  exact h v w (by rw [List.append_nil];exact hown) (World.grownBy.refl _ _)
 ·exact Aa y Ca hx (fun j hj=>by simp at hj)
 ·exact Aa ⟨b,Ga,none⟩ Ca hx (fun j hj=>by rw [zbp];exact h5 j hj)
theorem zfl (w:Xk) (x:Int) (h0:0<=x) (h1:x<=255):Byt (w.alloc (.cells #[.int .u8 x] 5)) (.slice (some ⟨w.heap.size,0,none⟩) 1 1) [x]:=by
 refine⟨okB.one h0 h1,by simp [maxLen],.inr (.inr ⟨w.heap.size,0,1,rfl,by simp,by simp [maxLen],by simp,by simp,fun i hi=> ?_⟩)⟩
 have e:i=0:=by simpa using hi
 subst e
 simp
theorem zxI (w:Xk):Own (w.alloc (.cells #[] 5)) w.heap.size (.slice (some ⟨w.heap.size,0,none⟩) 0 0) []:=
 ⟨zaI,World.ownsRow_lit w #[] 0 (Nat.le_refl _) (Nat.zero_le _) rfl⟩
theorem Own.alloc {w:Xk} {base:Nat} {v:Xl} {l:Xg} (h:Own w base v l) (o:Obj):Own (w.alloc o) base v l:=⟨h.1,h.2.alloc o⟩
theorem Byt.alloc {w:Xk} {v:Xl} {l:Xg} (h:Byt w v l) (o:Obj):Byt (w.alloc o) v l:=h.keep ((Below.refl _ _).alloc (Nat.le_refl _) o)
structure Frp (Mt:Nat->Obj->Prop) (a b:Xk):Prop where
 os:b.os=a.os
 tape:b.tape=a.tape
 output:b.output=a.output
 size:a.heap.size<=b.heap.size
 block:∀i o,a.heap[i]? = some o->¬ Mt i o->b.heap[i]? = some o
theorem Frp.refl (Mt:Nat->Obj->Prop) (a:Xk):Frp Mt a a:=⟨rfl,rfl,rfl,Nat.le_refl _,fun _ _ h _=>h⟩
theorem Frp.trans {Mt:Nat->Obj->Prop} {a b c:Xk} (h:Frp Mt a b) (k:Frp Mt b c):Frp Mt a c:=
 ⟨k.os.trans h.os,k.tape.trans h.tape,k.output.trans h.output,Nat.le_trans h.size k.size,fun i o hi hm=>k.block i o (h.block i o hi hm) hm⟩
theorem Frp.ofBelow {a b:Xk} (h:Below a.heap.size a b) (Mt:Nat->Obj->Prop):Frp Mt a b:=
 ⟨h.os,h.tape,h.output,h.size,fun i o hi _=>(h.block i (Array.getElem?_eq_some_iff.1 hi).1).trans hi⟩
theorem Frp.ofFrm {a b:Xk} {S:Xh} (h:Frm a b S) {Mt:Nat->Obj->Prop} (hm:∀g∈S,∀o,a.heap[g]? = some o->Mt g o):Frp Mt a b:=
 ⟨h.os,h.tape,h.output,h.size,fun i o hi hn=>(h.block i (Array.getElem?_eq_some_iff.1 hi).1 (fun e=>hn (hm i e o hi))).trans hi⟩
theorem Frp.below {Mt:Nat->Obj->Prop} {a b:Xk} {B:Nat} (h:Frp Mt a b) (hB:B<=a.heap.size) (hm:∀i o,i<B->¬ Mt i o):Below B a b:=
 ⟨h.os,h.tape,h.output,h.size,fun i hi=>by
  have Aa:i<a.heap.size:=by omega
  have:=h.block i _ (Array.getElem?_eq_getElem Aa) (hm i _ hi)
  rw [this,Array.getElem?_eq_getElem Aa]⟩
theorem Loc.frp {Mt:Nat->Obj->Prop} {w w':Xk} {g:Nat} {cs:Array Xl} {T:Xm} (h:Loc w g cs T) (f:Frp Mt w w') (hn:¬ Mt g (.cells cs T (0,0))):Loc w' g cs T:=f.block g _ h hn
theorem zbA {w:Xk} {base:Nat} {e:Xm} {size n:Nat} {v:Xl} {xs:Xj} (h:w.ownsRow base e size v n xs) {g:Nat} (hg:v.ownBlock=some g):∃cur,w.heap[g]? = some (.cells cur e (0,0)):=by
 rcases h.2 with ⟨rfl,_⟩ | ⟨g',Aa,cur,rfl,_,ho,_⟩
 ·cases hg
 ·cases hg;exact⟨cur,ho⟩
def MtB (B:Nat) (i:Nat) (o:Obj):Prop:=B<=i∧∃cs,o=.cells cs 5 (0,0)
theorem Frp.ofAppend {w w':Xk} {B:Nat} {v:Xl} {l:Xg} (ho:Own w B v l) (h:w.grownBy w' v.ownBlock):Frp (MtB B) w w':=
 Frp.ofFrm (Frm.ofGrown h) (fun g hg o Ba=>by
  have Ca:v.ownBlock=some g:=by simpa using hg
  obtain⟨Da,Aa⟩:=zbA ho.2 Ca
  rw [Aa]at Ba
  cases Ba
  exact⟨(ho.lt g Ca).1,Da,rfl⟩)
def sayB (q:Bool) (x:Int):Xg:=if x=38 then [38,97,109,112,59] else if x=60 then [38,108,116,59] else if x=34∧q=true then [38,113,117,111,116,59] else [x]
def say (q:Bool) (l:Xg):Xg:=(l.map (sayB q)).flatten
theorem zxT (q:Bool) (l:Xg) (j:Nat) (h:j<l.length):say q (l.take (j+1))=say q (l.take j)++sayB q l[j]:=by
 unfold say
 rw [List.take_succ_eq_append_getElem h,List.map_append,List.flatten_append]
 simp
theorem zBd (q:Bool) (l:Xg) (j:Nat):(say q (l.take j)).length<=(say q l).length:=by
 have:say q l=say q (l.take j)++say q (l.drop j):=by
  unfold say
  rw [<-List.flatten_append,<-List.map_append,List.take_append_drop]
 rw [this,List.length_append]
 omega
theorem zyd (q:Bool) (x:Int):(sayB q x).length<=6:=by
 unfold sayB
 split
 ·decide
 ·split
  ·decide
  ·split
   ·decide
   ·simp
theorem zmC (q:Bool):∀l:Xg,(say q l).length<=6*l.length
 | []=>by simp [say]
 | x::l=>by
  have h1:=zmC q l
  have h2:=zyd q x
  unfold say at h1 ⊢
  simp only [List.map_cons,List.flatten_cons,List.length_append,List.length_cons]
  omega
theorem zrD {w:Xk} {ops:Array Oper} {rest:List Oper} {o:Oper} {a:Act} {Q:Exit->Act->Xk->Prop} (hgd:o.guard=none) (s x:Operand)
  (ho:o.op=.call { callee:=.builtin .append,args:= #[s,x],argTypes:= #[22,9] })
  (base:Nat) (v:Xl) (l:Xg) (hs:a.eval s=v) (hown:Own w base v l) (t:ByteArray) (m:Xg) (hx:a.eval x=.string t) (hm:Lib.strCells t=vals m) (hok:okB m)
  (hlen:l.length+m.length<=134217728) (hbase:base<=w.heap.size)
  (h:∀v' w',Own w' base v' (l++m)->w.grownBy w' v.ownBlock->wpList Tryz.prog ops Q rest (a.put o.dst v') w'):wpList Tryz.prog ops Q (o::rest) a w:=by
 obtain⟨i0,hi,Ca,Da,Ba⟩:=info_parts Tryz.info5
 have Aa:t.size=m.length:=by rw [<-Lib.strCells_length,hm,zbu]
 refine Lib.wpList_append_own_string _ hgd s x 22 9 ho base 5 i0 Tryz.underlying22 Tryz.underlying9 hi Ca Da Ba v l.length (vals l) hs hown.2 t hx (by rw [Aa];unfold maxLen;omega) (by omega) hbase ?_
 intro v' w' h1 h2 _
 refine h v' w' ⟨hown.1.app hok,?_⟩ h2
 rw [zfy,List.length_append,<-Aa,<-hm];exact h1
theorem zzT:okB [38,97,109,112,59]:=fun x hx=>by simp at hx;omega
theorem zBJ:okB [38,108,116,59]:=fun x hx=>by simp at hx;omega
theorem zyE:okB [38,113,117,111,116,59]:=fun x hx=>by simp at hx;omega
def MtW (B g:Nat) (i:Nat) (o:Obj):Prop:=(i=g∧∃cs,o=.cells cs 86 (0,0))∨MtB B i o
def Wr (B:Nat) (w:Xk) (g:Nat) (L:Xg):Prop:=∃o,Own w B o L∧WSet B o w g
theorem WSet.loc {B:Nat} {o:Xl} {w:Xk} {g:Nat} (h:WSet B o w g):∃cs,Loc w g cs 86∧cs[0]? = some o∧w.cell? ⟨g,0,none⟩=some o∧w.frozen? ⟨g,0,none⟩=false:=by
 rcases h with h | ⟨m,_,h,_⟩
 ·exact⟨_,h,rfl,h.cell 0,h.frozen 0⟩
 ·exact⟨_,h,rfl,h.cell 0,h.frozen 0⟩
theorem zhy {B b:Nat} {v:Xl} {l:Xg} {w:Xk} {g:Nat} {cs:Array Xl} (ho:Own w b v l) (h:Loc w g cs 86):v.ownBlock≠some g:=by
 intro e
 obtain⟨Aa,hc⟩:=zbA ho.2 e
 unfold Loc at h
 rw [h]at hc
 injection hc with hc
 injection hc with _ hc
 revert hc
 decide
theorem zwT {w:Xk} {m:Nat} (h:w.heap[m]? = some zaK):m<w.heap.size:=by
 by_cases hm:m<w.heap.size
 ·exact hm
 ·rw [Array.getElem?_eq_none (by omega)]at h;cases h
theorem zyV {b:Nat} {v:Xl} {l:Xg} {w:Xk} {m:Nat} (ho:Own w b v l) (h:w.heap[m]? = some zaK):v.ownBlock≠some m:=by
 intro e
 obtain⟨Aa,hc⟩:=zbA ho.2 e
 rw [h]at hc
 injection hc with hc
 cases hc
theorem zmr {w w':Xk} {K:Nat} {row:Option Nat} {cs:Array Xl} {T:Xm} (hK:Loc w K cs T) (hg:w.grownBy w' row) (hn:row≠some K):Loc w' K cs T:=by
 unfold Loc at hK ⊢
 rw [hg.block K (Array.getElem?_eq_some_iff.1 hK).1 (fun e=>hn e.symm)]
 exact hK
theorem WSet.grown {B b:Nat} {o v:Xl} {l:Xg} {w w':Xk} {g:Nat} (h:WSet B o w g) (ho:Own w b v l) (hg:w.grownBy w' v.ownBlock):WSet B o w' g:=by
 rcases h with h | ⟨m,hm,h,h2⟩
 ·exact .inl (zmr h hg (zhy (B:=B) ho h))
 ·exact .inr ⟨m,hm,zmr h hg (zhy (B:=B) ho h),(hg.block m (zwT h2) (fun e=>zyV ho h2 e.symm)).trans h2⟩
theorem WSet.set {B:Nat} {o:Xl} {w:Xk} {g:Nat} (h:WSet B o w g) (v:Xl):WSet B v (w.setCell ⟨g,0,none⟩ v) g:=by
 rcases h with h | ⟨m,hm,h,h2⟩
 ·exact .inl (h.set 0 v)
 ·refine .inr ⟨m,hm,h.set 0 v,(heap_setCell_other w ⟨g,0,none⟩ m v (fun e=> ?_)).trans h2⟩
  have e':m=g:=e
  subst e'
  unfold Loc at h
  rw [h]at h2
  injection h2 with h2
  cases h2
theorem WSet.keep {B:Nat} {o:Xl} {w w':Xk} {g:Nat} (h:WSet B o w g) (hb:Below w.heap.size w w'):WSet B o w' g:=by
 rcases h with h | ⟨m,hm,h,h2⟩
 ·exact .inl (h.all hb)
 ·exact .inr ⟨m,hm,h.all hb,(hb.block m (zwT h2)).trans h2⟩
theorem Wr.keep {B:Nat} {w w':Xk} {g:Nat} {L:Xg} (h:Wr B w g L) (hb:Below w.heap.size w w'):Wr B w' g L:=by
 obtain⟨o,h1,h2⟩:=h
 exact⟨o,h1.keep hb,h2.keep hb⟩
theorem FrpW.ofB {B g:Nat} {a b:Xk} (h:Frp (MtB B) a b):Frp (MtW B g) a b:=⟨h.os,h.tape,h.output,h.size,fun i o hi hm=>h.block i o hi (fun k=>hm (.inr k))⟩
theorem FrpW.ofFrm {B g:Nat} {a b:Xk} {cs:Array Xl} (hl:Loc a g cs 86) (h:Frm a b [g]):Frp (MtW B g) a b:=
 Frp.ofFrm h (fun i hi o ho=>by
  have e:i=g:=by simpa using hi
  subst e
  unfold Loc at hl
  rw [hl]at ho
  cases ho
  exact .inl ⟨rfl,cs,rfl⟩)
theorem FrpW.toBelow {B g:Nat} {a b:Xk} {S:Nat} (h:Frp (MtW B g) a b) (hS:S<=a.heap.size) (hB:S<=B) (hg:S<=g):Below S a b:=h.below hS (fun i o hi hm=>by
 rcases hm with ⟨e,_⟩ | ⟨h1,_⟩<;>omega)
theorem zmV {B g i:Nat} {cs:Array Xl} {T:Xm} (h1:T≠86) (h2:T≠5):¬ MtW B g i (.cells cs T (0,0)):=by
 rintro (⟨_,Aa,h⟩ | ⟨_,Aa,h⟩)
 ·injection h with _ h;exact h1 h
 ·injection h with _ h;exact h2 h
theorem zvs {B g:Nat} {w w':Xk} {o v:Xl} {L m:Xg} (ho:Own w B o L) (hs:WSet B o w g) (ho':Own w' B v m) (hg:w.grownBy w' o.ownBlock) :
  (w'.cell? ⟨g,0,none⟩=some o∧w'.frozen? ⟨g,0,none⟩=false)∧Wr B (w'.setCell ⟨g,0,none⟩ v) g m∧Frp (MtW B g) w (w'.setCell ⟨g,0,none⟩ v):=by
 have Aa:=hs.grown ho hg
 obtain⟨cs,hl,_,c0,f0⟩:=Aa.loc
 have Ba:=zhy (B:=B) ho' hl
 refine⟨⟨c0,f0⟩,⟨v,ho'.frm (Frm.set w' g 0 v) (fun i hi Ca=> ?_),Aa.set v⟩,(FrpW.ofB (Frp.ofAppend ho hg)).trans (FrpW.ofFrm hl (Frm.set w' g 0 v))⟩
 have e1:i=g:=by simpa using Ca
 have e2:v.ownBlock=some i:=by simpa [FB]using hi
 exact Ba (by rw [e2,e1])
def zaO (p:ByteArray×Xg):Prop:=Lib.strCells p.1=vals p.2∧okB p.2
theorem zke {l:Xg} (h:okB l):zaO (str l,l):=by
 refine⟨?_,h⟩
 show Lib.strCells (str l)=vals l
 unfold Lib.strCells vals
 rw [zcd,List.map_map]
 refine List.map_congr_left (fun x hx=> ?_)
 have:=h x hx
 show Value.int .u8 ((UInt8.ofNat x.toNat).toNat:Int)=Value.int .u8 x
 rw [UInt8.toNat_ofNat',Value.int.injEq]
 refine⟨rfl,?_⟩
 omega
theorem zBo {a:ByteArray×Xg} (ha:zaO a):∀p∈[a],zaO p:=fun p hp=>by simp at hp;subst hp;exact ha
theorem zBy {a b:ByteArray×Xg} (ha:zaO a) (hb:zaO b):∀p∈[a,b],zaO p:=fun p hp=>by
 simp at hp
 rcases hp with rfl | rfl
 ·exact ha
 ·exact hb
theorem zAY {a b c:ByteArray×Xg} (ha:zaO a) (hb:zaO b) (hc:zaO c):∀p∈[a,b,c],zaO p:=fun p hp=>by
 simp at hp
 rcases hp with rfl | rfl | rfl
 ·exact ha
 ·exact hb
 ·exact hc
theorem ztX (ws:List (ByteArray×Xg)) (j:Nat) (h:j<ws.length):((ws.take (j+1)).map (·.2)).flatten=((ws.take j).map (·.2)).flatten++ws[j].2:=by
 rw [List.take_succ_eq_append_getElem h,List.map_append,List.flatten_append]
 simp
theorem zxN (ws:List (ByteArray×Xg)) (j:Nat):((ws.take j).map (·.2)).flatten.length<=(ws.map (·.2)).flatten.length:=by
 have:(ws.map (·.2)).flatten=((ws.take j).map (·.2)).flatten++((ws.drop j).map (·.2)).flatten:=by rw [<-List.flatten_append,<-List.map_append,List.take_append_drop]
 rw [this,List.length_append]
 omega
set_option maxHeartbeats 3200000 in
theorem zmW (B g k cap:Nat) (w:Xk) (L:Xg) (ws:List (ByteArray×Xg)) (hw:Wr B w g L) (hB:B<=w.heap.size) (hk:Loc w k (ws.map (fun p=>Value.string p.1)).toArray 9) (hs:∀p∈ws,zaO p)
  (hn:ws.length<=1000) (hlen:L.length+(ws.map (·.2)).flatten.length<=100000000) :
  Calls Tryz.prog 61 #[.pointer (some ⟨g,0,none⟩),.slice (some ⟨k,0,none⟩) ws.length cap] w fun e w'=>e=.returned (.tuple #[])∧Wr B w' g (L++(ws.map (·.2)).flatten)∧Frp (MtW B g) w w':=by
 have Qa:(ws.length:Int)<=9223372036854775807:=by omega
 have Ma:¬ MtW B g k (.cells (ws.map (fun p=>Value.string p.1)).toArray 9 (0,0)):=zmV (by decide) (by decide)
 go_enter Tryz.func61,Tryz.ntmps61
 go_wp2_with fail
 go_loopw [8] (fun i wr=>∃j:Nat,j<=ws.length∧i=.int .i64 j∧Wr B wr g (L++((ws.take j).map (·.2)).flatten)∧Frp (MtW B g) w wr) (fun i _=>ws.length-(intOf i).toNat)
 case atStart=>exact⟨0,Nat.zero_le _,rfl,by simpa using hw,Frp.refl _ _⟩
 case round=>
  obtain⟨j,hj,rfl,hr,hb⟩:=hrel
  by_cases hjl:j<ws.length
  ·have Aa:=ztX ws j hjl
   have Ga:=zxN ws (j+1)
   obtain⟨p,hp⟩:∃p,p=ws[j]:=⟨_,rfl⟩
   have Pa:zaO p:=by rw [hp];exact hs _ (List.getElem_mem hjl)
   have hc:wr.cell? ⟨k,j,none⟩=some (.string p.1):=by
    rw [(hk.frp hb Ma).cell j]
    simp [hjl,hp]
   obtain⟨s,m⟩:=p
   rw [<-hp]at Aa
   replace Aa:((ws.take (j+1)).map (·.2)).flatten=((ws.take j).map (·.2)).flatten++m:=Aa
   replace hc:wr.cell? ⟨k,j,none⟩=some (.string s):=hc
   obtain⟨Ba,Ca⟩:=Pa
   replace Ba:Lib.strCells s=vals m:=Ba
   replace Ca:okB m:=Ca
   have Oa:B<=wr.heap.size:=Nat.le_trans hB hb.size
   have La:(L++((ws.take j).map (·.2)).flatten).length+m.length<=100000000:=by
    rw [Aa]at Ga
    simp only [List.length_append]at Ga ⊢
    omega
   have Na:(j:Int)<(ws.length:Int):=by omega
   obtain⟨M,hM⟩:∃M,M=L++((ws.take j).map (·.2)).flatten:=⟨_,rfl⟩
   have HL:=hide (show L++((ws.take (j+1)).map (·.2)).flatten=M++m by rw [Aa,hM,List.append_assoc])
   rw [<-hM]at hr La
   obtain⟨o,Fa,Da⟩:=hr
   obtain⟨ab,cb,Ka,_,_⟩:=Fa.byt.shape
   subst Ka
   obtain⟨cs,_,_,c0,f0⟩:=Da.loc
   have HR:=hide Fa
   have HS:=hide Da
   have HM:=hide Ba
   have HO:=hide Ca
   clear Fa Da Aa hp Ga hM Ba Ca hs hk hw
   go_wp2_with (at_builtin;refine zrD rfl _ _ rfl B _ M rfl (zaa HR) _ m rfl (zaa HM) (zaa HO) (by omega) Oa ?_)
   intro v2 w2 Ha Ja
   obtain⟨⟨c2,f2⟩,W2,F2⟩:=zvs (zaa HR) (zaa HS) Ha Ja
   have HW:=hide (show Wr B (w2.setCell ⟨g,0,none⟩ v2) g (L++((ws.take (j+1)).map (·.2)).flatten) by rw [zaa HL];exact W2)
   obtain⟨a2,Ra,Ia,_,_⟩:=Ha.byt.shape
   generalize (M++m).length=N2 at Ia
   subst Ia
   clear Ha Ja W2
   go_wp2_with fail
   go_roundw
   case rel=>exact⟨j+1,by omega,by go_num,zaa HW,hb.trans F2⟩
   case measure=>simp [intOf];omega
  ·have e:j=ws.length:=by omega
   subst e
   rw [List.take_length]at hr
   clear hk hs hw
   go_wp2_with fail
   go_end0
   exact⟨rfl,hr,hb⟩
theorem zzd:zaO (⟨#[38,97,109,112,59]⟩,[38,97,109,112,59]):=⟨rfl,zzT⟩
theorem zAB:zaO (⟨#[38,108,116,59]⟩,[38,108,116,59]):=⟨rfl,zBJ⟩
theorem zvu:zaO (⟨#[38,113,117,111,116,59]⟩,[38,113,117,111,116,59]):=⟨rfl,zyE⟩
theorem zgK (B g cap:Nat) (w:Xk) (L:Xg) (s:ByteArray) (m:Xg) (hw:Wr B w g L) (hB:B<=w.heap.size) (hs:zaO (s,m)) (hlen:L.length+m.length<=100000000) :
  Calls Tryz.prog 61 #[.pointer (some ⟨g,0,none⟩),.slice (some ⟨w.heap.size,0,none⟩) 1 cap] (w.alloc (.cells #[.string s] 9)) fun e w'=>e=.returned (.tuple #[])∧Wr B w' g (L++m)∧Frp (MtW B g) w w':=by
 have hb:Below w.heap.size w (w.alloc (.cells #[.string s] 9)):=(Below.refl _ _).alloc (Nat.le_refl _) _
 have h:=zmW B g w.heap.size cap _ L [(s,m)] (hw.keep hb) (Nat.le_trans hB hb.size) (Loc.made w #[.string s] 9) (zBo hs) (by simp) (by simpa using hlen)
 refine h.mono ?_
 rintro e w' ⟨rfl,h1,h2⟩
 exact⟨rfl,by simpa using h1,(Frp.ofBelow hb _).trans h2⟩
set_option maxHeartbeats 3200000 in
theorem zqe (w0 w:Xk) (B g:Nat) (u:Xl) (L t:Xg) (q:Bool) (hw:Wr B w g L) (hB:B<=w.heap.size) (hu:Byt w0 u t) (hW:Below w0.heap.size w0 w) (h0:w0.heap.size<=B) (hg0:w0.heap.size<=g) (hlen:L.length+(say q t).length<=100000000) :
  Calls Tryz.prog 58 #[.pointer (some ⟨g,0,none⟩),u,.bool q] w fun e w'=>e=.returned (.tuple #[])∧Wr B w' g (L++say q t)∧Frp (MtW B g) w w':=by
 obtain⟨au,cu,rfl,_,_⟩:=hu.shape
 have Va:=hu.2.1
 unfold maxLen at Va
 have Wa:(t.length:Int)<=9223372036854775807:=by omega
 go_enter Tryz.func58,Tryz.ntmps58
 go_wp2_with fail
 go_loopw [10] (fun i wr=>∃j:Nat,j<=t.length∧i=.int .i64 j∧Wr B wr g (L++say q (t.take j))∧Frp (MtW B g) w wr) (fun i _=>t.length-(intOf i).toNat)
 case atStart=>exact⟨0,Nat.zero_le _,rfl,by simpa [say]using hw,Frp.refl _ _⟩
 case round=>
  obtain⟨j,hj,rfl,hr,hb⟩:=hrel
  by_cases hjl:j<t.length
  ·have Ba:=zxT q t j hjl
   have Ia:=zBd q t (j+1)
   obtain⟨Pa,_,⟨_,e⟩ | ⟨_,_,_,_,e⟩ | ⟨p,Oa,Ya,e,h1,h2,h3,h4,h5⟩⟩:=hu
   ·subst e;simp at hjl
   ·subst e;simp at hjl
   injection e with e1 _ e3
   subst e1 e3
   have hc:=h5 j hjl
   obtain⟨x,hx⟩:∃x,x=t[j]:=⟨_,rfl⟩
   rw [zdC hjl,<-hx]at hc
   rw [<-hx]at Ba
   have Ta:0<=x:=by rw [hx];exact (Pa _ (List.getElem_mem hjl)).1
   have Qa:x<=255:=by rw [hx];exact (Pa _ (List.getElem_mem hjl)).2
   have Ka:Below w0.heap.size w0 wr:=hW.trans (FrpW.toBelow hb hW.size h0 hg0)
   have Xa:wr.cell? ⟨p,Oa+j,none⟩=some (.int .u8 x):=(Ka.cell (p:=⟨p,Oa+j,none⟩) h4).trans hc
   have Ca:B<=wr.heap.size:=Nat.le_trans hB hb.size
   have Aa:(L++say q (t.take j)).length+(sayB q x).length<=100000000:=by
    rw [Ba]at Ia
    simp only [List.length_append]at Ia ⊢
    omega
   have Ua:(j:Int)<(t.length:Int):=by omega
   obtain⟨M,hM⟩:∃M,M=L++say q (t.take j):=⟨_,rfl⟩
   have HL:=hide (show L++say q (t.take (j+1))=M++sayB q x by rw [Ba,hM,List.append_assoc])
   rw [<-hM]at hr Aa
   have Za:M.length<=100000000:=by omega
   have HR:=hide hr
   clear hr Ba hx hc Ia h5 hM hw hW Ka
   by_cases k1:x=38
   ·have d1:(x == 38)=true:=by simpa using k1
    have HY:=hide (show sayB q x=[38,97,109,112,59] by unfold sayB;rw [if_pos k1])
    clear k1
    have HP:=hide (zgK B g 1 wr M _ _ (zaa HR) Ca zzd (by rw [zaa HY]at Aa;exact Aa))
    clear Aa
    go_wp2_with fail
    refine (zaa HP).mono ?_
    rintro e w2 ⟨rfl,W2,F2⟩
    have HO:=hide (show Wr B w2 g (L++say q (t.take (j+1))) by rw [zaa HL,zaa HY];exact W2)
    clear W2
    go_wp2_with fail
    go_roundw
    case rel=>exact⟨j+1,by omega,by go_num,zaa HO,hb.trans F2⟩
    case measure=>simp [intOf];omega
   ·have d1:(x == 38)=false:=by simpa using k1
    by_cases k2:x=60
    ·have d2:(x == 60)=true:=by simpa using k2
     have HY:=hide (show sayB q x=[38,108,116,59] by unfold sayB;rw [if_neg k1,if_pos k2])
     clear k1 k2
     have HP:=hide (zgK B g 1 wr M _ _ (zaa HR) Ca zAB (by rw [zaa HY]at Aa;exact Aa))
     clear Aa
     go_wp2_with fail
     refine (zaa HP).mono ?_
     rintro e w2 ⟨rfl,W2,F2⟩
     have HO:=hide (show Wr B w2 g (L++say q (t.take (j+1))) by rw [zaa HL,zaa HY];exact W2)
     clear W2
     go_wp2_with fail
     go_roundw
     case rel=>exact⟨j+1,by omega,by go_num,zaa HO,hb.trans F2⟩
     case measure=>simp [intOf];omega
    ·have d2:(x == 60)=false:=by simpa using k2
     by_cases k3:x=34∧q=true
     ·have d3:(x == 34)=true:=by simpa using k3.1
      have HY:=hide (show sayB q x=[38,113,117,111,116,59] by unfold sayB;rw [if_neg k1,if_neg k2,if_pos k3])
      obtain⟨_,hq⟩:=k3
      subst hq
      clear k1 k2
      have HP:=hide (zgK B g 1 wr M _ _ (zaa HR) Ca zvu (by rw [zaa HY]at Aa;exact Aa))
      clear Aa
      go_wp2_with fail
      refine (zaa HP).mono ?_
      rintro e w2 ⟨rfl,W2,F2⟩
      have HO:=hide (show Wr B w2 g (L++say true (t.take (j+1))) by rw [zaa HL,zaa HY];exact W2)
      clear W2
      go_wp2_with fail
      go_roundw
      case rel=>exact⟨j+1,by omega,by go_num,zaa HO,hb.trans F2⟩
      case measure=>simp [intOf];omega
     ·have HY:=hide (show sayB q x=[x] by unfold sayB;rw [if_neg k1,if_neg k2,if_neg k3])
      have d3:((x == 34)=true∧q=false)∨(x == 34)=false:=by
       by_cases h34:x=34
       ·left
        refine⟨by simpa using h34,?_⟩
        cases q with
        | true=>exact absurd ⟨h34,rfl⟩ k3
        | false=>rfl
       ·right;simpa using h34
      clear k1 k2 k3
      obtain⟨o,Ha,Da⟩:=zaa HR
      obtain⟨ab,cb,Ra,_,_⟩:=Ha.byt.shape
      subst Ra
      obtain⟨cs,_,_,c0,f0⟩:=Da.loc
      have Ga:Below wr.heap.size wr (wr.alloc (.cells #[.int .u8 x] 5)):=(Below.refl _ _).alloc (Nat.le_refl _) _
      have Na:=hide (Ha.alloc (.cells #[.int .u8 x] 5))
      have Sa:=hide (Da.keep Ga)
      have Fa:Frp (MtW B g) wr (wr.alloc (.cells #[.int .u8 x] 5)):=Frp.ofBelow Ga _
      clear Ha Da HR Ga Aa
      rcases d3 with ⟨d3,rfl⟩ | d3
      all_goals
       go_wp2_with (at_builtin;(refine zdU rfl _ _ rfl B _ M rfl (zaa Na) _ [x] rfl (zfl wr x Ta Qa) (by first | omega | (simp;omega)) (by first | exact Ca | (simp;omega)) ?_))
       intro v2 w2 Ja Ma
       obtain⟨⟨c2,f2⟩,W2,F2⟩:=zvs (zaa Na) (zaa Sa) Ja Ma
       rw [<-zaa HY,<-zaa HL]at W2
       have HO:=hide W2
       obtain⟨a2,aa,La,_,_⟩:=Ja.byt.shape
       generalize (M++[x]).length=N2 at La
       subst La
       clear Ja Ma W2
       go_wp2_with fail
       go_roundw
       case rel=>exact⟨j+1,by omega,by go_num,zaa HO,(hb.trans Fa).trans F2⟩
       case measure=>simp [intOf];omega
  ·have e:j=t.length:=by omega
   subst e
   rw [List.take_length]at hr
   clear hu hw
   go_wp2_with fail
   go_end0
   exact⟨rfl,hr,hb⟩
end Go.Proofs.YtgjolijncmkkhaaGreatDoor
