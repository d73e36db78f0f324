/- Own texts joined: Base, To, Tree, LocB, OwnT, Sz, ToT, OnceI, NameS, Str, AttrS, OnceJ, HasI, OnceW, App, FrpT, SayS, PutW, SayW, AppR, NodeS, Tool, MkupS. -/
import Derived.WalkKit
import Derived.OpenShut
import Derived.WalkSpells
import Derived.WalkSmall
import Derived.Laws.AppendOwnNone
import Derived.Laws.CopyOwn
import Derived.Test.YtgjolijncmkkhaaGreatDoorChecked
import Derived.WideMake
import Derived.Defers
import Derived.Laws.LoneSync
import Derived.Laws.Pointers
import Derived.RegionTactic
import Derived.RegionCalls
import Derived.WalkLawsBesides
import Derived.Deep.RegionHeld3
import Derived.Deep.QuietTactic
import Derived.BigQuiet
import Derived.Lib.AppendStr
import Derived.Deep.RegionLaw
namespace Go.Proofs.YtgjolijncmkkhaaGreatDoor
open Go.RowKit
set_option linter.unusedVariables false
abbrev Xc := List Int
abbrev Xd := List Nat
abbrev Xe := Option Addr
abbrev Xf := List Value
abbrev Xg := World
abbrev Xh := Value
abbrev Xi := TypeId
theorem hide {p:Prop} (h:p):Hid p:=h
theorem zaa {p:Prop} (h:Hid p):p:=h
def okB (l:Xc):Prop:=∀x∈l,0<=x∧x<=255
def vals (l:Xc):Xf:=l.map (Value.int .u8)
def Byt (w:Xg) (v:Xh) (l:Xc):Prop:=
 okB l∧l.length<=maxLen∧
 ((v=.slice none 0 0∧l=[])∨
  (∃x cap,v=.slice (some x) 0 cap∧cap<=maxLen∧l=[])∨
  (∃b off cap,v=.slice (some ⟨b,off,none⟩) l.length cap∧l.length<=cap∧cap<=maxLen∧l≠[]∧b<w.heap.size∧
   ∀i,i<l.length->w.cell? ⟨b,off+i,none⟩=some (.int .u8 (l.getD i 0))))
def Own (w:Xg) (base:Nat) (v:Xh) (l:Xc):Prop:=okB l∧w.ownsRow base 5 1 v l.length (vals l)
theorem zcP {l:Xc} {k:Nat} (h:k<l.length):l.getD k 0=l[k]:=by simp [h]
theorem zaE:okB []:=fun _ h=>by cases h
theorem okB.app {a b:Xc} (h:okB a) (k:okB b):okB (a++b):=fun x hx=>by
 rcases List.mem_append.1 hx with h' | h'
 ·exact h x h'
 ·exact k x h'
theorem okB.take {a:Xc} (h:okB a) (n:Nat):okB (a.take n):=fun x hx=>h x (List.mem_of_mem_take hx)
theorem okB.drop {a:Xc} (h:okB a) (n:Nat):okB (a.drop n):=fun x hx=>h x (List.mem_of_mem_drop hx)
theorem okB.at {a:Xc} (h:okB a) (i:Nat):0<=a[i]?.getD 0∧a[i]?.getD 0<=255:=by
 by_cases hi:i<a.length
 ·rw [List.getElem?_eq_getElem hi];exact h _ (List.getElem_mem hi)
 ·rw [List.getElem?_eq_none (by omega)];decide
theorem okB.one {x:Int} (h0:0<=x) (h1:x<=255):okB [x]:=fun y hy=>by simp at hy;subst hy;exact⟨h0,h1⟩
theorem zaP (l:Xc):(vals l).length=l.length:=by simp [vals]
theorem zcE (a b:Xc):vals (a++b)=vals a++vals b:=by simp [vals]
theorem zjU (l:Xc):∀u∈vals l,u.oneCell'=true:=ints_oneCell _ _
theorem zdz {l:Xc} {i:Nat} (h:i<l.length):(vals l)[i]? = some (.int .u8 (l.getD i 0)):=by simp [vals,h]
theorem Own.lt {w:Xg} {base:Nat} {v:Xh} {l:Xc} (h:Own w base v l):∀k,v.ownBlock=some k->base<=k∧k<w.heap.size:=h.2.lt
theorem Own.mono {w:Xg} {base base':Nat} {v:Xh} {l:Xc} (h:Own w base v l) (hb:base'<=base):Own w base' v l:=by
 refine⟨h.1,h.2.1,?_⟩
 rcases h.2.2 with h' | ⟨g,cap,cur,h1,h2,h3⟩
 ·exact .inl h'
 ·exact .inr ⟨g,cap,cur,h1,by omega,h3⟩
theorem Own.byt {w:Xg} {base:Nat} {v:Xh} {l:Xc} (h:Own w base v l):Byt w v l:=by
 obtain⟨Fa,Ba,Da⟩:=h
 have hl:=Ba
 rcases Da with ⟨rfl,h0⟩ | ⟨g,cap,Ha,rfl,hb,hg,Ga,Ca,Ia,Aa⟩
 ·exact⟨Fa,by omega,.inl ⟨rfl,List.eq_nil_of_length_eq_zero h0⟩⟩
 ·refine⟨Fa,by omega,.inr ?_⟩
  by_cases h0:l=[]
  ·subst h0;exact .inl ⟨_,cap,rfl,Ca,rfl⟩
  ·refine .inr ⟨g,0,cap,rfl,Ga,Ca,h0,?_,fun i hi=> ?_⟩
   ·by_cases hlt:g<w.heap.size
    ·exact hlt
    ·rw [Array.getElem?_eq_none (by omega)]at hg;cases hg
   ·have:=World.ownsRow.cellAt (w:=w) (base:=base) (e:=5) (size:=1) (g:=g) (n:=l.length) (cap:=cap) (xs:=vals l) ⟨Ba,.inr ⟨g,cap,Ha,rfl,hb,hg,Ga,Ca,Ia,Aa⟩⟩ i (by omega)
    rw [zdz hi]at this
    simpa using this
theorem Byt.shape {w:Xg} {v:Xh} {l:Xc} (h:Byt w v l):∃a cap,v=.slice a l.length cap∧l.length<=cap∧cap<=maxLen:=by
 obtain⟨_,hm,⟨rfl,rfl⟩ | ⟨x,cap,rfl,hc,rfl⟩ | ⟨b,Aa,cap,rfl,h1,h2,_⟩⟩:=h
 ·exact⟨none,0,rfl,Nat.le_refl _,hm⟩
 ·exact⟨some x,cap,rfl,Nat.zero_le _,hc⟩
 ·exact⟨_,cap,rfl,h1,h2⟩
theorem Byt.keep {w w':Xg} {v:Xh} {l:Xc} (h:Byt w v l) (hb:Below w.heap.size w w'):Byt w' v l:=by
 obtain⟨Aa,hm,h1 | h2 | ⟨b,Ba,Ca,rfl,h1,h2,h3,h4,h5⟩⟩:=h
 ·exact⟨Aa,hm,.inl h1⟩
 ·exact⟨Aa,hm,.inr (.inl h2)⟩
 ·exact⟨Aa,hm,.inr (.inr ⟨b,Ba,Ca,rfl,h1,h2,h3,Nat.lt_of_lt_of_le h4 hb.size,fun i hi=>by rw [hb.cell (p:=⟨b,Ba+i,none⟩) h4];exact h5 i hi⟩)⟩
theorem Own.keep {w w':Xg} {base:Nat} {v:Xh} {l:Xc} (h:Own w base v l) (hb:Below w.heap.size w w'):Own w' base v l:=
 ⟨h.1,h.2.kept (row:=none) ⟨hb.os,hb.tape,hb.output,hb.size,fun k hk _=>hb.block k hk⟩ (by cases hv:v.ownBlock<;>simp)⟩
theorem Own.keepBy {w w':Xg} {base:Nat} {v:Xh} {l:Xc} {row:Option Nat} (h:Own w base v l) (hg:w.grownBy w' row) (hne:v.ownBlock=none∨v.ownBlock≠row):Own w' base v l:=
 ⟨h.1,h.2.kept hg hne⟩
theorem Below.ofGrown {w w':Xg} (h:w.grownBy w' none):Below w.heap.size w w':=⟨h.os,h.tape,h.output,h.size,fun k hk=>h.block k hk (by simp)⟩
theorem Below.toGrown {w w':Xg} (h:Below w.heap.size w w') (row:Option Nat):w.grownBy w' row:=⟨h.os,h.tape,h.output,h.size,fun k hk _=>h.block k hk⟩
theorem zar {a b c:Xg} (h:Below a.heap.size a b) (k:Below b.heap.size b c):Below a.heap.size a c:=h.trans (k.mono h.size)
theorem zbo {a b c:Xg} {row:Option Nat} (h:Below a.heap.size a b) (k:b.grownBy c row) (hr:∀g,row=some g->a.heap.size<=g):Below a.heap.size a c:=h.grown k h.size hr
theorem zam {a b c:Xg} {row:Option Nat} (h:a.grownBy b row) (k:b.grownBy c row):a.grownBy c row:=
 ⟨k.os.trans h.os,k.tape.trans h.tape,k.output.trans h.output,Nat.le_trans h.size k.size,fun i hi Aa=>(k.block i (Nat.lt_of_lt_of_le hi h.size) Aa).trans (h.block i hi Aa)⟩
theorem zbd (b off i:Nat):(⟨b,off,none⟩:Addr).add i=⟨b,off+i,none⟩:=by
 unfold Addr.add
 by_cases h:i=0<;>simp [h]
theorem zaM {w:Xg} {a:Addr} {v:Xh} (h:w.cell? a=some v):a.block<w.heap.size:=by
 by_cases hlt:a.block<w.heap.size
 ·exact hlt
 ·unfold World.cell? at h
  rw [Array.getElem?_eq_none (by omega)]at h
  cases h
theorem zlj {w:Xg} {a:Xe} {len cap:Nat} {zs:Xc}
  (h:(a=none∧len=0∧cap=0∧zs=[])∨∃x,a=some x∧len<=cap∧cap<=maxLen∧zs.length=cap∧(∀i,i<zs.length->w.cell? (x.add i)=some (.int .u8 (zs.getD i 0)))∧∀n∈zs,(Lit.int .u8 n).wf=true) :
  Byt w (.slice a len cap) (zs.take len):=by
 rcases h with ⟨rfl,rfl,rfl,rfl⟩ | ⟨x,rfl,hl,hm,hz,Aa,Ha⟩
 ·exact⟨zaE,by simp [maxLen],.inl ⟨rfl,rfl⟩⟩
 ·have Fa:okB (zs.take len):=fun n hn=>bounds_u8 (Ha n (List.mem_of_mem_take hn))
  have Ba:(zs.take len).length=len:=by simp;omega
  by_cases h0:len=0
  ·subst h0
   exact⟨Fa,by simp [maxLen],.inr (.inl ⟨x,cap,rfl,hm,by simp⟩)⟩
  ·obtain⟨b,Ia,Da⟩:=x
   have hc:=Aa 0 (by omega)
   have Ca:Da=none:=by simpa [Addr.add]using World.cell?_spot hc
   subst Ca
   refine⟨Fa,by omega,.inr (.inr ⟨b,Ia,cap,by rw [Ba],by omega,hm,?_,?_,fun i hi=> ?_⟩)⟩
   ·intro e;rw [e]at Ba;simp at Ba;omega
   ·have:=zaM hc;simpa [Addr.add]using this
   ·have Ga:=Aa i (by omega)
    rw [List.getD_eq_getElem?_getD,List.getElem?_take,if_pos (by omega),<-List.getD_eq_getElem?_getD]
    rw [zbd]at Ga
    exact Ga
theorem Tryz.info5:(Tryz.prog.info? 5).map (fun i=>(i.zero,i.size,i.bytes))=some (some (.int .u8 0),1,1):=by kernel_rfl
structure Nd (α:Type) where
 kind:Int
 name:Xc
 text:Xc
 attrs:List (Xc×Xc)
 kids:List α
def Tr:Nat->Type
 | 0=>Empty
 | n+1=>Nd (Tr n)
def Elems {α:Type} (w:Xg) (size:Nat) (v:Xh) (l:List α) (R:Xf->α->Prop):Prop:=
 l.length<=maxLen∧
 ((v=.slice none 0 0∧l=[])∨
  (∃x cap,v=.slice (some x) 0 cap∧cap<=maxLen∧l=[])∨
  (∃b off cap,v=.slice (some ⟨b,off,none⟩) l.length cap∧l.length<=cap∧cap<=maxLen∧l≠[]∧b<w.heap.size∧
   ∀i (hi:i<l.length),∃C:Xf,C.length=size∧(∀j,j<size->w.cell? ⟨b,off+i*size+j,none⟩=C[j]?)∧R C l[i]))
theorem Elems.shape {α:Type} {w:Xg} {size:Nat} {v:Xh} {l:List α} {R:Xf->α->Prop} (h:Elems w size v l R):∃a cap,v=.slice a l.length cap∧l.length<=cap∧cap<=maxLen:=by
 obtain⟨hm,⟨rfl,rfl⟩ | ⟨x,cap,rfl,hc,rfl⟩ | ⟨b,Aa,cap,rfl,h1,h2,_⟩⟩:=h
 ·exact⟨none,0,rfl,Nat.le_refl _,hm⟩
 ·exact⟨some x,cap,rfl,Nat.zero_le _,hc⟩
 ·exact⟨_,cap,rfl,h1,h2⟩
theorem Elems.keep {α:Type} {w w':Xg} {size:Nat} {v:Xh} {l:List α} {R R':Xf->α->Prop} (h:Elems w size v l R) (hb:Below w.heap.size w w') (hR:∀C x,x∈l->R C x->R' C x):Elems w' size v l R':=by
 obtain⟨hm,h1 | h2 | ⟨b,Aa,Ba,rfl,h1,h2,h3,h4,h5⟩⟩:=h
 ·exact⟨hm,.inl h1⟩
 ·exact⟨hm,.inr (.inl h2)⟩
 ·refine⟨hm,.inr (.inr ⟨b,Aa,Ba,rfl,h1,h2,h3,Nat.lt_of_lt_of_le h4 hb.size,fun i hi=> ?_⟩)⟩
  obtain⟨C,hC,hc,hr⟩:=h5 i hi
  exact⟨C,hC,fun j hj=>(hb.cell (p:=⟨b,Aa+i*size+j,none⟩) h4).trans (hc j hj),hR C _ (List.getElem_mem hi) hr⟩
theorem zre {α:Type} {w:Xg} {b off k:Nat} {x:α} {R:Xf->α->Prop} (h:∃C:Xf,C.length=5∧(∀j,j<5->w.cell? ⟨b,off+k*5+j,none⟩=C[j]?)∧R C x) :
  ∃c0 c1 c2 c3 c4,w.cell? ⟨b,off+k*5,none⟩=some c0∧w.cell? ⟨b,off+k*5+1,none⟩=some c1∧w.cell? ⟨b,off+k*5+2,none⟩=some c2∧w.cell? ⟨b,off+k*5+3,none⟩=some c3∧w.cell? ⟨b,off+k*5+4,none⟩=some c4∧R [c0,c1,c2,c3,c4] x:=by
 obtain⟨C,hC,Aa,hr⟩:=h
 match C,hC with
 | [c0,c1,c2,c3,c4],_=>exact⟨c0,c1,c2,c3,c4,Aa 0 (by omega),Aa 1 (by omega),Aa 2 (by omega),Aa 3 (by omega),Aa 4 (by omega),hr⟩
theorem zuV {α:Type} {w:Xg} {b off k:Nat} {x:α} {R:Xf->α->Prop} (h:∃C:Xf,C.length=2∧(∀j,j<2->w.cell? ⟨b,off+k*2+j,none⟩=C[j]?)∧R C x) :
  ∃c0 c1,w.cell? ⟨b,off+k*2,none⟩=some c0∧w.cell? ⟨b,off+k*2+1,none⟩=some c1∧R [c0,c1] x:=by
 obtain⟨C,hC,Aa,hr⟩:=h
 match C,hC with
 | [c0,c1],_=>exact⟨c0,c1,Aa 0 (by omega),Aa 1 (by omega),hr⟩
def zzH (w:Xg) (C:Xf) (x:Xc×Xc):Prop:=∃a b,C=[a,b]∧Byt w a x.1∧Byt w b x.2
def RdAttrs (w:Xg) (v:Xh) (l:List (Xc×Xc)):Prop:=Elems w 2 v l (zzH w)
def RdNode:(n:Nat)->Xg->Xf->Tr n->Prop
 | 0=>fun _ _ _=>False
 | n+1=>fun w C t=>∃a b c d,C=[.int .i64 t.kind,a,b,c,d]∧-9223372036854775808<=t.kind∧t.kind<=9223372036854775807∧Byt w a t.name∧Byt w b t.text∧RdAttrs w c t.attrs∧Elems w 5 d t.kids (RdNode n w)
theorem RdAttrs.keep {w w':Xg} {v:Xh} {l:List (Xc×Xc)} (h:RdAttrs w v l) (hb:Below w.heap.size w w'):RdAttrs w' v l:=
 Elems.keep h hb (fun C x _ ⟨a,b,e,h1,h2⟩=>⟨a,b,e,h1.keep hb,h2.keep hb⟩)
theorem RdNode.keep {n:Nat} {w w':Xg} {C:Xf} {t:Tr n} (h:RdNode n w C t) (hb:Below w.heap.size w w'):RdNode n w' C t:=by
 induction n generalizing C with
 | zero=>exact h
 | succ n ih=>
  obtain⟨a,b,c,d,e,k1,k2,h1,h2,h3,h4⟩:=h
  exact⟨a,b,c,d,e,k1,k2,h1.keep hb,h2.keep hb,h3.keep hb,Elems.keep h4 hb (fun C x _ hr=>ih hr)⟩
def szA (l:List (Xc×Xc)):Nat:=l.length+(l.map fun x=>x.1.length+x.2.length).sum
def szT:(n:Nat)->Tr n->Nat
 | 0=>fun _=>0
 | n+1=>fun t=>t.name.length+t.text.length+szA t.attrs+(t.kids.length+(t.kids.map (szT n)).sum)
def FB (v:Xh):Xd:=v.ownBlock.toList
structure Frm (w w':Xg) (S:Xd):Prop where
 os:w'.os=w.os
 tape:w'.tape=w.tape
 output:w'.output=w.output
 size:w.heap.size<=w'.heap.size
 block:∀k,k<w.heap.size->k∉S->w'.heap[k]? = w.heap[k]?
theorem Frm.refl (w:Xg) (S:Xd):Frm w w S:=⟨rfl,rfl,rfl,Nat.le_refl _,fun _ _ _=>rfl⟩
theorem Frm.trans {a b c:Xg} {S:Xd} (h:Frm a b S) (k:Frm b c S):Frm a c S:=
 ⟨k.os.trans h.os,k.tape.trans h.tape,k.output.trans h.output,Nat.le_trans h.size k.size,fun i hi hn=>(k.block i (Nat.lt_of_lt_of_le hi h.size) hn).trans (h.block i hi hn)⟩
theorem Frm.mono {a b:Xg} {S S':Xd} (h:Frm a b S) (hs:∀g∈S,g∈S'):Frm a b S':=⟨h.os,h.tape,h.output,h.size,fun i hi hn=>h.block i hi (fun e=>hn (hs i e))⟩
theorem Frm.ofBelow {a b:Xg} (h:Below a.heap.size a b) (S:Xd):Frm a b S:=⟨h.os,h.tape,h.output,h.size,fun i hi _=>h.block i hi⟩
theorem Frm.ofGrown {a b:Xg} {row:Option Nat} (h:a.grownBy b row):Frm a b row.toList:=⟨h.os,h.tape,h.output,h.size,fun i hi hn=>h.block i hi (fun e=>hn (by rw [<-e];simp))⟩
theorem Frm.below {a b:Xg} {S:Xd} {B:Nat} (h:Frm a b S) (hB:B<=a.heap.size) (hs:∀g∈S,B<=g):Below B a b:=⟨h.os,h.tape,h.output,h.size,fun i hi=>h.block i (by omega) (fun e=>by have:=hs i e;omega)⟩
theorem Frm.new {a b c:Xg} {S S':Xd} (h:Frm a b S) (k:Frm b c S') (hs:∀g∈S',a.heap.size<=g):Frm a c S:=
 ⟨k.os.trans h.os,k.tape.trans h.tape,k.output.trans h.output,Nat.le_trans h.size k.size,fun i hi hn=>(k.block i (Nat.lt_of_lt_of_le hi h.size) (fun e=>by have:=hs i e;omega)).trans (h.block i hi hn)⟩
theorem zbC {w w':Xg} {base:Nat} {e:Xi} {size:Nat} {v:Xh} {n:Nat} {xs:Xf} {S:Xd} (h:w.ownsRow base e size v n xs) (f:Frm w w' S) (hd:∀g∈FB v,g∉S):w'.ownsRow base e size v n xs:=by
 refine⟨h.1,?_⟩
 rcases h.2 with h' | ⟨g,cap,cur,rfl,hb,hg,hr⟩
 ·exact .inl h'
 ·have Aa:g<w.heap.size:=by
   by_cases Aa:g<w.heap.size
   ·exact Aa
   ·rw [Array.getElem?_eq_none (by omega)]at hg;cases hg
  exact .inr ⟨g,cap,cur,rfl,hb,(f.block g Aa (hd g (by simp [FB,Value.ownBlock]))).trans hg,hr⟩
theorem Own.frm {w w':Xg} {base:Nat} {v:Xh} {l:Xc} {S:Xd} (h:Own w base v l) (f:Frm w w' S) (hd:∀g∈FB v,g∉S):Own w' base v l:=⟨h.1,zbC h.2 f hd⟩
theorem zfq {w:Xg} {base:Nat} {e:Xi} {size:Nat} {v:Xh} {n:Nat} {xs:Xf} (h:w.ownsRow base e size v n xs) (b:Nat) (hb:b<=base):w.ownsRow b e size v n xs:=by
 refine⟨h.1,?_⟩
 rcases h.2 with h' | ⟨g,cap,cur,e1,h1,h2⟩
 ·exact .inl h'
 ·exact .inr ⟨g,cap,cur,e1,by omega,h2⟩
def Rng (F:Xd) (lo hi:Nat):Prop:=∀g∈F,lo<=g∧g<hi
theorem Rng.mono {F:Xd} {lo hi lo' hi':Nat} (h:Rng F lo hi) (h1:lo'<=lo) (h2:hi<=hi'):Rng F lo' hi':=fun g hg=>by have:=h g hg;omega
theorem zbm (v:Xh):(FB v).Nodup:=by unfold FB;cases v.ownBlock<;>simp
theorem Own.rng {w:Xg} {base:Nat} {v:Xh} {l:Xc} (h:Own w base v l):Rng (FB v) base w.heap.size:=fun g hg=>h.lt g (by simpa [FB]using hg)
def Loc (w:Xg) (g:Nat) (cs:Array Xh) (T:Xi):Prop:=w.heap[g]? = some (.cells cs T (0,0))
theorem Loc.lt {w:Xg} {g:Nat} {cs:Array Xh} {T:Xi} (h:Loc w g cs T):g<w.heap.size:=by
 by_cases hlt:g<w.heap.size
 ·exact hlt
 ·unfold Loc at h;rw [Array.getElem?_eq_none (by omega)]at h;cases h
theorem Loc.cell {w:Xg} {g:Nat} {cs:Array Xh} {T:Xi} (h:Loc w g cs T) (j:Nat):w.cell? ⟨g,j,none⟩=cs[j]? :=cell_of_row w g j cs T (0,0) h
theorem Loc.frozen {w:Xg} {g:Nat} {cs:Array Xh} {T:Xi} (h:Loc w g cs T) (j:Nat):w.frozen? ⟨g,j,none⟩=false:=frozen_of_row w g j cs T h
theorem Loc.keep {w w':Xg} {g:Nat} {cs:Array Xh} {T:Xi} {B:Nat} (h:Loc w g cs T) (hb:Below B w w') (hB:g<B):Loc w' g cs T:=(hb.block g hB).trans h
theorem Loc.all {w w':Xg} {g:Nat} {cs:Array Xh} {T:Xi} (h:Loc w g cs T) (hb:Below w.heap.size w w'):Loc w' g cs T:=h.keep hb h.lt
theorem Loc.frm {w w':Xg} {g:Nat} {cs:Array Xh} {T:Xi} {S:Xd} (h:Loc w g cs T) (f:Frm w w' S) (hn:g∉S):Loc w' g cs T:=(f.block g h.lt hn).trans h
theorem Loc.set {w:Xg} {g:Nat} {cs:Array Xh} {T:Xi} (h:Loc w g cs T) (j:Nat) (v:Xh):Loc (w.setCell ⟨g,j,none⟩ v) g (cs.setIfInBounds j v) T:=heap_setCell_same w g j cs T v h
theorem Loc.other {w:Xg} {g:Nat} {cs:Array Xh} {T:Xi} (h:Loc w g cs T) (q j:Nat) (v:Xh) (hn:g≠q):Loc (w.setCell ⟨q,j,none⟩ v) g cs T:=(heap_setCell_other w ⟨q,j,none⟩ g v hn).trans h
theorem Loc.alloc {w:Xg} {g:Nat} {cs:Array Xh} {T:Xi} (h:Loc w g cs T) (o:Obj):Loc (w.alloc o) g cs T:=(heap_alloc_old w o h.lt).trans h
theorem Loc.made (w:Xg) (cs:Array Xh) (T:Xi):Loc (w.alloc (.cells cs T)) w.heap.size cs T:=heap_alloc_new w _
theorem zdZ (w:Xg) (g j:Nat) (v:Xh):Frm w (w.setCell ⟨g,j,none⟩ v) [g]:=
 ⟨rfl,rfl,rfl,by simp,fun k _ hk=>heap_setCell_other w ⟨g,j,none⟩ k v (fun e=>hk (by simp [e]))⟩
def OwElems {α:Type} (w:Xg) (e:Xi) (size:Nat) (v:Xh) (l:List α) (R:Xf->α->Xd->Prop) (F:Xd):Prop:=
 ∃(Cs:List (Xf)) (Fs:List (Xd)),Cs.length=l.length∧Fs.length=l.length∧(∀i (hi:i<l.length),(Cs.getD i []).length=size∧R (Cs.getD i []) l[i] (Fs.getD i []))∧
  w.ownsRow 0 e size v l.length Cs.flatten∧F=FB v++Fs.flatten
def OwAttr (w:Xg) (C:Xf) (x:Xc×Xc) (F:Xd):Prop:=∃a b,C=[a,b]∧Own w 0 a x.1∧Own w 0 b x.2∧F=FB a++FB b
def OwAttrs (w:Xg) (v:Xh) (l:List (Xc×Xc)) (F:Xd):Prop:=OwElems w 132 2 v l (OwAttr w) F
def zpO:(n:Nat)->Xg->Xf->Tr n->Xd->Prop
 | 0=>fun _ _ _ _=>False
 | n+1=>fun w C t F=>∃a b c d Fc Fd,C=[.int .i64 t.kind,a,b,c,d]∧-9223372036854775808<=t.kind∧t.kind<=9223372036854775807∧Own w 0 a t.name∧Own w 0 b t.text∧
   OwAttrs w c t.attrs Fc∧OwElems w 29 5 d t.kids (zpO n w) Fd∧F=FB a++FB b++Fc++Fd
def zzz (n:Nat) (w:Xg) (v:Xh) (l:List (Tr n)) (F:Xd):Prop:=OwElems w 29 5 v l (zpO n w) F
theorem zaO {Fs:List (Xd)} {i g:Nat} (h:g∈Fs.getD i []):g∈Fs.flatten:=by
 by_cases hi:i<Fs.length
 ·rw [List.getD_eq_getElem?_getD,List.getElem?_eq_getElem hi]at h
  exact List.mem_flatten.2 ⟨_,List.getElem_mem hi,h⟩
 ·rw [List.getD_eq_getElem?_getD,List.getElem?_eq_none (by omega)]at h;simp at h
theorem OwElems.frm {α:Type} {w w':Xg} {e:Xi} {size:Nat} {v:Xh} {l:List α} {R R':Xf->α->Xd->Prop} {F S:Xd} (h:OwElems w e size v l R F) (f:Frm w w' S) (hd:∀g∈F,g∉S)
  (hR:∀C x G,R C x G->(∀g∈G,g∉S)->R' C x G):OwElems w' e size v l R' F:=by
 obtain⟨Cs,Fs,h1,h2,h3,h4,rfl⟩:=h
 refine⟨Cs,Fs,h1,h2,fun i hi=>⟨(h3 i hi).1,hR _ _ _ (h3 i hi).2 (fun g hg=>hd g (List.mem_append_right _ (zaO hg)))⟩,zbC h4 f (fun g hg=>hd g (List.mem_append_left _ hg)),rfl⟩
theorem OwAttrs.frm {w w':Xg} {v:Xh} {l:List (Xc×Xc)} {F S:Xd} (h:OwAttrs w v l F) (f:Frm w w' S) (hd:∀g∈F,g∉S):OwAttrs w' v l F:=
 OwElems.frm h f hd (fun C x G ⟨a,b,e,h1,h2,h3⟩ hG=>by
  subst h3
  exact⟨a,b,e,h1.frm f (fun g hg=>hG g (by simp [hg])),h2.frm f (fun g hg=>hG g (by simp [hg])),rfl⟩)
theorem zlV (Cs:List (Xf)) (size:Nat) (h:∀i,i<Cs.length->(Cs.getD i []).length=size) (i j:Nat) (hi:i<Cs.length) (hj:j<size):Cs.flatten[i*size+j]? = (Cs.getD i [])[j]? :=by
 induction Cs generalizing i with
 | nil=>simp at hi
 | cons C Cs ih=>
  have h0:C.length=size:=by simpa using h 0 (by simp)
  cases i with
  | zero=>simp [List.getElem?_append,h0,hj]
  | succ i=>
   have e:(i+1)*size+j=C.length+(i*size+j):=by rw [h0,Nat.succ_mul];omega
   rw [List.flatten_cons,e,List.getElem?_append_right (by omega),Nat.add_sub_cancel_left]
   have:=ih (fun k hk=>by simpa using h (k+1) (by simpa using hk)) i (by simpa using hi)
   simpa using this
theorem OwElems.rd {α:Type} {w:Xg} {e:Xi} {size:Nat} {v:Xh} {l:List α} {R:Xf->α->Xd->Prop} {R':Xf->α->Prop} {F:Xd} (h:OwElems w e size v l R F) (hm:l.length<=maxLen)
  (hR:∀C x G,R C x G->R' C x):Elems w size v l R':=by
 obtain⟨Cs,Fs,h1,h2,h3,h4,rfl⟩:=h
 have Aa:=h4
 refine⟨hm,?_⟩
 rcases h4.2 with ⟨rfl,h0⟩ | ⟨g,Da,Ha,rfl,hb,hg,Ga,Ba,Ia,Ca⟩
 ·exact .inl ⟨rfl,List.eq_nil_of_length_eq_zero h0⟩
 ·by_cases h0:l=[]
  ·subst h0
   exact .inr (.inl ⟨_,Da,rfl,Ba,rfl⟩)
  ·refine .inr (.inr ⟨g,0,Da,rfl,Ga,Ba,h0,(Aa.lt g rfl).2,fun i hi=>⟨Cs.getD i [],(h3 i hi).1,fun j hj=> ?_,hR _ _ _ (h3 i hi).2⟩⟩)
   have Fa:i*size+j<l.length*size:=by
    have:(i+1)*size<=l.length*size:=Nat.mul_le_mul_right _ hi
    rw [Nat.succ_mul]at this;omega
   rw [Nat.zero_add,Aa.cellAt (i*size+j) Fa]
   exact zlV Cs size (fun k hk=>(h3 k (by omega)).1) i j (by omega) hj
theorem OwElems.len {α:Type} {w:Xg} {e:Xi} {size:Nat} {v:Xh} {l:List α} {R:Xf->α->Xd->Prop} {F:Xd} (h:OwElems w e size v l R F):l.length<=maxLen:=by
 obtain⟨Cs,Fs,h1,h2,h3,h4,rfl⟩:=h
 rcases h4.2 with ⟨_,h0⟩ | ⟨g,Da,Aa,rfl,hb,hg,Ca,Ba,_⟩
 ·rw [h0];exact Nat.zero_le _
 ·omega
theorem OwAttrs.rd {w:Xg} {v:Xh} {l:List (Xc×Xc)} {F:Xd} (h:OwAttrs w v l F):RdAttrs w v l:=OwElems.rd h (OwElems.len h) (fun C x G ⟨a,b,e,h1,h2,_⟩=>⟨a,b,e,h1.byt,h2.byt⟩)
set_option maxRecDepth 100000
def zaD:Obj:=.map #[{ key:=.string ⟨#[98,114]⟩,val:=.agg #[],born:=0 },{ key:=.string ⟨#[104,114]⟩,val:=.agg #[],born:=1 }] 2
theorem zns (W:Xg) (o o':Obj):({ (W.alloc o)with heap:=(W.alloc o).heap.setIfInBounds W.heap.size o' }:Xg)=W.alloc o':=by
 have e:(W.heap.push o).setIfInBounds W.heap.size o'=W.heap.push o':=by
  apply Array.ext'
  rw [Array.toList_setIfInBounds,Array.toList_push,Array.toList_push]
  rw [List.set_append_right _ _ (by simp)]
  simp
 show ({ W with heap:=(W.heap.push o).setIfInBounds W.heap.size o' }:Xg)={ W with heap:=W.heap.push o' }
 rw [e]
theorem zsK (W:Xg):(Instr.mapUpdate 80 (.map (some W.heap.size)) (.string ⟨#[98,114]⟩) (.agg #[])).run Tryz.prog (W.alloc (.map #[] 0))=.ok () (W.alloc (.map #[{ key:=.string ⟨#[98,114]⟩,val:=.agg #[],born:=0 }] 1)):=by
 rw [run_mapUpdate_first (P:=Tryz.prog) (W.alloc (.map #[] 0)) 80 9 68 W.heap.size 0 ⟨#[98,114]⟩ (.agg #[]) Tryz.underlying80 Tryz.underlying9 (heap_alloc_new W _),zns]
theorem zsR (W:Xg):(Instr.mapUpdate 80 (.map (some W.heap.size)) (.string ⟨#[104,114]⟩) (.agg #[])).run Tryz.prog (W.alloc (.map #[{ key:=.string ⟨#[98,114]⟩,val:=.agg #[],born:=0 }] 1))=.ok () (W.alloc zaD):=by
 have hb:=heap_alloc_new W (.map #[{ key:=.string ⟨#[98,114]⟩,val:=.agg #[],born:=0 }] 1)
 have hf:Instr.findNow .string (.string ⟨#[104,114]⟩) ([{ key:=.string ⟨#[98,114]⟩,val:=.agg #[],born:=0 }]:List MapEntry) 0=some none:=rfl
 have hc:(Instr.checkKey false 10000 9 (.string ⟨#[104,114]⟩)).run Tryz.prog (W.alloc (.map #[{ key:=.string ⟨#[98,114]⟩,val:=.agg #[],born:=0 }] 1))=.ok () (W.alloc (.map #[{ key:=.string ⟨#[98,114]⟩,val:=.agg #[],born:=0 }] 1)):=MapKept.run_checkKey (k:=.string ⟨#[104,114]⟩) Tryz.underlying9 (by simp [MapKept.IsKey]) false 9999
 simp [Instr.mapUpdate,run_underlying Tryz.underlying80,MapKept.run_getObj_map hb,hc,MapKept.run_findKey Tryz.underlying9 hf,MapKept.run_setObj_map _ hb,Result.andThen]
 exact zns W _ _
theorem zxi (g:Nat) (w:Xg) (cs:Array Xh) (hl:Loc w g cs 82) (c3:Xh) (h3:w.cell? ⟨g,3,none⟩=some c3) :
  Calls Tryz.prog 108 #[.pointer (some ⟨g,0,none⟩)] w fun e w'=>e=.returned (.tuple #[])∧w'=(w.setCell ⟨g,3,none⟩ (.map (some w.heap.size))).alloc zaD:=by
 have Aa:= @run_makeMap Tryz.prog
 have h1:=zsK w
 have h2:=zsR w
 have hg:=hl.lt
 have f3:=hl.frozen 3
 go_enter Tryz.func108,Tryz.ntmps108
 go_wp2
 go_end0
 exact⟨rfl,rfl⟩
theorem disable (w:Xg):(callFunc 235 #[]).run Tryz.prog w=.ok (.value (.tuple #[])) w:=run_call_mark0 Tryz.func235 (by kernel_rfl) (by kernel_rfl) (by kernel_rfl) .disable (by kernel_rfl) w
theorem enable (w:Xg):(callFunc 237 #[]).run Tryz.prog w=.ok (.value (.tuple #[])) w:=run_call_mark0 Tryz.func237 (by kernel_rfl) (by kernel_rfl) (by kernel_rfl) .enable (by kernel_rfl) w
theorem acquire (a:Addr) (w:Xg):(callFunc 238 #[.pointer (some a)]).run Tryz.prog w=.ok (.value (.tuple #[])) w:=run_call_marked Tryz.func238 (by kernel_rfl) (by kernel_rfl) (by kernel_rfl) .acquire (by kernel_rfl) a w
theorem releaseMerge (a:Addr) (w:Xg):(callFunc 240 #[.pointer (some a)]).run Tryz.prog w=.ok (.value (.tuple #[])) w:=run_call_marked Tryz.func240 (by kernel_rfl) (by kernel_rfl) (by kernel_rfl) .releaseMerge (by kernel_rfl) a w
theorem zdT (a:Addr) (x:Xh) (u:FrameMode) (w:Xg) (hc:w.cell? a=some x) (hz:w.frozen? a=false) :
  CallsD Tryz.prog 180 #[.pointer (some a),.bool true] u w fun e u' w'=>u'=u∧(e=.returned (.tuple #[])∧w'=w.drew.setCell a (.int .u32 1)):=by
 have Aa:w.drew.cell? a=some x:=by go_simp
 have Ba:w.drew.frozen? a=false:=by go_simp
 have Ca:=run_call_store (P:=Tryz.prog) Tryz.func202 (by kernel_rfl) (by kernel_rfl) (by kernel_rfl) (by kernel_rfl) (k:=.u32) (y:=1) Aa Ba
 go_enter_d Tryz.func180,Tryz.ntmps180
 go_wp2
 go_region_calls
 all_goals (go_end0;exact⟨rfl,rfl⟩)
theorem zdR (a:Addr) (u:FrameMode) (w:Xg) (hc:w.cell? a=some (.int .i32 1)) (hz:w.frozen? a=false) :
  CallsD Tryz.prog 179 #[.pointer (some a)] u w fun e u' w'=>u'=u∧(e=.returned (.tuple #[])∧w'=w.setCell a (.int .i32 0)):=by
 have hd:=disable
 have he:=enable
 have hr:=releaseMerge
 have Aa:=run_call_add (P:=Tryz.prog) Tryz.func241 (by kernel_rfl) (by kernel_rfl) (by kernel_rfl) .i32 (by kernel_rfl) (y:= -1) (s:=0) hc hz (by simp [go_sem];rfl)
 have Ba:=run_convert_to_unsafe (P:=Tryz.prog) (src:=301) (dst:=274) Tryz.underlying301 Tryz.underlying274 (by kernel_rfl) hc
 go_enter_d Tryz.func179,Tryz.ntmps179
 go_wp2
 go_end0
 go_wp2
 go_end0
 exact⟨rfl,rfl⟩
theorem zhF (a:Addr) (w:Xg) (hc:w.cell? a=some (.int .i32 0)) (hz:w.frozen? a=false) :
  Calls Tryz.prog 178 #[.pointer (some a)] w fun e w'=>e=.returned (.tuple #[])∧w'=w.setCell a (.int .i32 1):=by
 have hd:=disable
 have he:=enable
 have ha:=acquire
 have Ba:=run_call_cas_hit (P:=Tryz.prog) Tryz.func236 (by kernel_rfl) (by kernel_rfl) (by kernel_rfl) .i32 (by kernel_rfl) (y:=1) hc hz
 have Aa:(w.setCell a (.int .i32 1)).cell? a=some (.int .i32 1):=World.cell?_setCell_same w a _ hc
 have Ca:=run_convert_to_unsafe (P:=Tryz.prog) (src:=301) (dst:=274) Tryz.underlying301 Tryz.underlying274 (by kernel_rfl) Aa
 go_enter Tryz.func178,Tryz.ntmps178
 go_wp2
 first | go_end0 | (simp only [Exit.inBlock,Exit.then];refine bodyPost_ret (results_none rfl _ _ _) rfl ?_) | refine bodyPost_ret (results_none rfl _ _ _) rfl ?_
 go_wp2
 go_end0
 exact⟨rfl,rfl⟩
def zfG (f:Nat->Int->Prop) (l:Xc) (k:Nat):Prop:=∀i,i<k->f i (l.getD i 0)
theorem zhk {f:Nat->Int->Prop} {l:Xc} {k:Nat} (h:zfG f l k) (h1:f k (l.getD k 0)):zfG f l (k+1):=fun i hi=>by
 by_cases e:i=k
 ·subst e;exact h1
 ·exact h i (by omega)
def zez (i:Nat) (x:Int):Prop:=(97<=x∧x<=122)∨(0<i∧48<=x∧x<=57)
def zaw (l:Xc):Prop:=1<=l.length∧l.length<=8∧zfG zez l l.length
def zfz (_:Nat) (x:Int):Prop:=32<=x∧x<=126
def zaB (l:Xc):Prop:=l.length<=30∧zfG zfz l l.length
def allB (f:Nat->Int->Bool) (l:Xc):Bool:=(List.range l.length).all fun i=>f i (l.getD i 0)
theorem zpM {f:Nat->Int->Bool} {p:Nat->Int->Prop} (h:∀i x,f i x=true↔p i x) (l:Xc):allB f l=true↔zfG p l l.length:=by
 unfold allB zfG
 rw [List.all_eq_true]
 constructor
 ·intro k i hi;exact (h _ _).1 (k i (List.mem_range.2 hi))
 ·intro k i hi;exact (h _ _).2 (k i (List.mem_range.1 hi))
def zaC (l:Xc):Bool:=decide (1<=l.length) && decide (l.length<=8) && allB (fun i x=>decide (97<=x∧x<=122) || decide (0<i∧48<=x∧x<=57)) l
theorem zbt (l:Xc):zaC l=true↔zaw l:=by
 unfold zaC zaw
 rw [Bool.and_eq_true,Bool.and_eq_true,decide_eq_true_eq,decide_eq_true_eq,zpM (p:=zez) (fun i x=>by unfold zez;rw [Bool.or_eq_true,decide_eq_true_eq,decide_eq_true_eq]),and_assoc]
def zod (l:Xc):Bool:=decide (l.length<=30) && allB (fun _ x=>decide (32<=x∧x<=126)) l
theorem znu (l:Xc):zod l=true↔zaB l:=by
 unfold zod zaB
 rw [Bool.and_eq_true,decide_eq_true_eq,zpM (p:=zfz) (fun i x=>by unfold zfz;rw [decide_eq_true_eq])]
def str (l:Xc):ByteArray:=l.foldl (fun r n=>r.push (UInt8.ofNat n.toNat)) ByteArray.empty
theorem zzC (l:Xc) (s:ByteArray):(l.foldl (fun r n=>r.push (UInt8.ofNat n.toNat)) s).data.toList=s.data.toList++l.map (fun n=>UInt8.ofNat n.toNat):=by
 induction l generalizing s with
 | nil=>simp
 | cons x l ih=>rw [List.foldl_cons,ih];simp [ByteArray.push]
theorem zbW (l:Xc):(str l).data.toList=l.map (fun n=>UInt8.ofNat n.toNat):=by
 unfold str;rw [zzC];rfl
theorem zbD (s:ByteArray):s.toList=s.data.toList:=Go.ByteArray.toList_eq s
theorem zrx {a b:Xc} (ha:okB a) (hb:okB b) (h:(str a).toList=(str b).toList):a=b:=by
 rw [zbD,zbD,zbW,zbW]at h
 have hg:∀l:Xc,okB l->(l.map (fun n=>UInt8.ofNat n.toNat)).map (fun u=>(u.toNat:Int))=l:=by
  intro l hl
  induction l with
  | nil=>rfl
  | cons x l ih=>
   have hx:=hl x (by simp)
   have e:((UInt8.ofNat x.toNat).toNat:Int)=x:=by
    rw [UInt8.toNat_ofNat'];omega
   rw [List.map_cons,List.map_cons,ih (fun y hy=>hl y (by simp [hy])),e]
 rw [<-hg a ha,<-hg b hb,h]
theorem zmp {a b:Xc} (ha:okB a) (hb:okB b):((str a).toList == (str b).toList)=decide (a=b):=by
 by_cases h:a=b
 ·subst h;simp
 ·have:¬ (str a).toList=(str b).toList:=fun e=>h (zrx ha hb e)
  rw [decide_eq_false h,beq_eq_false_iff_ne];exact this
theorem zbn (w:Xg) (u:Xh) (a:Xc) (hu:Byt w u a):(convert 22 9 u).run Tryz.prog w=.ok (.string (str a)) w:=by
 have Aa:∀(x:Addr) (c:Nat),(∀j,j<a.length->w.cell? (x.add j)=some (.int .u8 (a.getD j 0)))->(convert 22 9 (.slice (some x) a.length c)).run Tryz.prog w=.ok (.string (str a)) w:=by
  intro x c hc
  rw [run_convert_bytes_string w 22 9 5 (some x) a.length c Tryz.underlying22 Tryz.underlying5 Tryz.underlying9]
  refine run_bytesToString w x a.length c a ?_
  have h:=run_loadCells_list (P:=Tryz.prog) (w:=w) x (vals a) (fun j v hj=>by
   have Ba:j<a.length:=by
    by_cases Ba:j<a.length
    ·exact Ba
    ·rw [List.getElem?_eq_none (by rw [zaP];omega)]at hj;cases hj
   rw [zdz Ba]at hj
   rw [hc j Ba];exact hj)
  rw [zaP]at h
  exact h
 obtain⟨Da,_,⟨rfl,rfl⟩ | ⟨x,Ca,rfl,hc,rfl⟩ | ⟨p,Fa,Ca,rfl,h1,h2,h3,h4,h5⟩⟩:=hu
 ·rw [run_convert_bytes_string w 22 9 5 none 0 0 Tryz.underlying22 Tryz.underlying5 Tryz.underlying9]
  simp [Conv.bytesToString,str]
 ·exact Aa x Ca (fun j hj=>by simp at hj)
 ·exact Aa _ Ca (fun j hj=>by rw [zbd];exact h5 j hj)
def Void (l:Xc):Prop:=l=[98,114]∨l=[104,114]
theorem zzr:(str [98,114]).toList=[98,114]:=by rw [zbD,zbW];rfl
theorem zzR:(str [104,114]).toList=[104,114]:=by rw [zbD,zbW];rfl
theorem zuz:okB [98,114]:=fun x hx=>by simp at hx;omega
theorem ztP:okB [104,114]:=fun x hx=>by simp at hx;omega
open Classical in
set_option maxHeartbeats 1600000 in
theorem znt (w:Xg) (v:Xh) (l:Xc) (h:Byt w v l) :
  Calls Tryz.prog 77 #[v] w fun e w'=>e=.returned (.bool (decide (Void l)))∧w'=w:=by
 have c1:=zbn w v l h
 have b1:((str l).toList == [98,114])=decide (l=[98,114]):=by rw [<-zzr];exact zmp h.1 zuz
 have b2:((str l).toList == [104,114])=decide (l=[104,114]):=by rw [<-zzR];exact zmp h.1 ztP
 obtain⟨a1,k1,rfl,_⟩:=h.shape
 generalize str l=s at *
 by_cases h1:l=[98,114]
 ·have HD:=hide (show decide (Void l)=true by simp [Void,h1])
  have d1:(s.toList == [98,114])=true:=by rw [b1];simp [h1]
  clear b1 b2 h1
  go_enter Tryz.func77,Tryz.ntmps77
  go_wp2
  go_ret
  exact⟨by rw [zaa HD];rfl,rfl⟩
 ·have d1:(s.toList == [98,114])=false:=by rw [b1];simp [h1]
  by_cases h2:l=[104,114]
  ·have HD:=hide (show decide (Void l)=true by simp [Void,h2])
   have d2:(s.toList == [104,114])=true:=by rw [b2];simp [h2]
   clear b1 b2 h1 h2
   go_enter Tryz.func77,Tryz.ntmps77
   go_wp2
   go_ret
   exact⟨by rw [zaa HD];rfl,rfl⟩
  ·have HD:=hide (show decide (Void l)=false by simp [Void,h1,h2])
   have d2:(s.toList == [104,114])=false:=by rw [b2];simp [h2]
   clear b1 b2 h1 h2
   go_enter Tryz.func77,Tryz.ntmps77
   go_wp2
   go_ret
   exact⟨by rw [zaa HD];rfl,rfl⟩
def ziU (a b:Xc):Bool:=Op.bytesLess (str a).toList (str b).toList
def zfB (l:List (Xc×Xc)) (i:Nat):Prop:=zaw (l.getD i ([],[])).1∧zaB (l.getD i ([],[])).2∧(0<i->ziU (l.getD (i-1) ([],[])).1 (l.getD i ([],[])).1=true)
def zbf (l:List (Xc×Xc)):Prop:=l.length<=4∧∀i,i<l.length->zfB l i
theorem zjN {p:Nat->Prop} {k:Nat} (h:∀i,i<k->p i) (h1:p k) (i:Nat) (hi:i<k+1):p i:=by
 by_cases e:i=k
 ·subst e;exact h1
 ·exact h i (by omega)
def vs0:Array Xh:= #[.int .u32 0,.int .i32 0,.int .u32 0,.map none]
def vs1 (m:Nat):Array Xh:= #[.int .u32 1,.int .i32 0,.int .u32 0,.map (some m)]
theorem zch (a:Addr) (x:Int) (w:Xg) (hc:w.cell? a=some (.int .u32 x)) (b:Bool) (hb:(x != 0)=b) :
  Calls Tryz.prog 148 #[.pointer (some a)] w fun e w'=>e=.returned (.bool b)∧w'=w:=by
 have Aa:=run_call_load (P:=Tryz.prog) Tryz.func177 (by kernel_rfl) (by kernel_rfl) (by kernel_rfl) .u32 (by kernel_rfl) hc
 go_enter Tryz.func148,Tryz.ntmps148
 go_wp2
 go_ret
 exact⟨rfl,rfl⟩
theorem Frm.drew (w:Xg) (S:Xd):Frm w w.drew S:=Frm.ofBelow ((Below.refl _ _).drew) S
theorem ztj (w:Xg) (a:Addr) (v:Xh):(w.setCell a v).os=w.os:=by unfold World.setCell;repeat (first | rfl | split)
theorem zpx (w:Xg) (a:Addr) (v:Xh):(w.setCell a v).tape=w.tape:=by unfold World.setCell;repeat (first | rfl | split)
theorem zlQ (w:Xg) (a:Addr) (v:Xh):(w.setCell a v).output=w.output:=by unfold World.setCell;repeat (first | rfl | split)
theorem Frm.set (w:Xg) (g j:Nat) (v:Xh):Frm w (w.setCell ⟨g,j,none⟩ v) [g]:=
 ⟨ztj w _ v,zpx w _ v,zlQ w _ v,by simp,fun i _ hn=>heap_setCell_other w ⟨g,j,none⟩ i v (fun e=>hn (by simp;exact e))⟩
theorem Frm.alloc (w:Xg) (o:Obj) (S:Xd):Frm w (w.alloc o) S:=Frm.ofBelow ((Below.refl _ _).alloc (Nat.le_refl _) _) S
set_option maxHeartbeats 1600000 in
theorem zwc (g:Nat) (w:Xg) (hl:Loc w g vs0 82) :
  Calls Tryz.prog 149 #[.pointer (some ⟨g,0,none⟩),.func (.func 108) #[.pointer (some ⟨g,0,none⟩)] #[]] w fun e w'=>e=.returned (.tuple #[])∧∃m,w.heap.size<=m∧Loc w' g (vs1 m) 82∧w'.heap[m]? = some zaD∧Frm w w' [g]:=by
 have h1:w.cell? ⟨g,1,none⟩=some (.int .i32 0):=hl.cell 1
 have f1:=hl.frozen 1
 have l1:Loc (w.setCell ⟨g,1,none⟩ (.int .i32 1)) g #[.int .u32 0,.int .i32 1,.int .u32 0,.map none] 82:=hl.set 1 (.int .i32 1)
 have F1:=Frm.set w g 1 (.int .i32 1)
 have Ia:∀(x:Bool) (w:Xg),(Op.unary .not (.bool x)).run Tryz.prog w=.ok (.bool (!x)) w:=fun _ _=>rfl
 go_enter_defers Tryz.func149,Tryz.ntmps149
 go_wp2_with (go_at_call 178;refine (zhF ⟨g,1,none⟩ _ (by go_simp) (by go_simp)).mono ?_;rintro e w' ⟨rfl,rfl⟩)
 generalize w.setCell ⟨g,1,none⟩ (.int .i32 1)=w1 at *
 refine (zch ⟨g,0,none⟩ 0 w1 (l1.cell 0) false (by simp)).mono ?_
 rintro e w1 ⟨rfl,rfl⟩
 go_wp2_with fail
 refine (zxi g w1 _ l1 _ (l1.cell 3)).mono ?_
 rintro e w2 ⟨rfl,Aa⟩
 have l2:Loc w2 g #[.int .u32 0,.int .i32 1,.int .u32 0,.map (some w1.heap.size)] 82:=by rw [Aa];exact (l1.set 3 (.map (some w1.heap.size))).alloc _
 have m2:w2.heap[w1.heap.size]? = some zaD:=by rw [Aa];have:=heap_alloc_new (w1.setCell ⟨g,3,none⟩ (.map (some w1.heap.size))) zaD;rwa [show (w1.setCell ⟨g,3,none⟩ (.map (some w1.heap.size))).heap.size=w1.heap.size by simp]at this
 have F2:Frm w1 w2 [g]:=by rw [Aa];exact (Frm.set w1 g 3 _).trans (Frm.alloc _ _ _)
 have Fa:w1.heap.size≠g:=by have:=l1.lt;omega
 have Ga:=F1.trans F2
 have Ha:=F1.size
 clear Aa
 generalize w1.heap.size=m at *
 go_wp2_with fail
 refine leaves_cons (f:=180) (args:= #[.pointer (some ⟨g,0,none⟩),.bool true]) (by simp) (by simp [go_sem]) ?_
 refine (zdT ⟨g,0,none⟩ (.int .u32 0) .returning _ (l2.cell 0) (l2.frozen 0)).mono ?_
 rintro e u' w3 ⟨rfl,rfl,Ba⟩
 have ld:Loc w2.drew g #[.int .u32 0,.int .i32 1,.int .u32 0,.map (some m)] 82:=l2.frm (Frm.drew w2 []) (by simp)
 have l3:Loc w3 g #[.int .u32 1,.int .i32 1,.int .u32 0,.map (some m)] 82:=by rw [Ba];exact ld.set 0 (.int .u32 1)
 have F3:Frm w2 w3 [g]:=by rw [Ba];exact (Frm.drew w2 _).trans (Frm.set _ g 0 _)
 clear Ba
 refine leaves_cons (f:=179) (args:= #[.pointer (some ⟨g,1,none⟩)]) (by simp [settle]) (by simp [go_sem]) ?_
 refine (zdR ⟨g,1,none⟩ _ _ (l3.cell 1) (l3.frozen 1)).mono ?_
 rintro e u' w4 ⟨rfl,rfl,Ca⟩
 have l4:Loc w4 g (vs1 m) 82:=by rw [Ca];exact l3.set 1 (.int .i32 0)
 have F4:Frm w3 w4 [g]:=by rw [Ca];exact Frm.set _ g 1 _
 have hm:m<w2.heap.size:=by
  by_cases h:m<w2.heap.size
  ·exact h
  ·rw [Array.getElem?_eq_none (by omega)]at m2;cases m2
 have Da:=F3.trans F4
 have m4:w4.heap[m]? = some zaD:=(Da.block m hm (by simpa using Fa)).trans m2
 simp [Leaves,settle,results,Tryz.results149]
 exact⟨m,Ha,l4,m4,Ga.trans Da⟩
def VMade (B:Nat) (w:Xg) (g:Nat):Prop:=∃m,B<=m∧Loc w g (vs1 m) 82∧w.heap[m]? = some zaD
def VSet (B:Nat) (w:Xg) (g:Nat):Prop:=Loc w g vs0 82∨VMade B w g
theorem zzW (B g:Nat) (w:Xg) (h:VSet B w g) (hB:B<=w.heap.size) :
  Calls Tryz.prog 107 #[.pointer (some ⟨g,0,none⟩),.func (.func 108) #[.pointer (some ⟨g,0,none⟩)] #[]] w fun e w'=>e=.returned (.tuple #[])∧VMade B w' g∧Frm w w' [g]:=by
 have Ba:∀(x:Bool) (w:Xg),(Op.unary .not (.bool x)).run Tryz.prog w=.ok (.bool (!x)) w:=fun _ _=>rfl
 rcases h with hl | ⟨m,Aa,hl,hm⟩
 ·have h0:w.cell? ⟨g,0,none⟩=some (.int .u32 0):=hl.cell 0
  go_enter Tryz.func107,Tryz.ntmps107
  go_wp2_with fail
  refine (zch ⟨g,0,none⟩ 0 w h0 false (by simp)).mono ?_
  rintro e w ⟨rfl,rfl⟩
  go_wp2_with fail
  refine (zwc g w hl).mono ?_
  rintro e w' ⟨rfl,m,Aa,l',m',F'⟩
  go_wp2_with fail
  go_end0
  exact⟨rfl,⟨m,Nat.le_trans hB Aa,l',m'⟩,F'⟩
 ·have h0:w.cell? ⟨g,0,none⟩=some (.int .u32 1):=hl.cell 0
  go_enter Tryz.func107,Tryz.ntmps107
  go_wp2_with fail
  refine (zch ⟨g,0,none⟩ 1 w h0 true (by simp)).mono ?_
  rintro e w ⟨rfl,rfl⟩
  go_wp2_with fail
  go_end0
  exact⟨rfl,⟨m,Aa,hl,hm⟩,Frm.refl _ _⟩
def zjb (s:ByteArray):Bool:=s == ⟨#[98,114]⟩ || s == ⟨#[104,114]⟩
theorem zdu (w:Xg) (m:Nat) (s:ByteArray) (hm:w.heap[m]? = some zaD) :
  (Instr.lookup 80 (.map (some m)) (.string s) true).run Tryz.prog w=.ok (.tuple #[.agg #[],.bool (zjb s)]) w:=by
 have hc:(Instr.checkKey false 10000 9 (.string s)).run Tryz.prog w=.ok () w:=MapKept.run_checkKey (k:=.string s) Tryz.underlying9 (by simp [MapKept.IsKey]) false 9999
 have hz:(zeroValue 68).run Tryz.prog w=.ok (.agg #[]) w:=by kernel_rfl
 have hb:w.heap[m]? = some (.map #[{ key:=.string ⟨#[98,114]⟩,val:=.agg #[],born:=0 },{ key:=.string ⟨#[104,114]⟩,val:=.agg #[],born:=1 }] 2):=hm
 by_cases h1:(s == ⟨#[98,114]⟩)=true
 ·have hf:Instr.findNow .string (.string s) ([{ key:=.string ⟨#[98,114]⟩,val:=.agg #[],born:=0 },{ key:=.string ⟨#[104,114]⟩,val:=.agg #[],born:=1 }]:List MapEntry) 0=some (some (0,.agg #[])):=by simp [Instr.findNow,Instr.sameNow,h1]
  simp [Instr.lookup,run_underlying Tryz.underlying80,MapKept.run_getObj_map hb,hc,MapKept.run_findKey Tryz.underlying9 hf,Result.andThen,zjb,h1]
 ·have Aa:(s == ⟨#[98,114]⟩)=false:=by simpa using h1
  by_cases h2:(s == ⟨#[104,114]⟩)=true
  ·have hf:Instr.findNow .string (.string s) ([{ key:=.string ⟨#[98,114]⟩,val:=.agg #[],born:=0 },{ key:=.string ⟨#[104,114]⟩,val:=.agg #[],born:=1 }]:List MapEntry) 0=some (some (1,.agg #[])):=by simp [Instr.findNow,Instr.sameNow,Aa,h2]
   simp [Instr.lookup,run_underlying Tryz.underlying80,MapKept.run_getObj_map hb,hc,MapKept.run_findKey Tryz.underlying9 hf,Result.andThen,zjb,Aa,h2]
  ·have Ba:(s == ⟨#[104,114]⟩)=false:=by simpa using h2
   have hf:Instr.findNow .string (.string s) ([{ key:=.string ⟨#[98,114]⟩,val:=.agg #[],born:=0 },{ key:=.string ⟨#[104,114]⟩,val:=.agg #[],born:=1 }]:List MapEntry) 0=some none:=by simp [Instr.findNow,Instr.sameNow,Aa,Ba]
   simp [Instr.lookup,run_underlying Tryz.underlying80,MapKept.run_getObj_map hb,hc,MapKept.run_findKey Tryz.underlying9 hf,hz,Result.andThen,zjb,Aa,Ba]
theorem zuJ (l:Xc) (b:ByteArray) (h:b.data.toList=l.map (fun n=>UInt8.ofNat n.toNat)):str l=b:=
 ByteArray.ext (Array.ext' (by rw [zbW,h]))
open Classical in
theorem zit (l:Xc) (hl:okB l):zjb (str l)=decide (Void l):=by
 have e1:(⟨#[98,114]⟩:ByteArray)=str [98,114]:=(zuJ _ _ rfl).symm
 have e2:(⟨#[104,114]⟩:ByteArray)=str [104,114]:=(zuJ _ _ rfl).symm
 have hb:∀k,okB k->(str l == str k)=decide (l=k):=fun k hk=>by
  by_cases h:l=k
  ·subst h;rw [(MapKept.bytes_beq _ _).2 rfl];simp
  ·rw [decide_eq_false h,<-Bool.not_eq_true,MapKept.bytes_beq]
   intro e
   exact h (zrx hl hk (by rw [e]))
 unfold zjb
 rw [e1,e2,hb _ zuz,hb _ ztP]
 unfold Void
 rw [Bool.eq_iff_iff]
 simp
open Classical in
set_option maxHeartbeats 1600000 in
theorem zyH (B g:Nat) (w:Xg) (v:Xh) (l:Xc) (h:VSet B w g) (hBB:B<=w.heap.size) (hv:∀w',Frm w w' [g]->Byt w' v l) :
  Calls Tryz.prog 60 #[.pointer (some ⟨g,0,none⟩),v] w fun e w'=>e=.returned (.bool (decide (Void l)))∧VMade B w' g∧Frm w w' [g]:=by
 have Da:∀(fn:Fn) (first cap:Array Xh) (w:Xg),(Instr.makeFunc fn first cap).run Tryz.prog w=.ok (.func fn first cap) w:=fun _ _ _ _=>rfl
 have hg:g<w.heap.size:=by
  rcases h with h | ⟨m,_,h,_⟩
  ·exact h.lt
  ·exact h.lt
 obtain⟨a1,k1,rfl,_⟩:=(hv w (Frm.refl _ _)).shape
 have HV:=hide hv
 clear hv
 go_enter Tryz.func60,Tryz.ntmps60
 go_wp2_with fail
 refine (zzW B g w h hBB).mono ?_
 rintro e w1 ⟨rfl,⟨m,Ca,l1,m1⟩,F1⟩
 have h3:w1.cell? ⟨g,3,none⟩=some (.map (some m)):=l1.cell 3
 have Ga:w1.drew.cell? ⟨g,3,none⟩=some (.map (some m)):=l1.cell 3
 have Fa:(w1.alloc (.cells #[] 68)).cell? ⟨g,3,none⟩=some (.map (some m)):=(l1.alloc _).cell 3
 have Ba:m<w1.heap.size:=by
  by_cases h:m<w1.heap.size
  ·exact h
  ·rw [Array.getElem?_eq_none (by omega)]at m1;cases m1
 have Aa:Byt w1 _ l:=zaa HV w1 F1
 have c1:=zbn w1.drew _ l (Aa.keep ((Below.refl _ _).drew))
 have c2:=zbn (w1.alloc (.cells #[] 68)).drew _ l (Aa.keep (((Below.refl _ _).alloc (Nat.le_refl _) _).drew))
 have q1:=fun s=>zdu w1.drew m s m1
 have q2:=fun s=>zdu (w1.alloc (.cells #[] 68)).drew m s ((heap_alloc_old w1 _ Ba).trans m1)
 have HS:=hide (zit l Aa.1)
 generalize str l=s at *
 generalize l.length=n at *
 go_wp2_with fail
 go_region
 all_goals
  go_wp2_with fail
  go_ret
  exact⟨by rw [<-zaa HS];rfl,⟨m,Ca,(l1.alloc _).all ((Below.refl _ _).drew),(heap_alloc_old w1 _ Ba).trans m1⟩,F1.trans ((Frm.alloc w1 _ _).trans (Frm.drew _ _))⟩
def ws0 (o:Xh):Array Xh:= #[o,.int .u32 0,.int .i32 0,.int .u32 0,.map none]
def ws1 (o:Xh) (m:Nat):Array Xh:= #[o,.int .u32 1,.int .i32 0,.int .u32 0,.map (some m)]
def zsq (B:Nat) (o:Xh) (w:Xg) (g:Nat):Prop:=∃m,B<=m∧Loc w g (ws1 o m) 86∧w.heap[m]? = some zaD
def WSet (B:Nat) (o:Xh) (w:Xg) (g:Nat):Prop:=Loc w g (ws0 o) 86∨zsq B o w g
theorem ztW (o:Xh) (g:Nat) (w:Xg) (cs:Array Xh) (hl:Loc w g cs 86) (c3:Xh) (h3:w.cell? ⟨g,4,none⟩=some c3) :
  Calls Tryz.prog 108 #[.pointer (some ⟨g,1,none⟩)] w fun e w'=>e=.returned (.tuple #[])∧w'=(w.setCell ⟨g,4,none⟩ (.map (some w.heap.size))).alloc zaD:=by
 have Aa:= @run_makeMap Tryz.prog
 have h1:=zsK w
 have h2:=zsR w
 have hg:=hl.lt
 have f3:=hl.frozen 4
 go_enter Tryz.func108,Tryz.ntmps108
 go_wp2
 go_end0
 exact⟨rfl,rfl⟩
set_option maxHeartbeats 1600000 in
theorem zuQ (o:Xh) (g:Nat) (w:Xg) (hl:Loc w g (ws0 o) 86) :
  Calls Tryz.prog 149 #[.pointer (some ⟨g,1,none⟩),.func (.func 108) #[.pointer (some ⟨g,1,none⟩)] #[]] w fun e w'=>e=.returned (.tuple #[])∧∃m,w.heap.size<=m∧Loc w' g (ws1 o m) 86∧w'.heap[m]? = some zaD∧Frm w w' [g]:=by
 have h1:w.cell? ⟨g,2,none⟩=some (.int .i32 0):=hl.cell 2
 have f1:=hl.frozen 2
 have l1:Loc (w.setCell ⟨g,2,none⟩ (.int .i32 1)) g #[o,.int .u32 0,.int .i32 1,.int .u32 0,.map none] 86:=hl.set 2 (.int .i32 1)
 have F1:=Frm.set w g 2 (.int .i32 1)
 have Ia:∀(x:Bool) (w:Xg),(Op.unary .not (.bool x)).run Tryz.prog w=.ok (.bool (!x)) w:=fun _ _=>rfl
 go_enter_defers Tryz.func149,Tryz.ntmps149
 go_wp2_with (go_at_call 178;refine (zhF ⟨g,2,none⟩ _ (by go_simp) (by go_simp)).mono ?_;rintro e w' ⟨rfl,rfl⟩)
 generalize w.setCell ⟨g,2,none⟩ (.int .i32 1)=w1 at *
 refine (zch ⟨g,1,none⟩ 0 w1 (l1.cell 1) false (by simp)).mono ?_
 rintro e w1 ⟨rfl,rfl⟩
 go_wp2_with fail
 refine (ztW o g w1 _ l1 _ (l1.cell 4)).mono ?_
 rintro e w2 ⟨rfl,Aa⟩
 have l2:Loc w2 g #[o,.int .u32 0,.int .i32 1,.int .u32 0,.map (some w1.heap.size)] 86:=by rw [Aa];exact (l1.set 4 (.map (some w1.heap.size))).alloc _
 have m2:w2.heap[w1.heap.size]? = some zaD:=by rw [Aa];have:=heap_alloc_new (w1.setCell ⟨g,4,none⟩ (.map (some w1.heap.size))) zaD;rwa [show (w1.setCell ⟨g,4,none⟩ (.map (some w1.heap.size))).heap.size=w1.heap.size by simp]at this
 have F2:Frm w1 w2 [g]:=by rw [Aa];exact (Frm.set w1 g 4 _).trans (Frm.alloc _ _ _)
 have Fa:w1.heap.size≠g:=by have:=l1.lt;omega
 have Ga:=F1.trans F2
 have Ha:=F1.size
 clear Aa
 generalize w1.heap.size=m at *
 go_wp2_with fail
 refine leaves_cons (f:=180) (args:= #[.pointer (some ⟨g,1,none⟩),.bool true]) (by simp) (by simp [go_sem]) ?_
 refine (zdT ⟨g,1,none⟩ (.int .u32 0) .returning _ (l2.cell 1) (l2.frozen 1)).mono ?_
 rintro e u' w3 ⟨rfl,rfl,Ba⟩
 have ld:Loc w2.drew g #[o,.int .u32 0,.int .i32 1,.int .u32 0,.map (some m)] 86:=l2.frm (Frm.drew w2 []) (by simp)
 have l3:Loc w3 g #[o,.int .u32 1,.int .i32 1,.int .u32 0,.map (some m)] 86:=by rw [Ba];exact ld.set 1 (.int .u32 1)
 have F3:Frm w2 w3 [g]:=by rw [Ba];exact (Frm.drew w2 _).trans (Frm.set _ g 1 _)
 clear Ba
 refine leaves_cons (f:=179) (args:= #[.pointer (some ⟨g,2,none⟩)]) (by simp [settle]) (by simp [go_sem]) ?_
 refine (zdR ⟨g,2,none⟩ _ _ (l3.cell 2) (l3.frozen 2)).mono ?_
 rintro e u' w4 ⟨rfl,rfl,Ca⟩
 have l4:Loc w4 g (ws1 o m) 86:=by rw [Ca];exact l3.set 2 (.int .i32 0)
 have F4:Frm w3 w4 [g]:=by rw [Ca];exact Frm.set _ g 2 _
 have hm:m<w2.heap.size:=by
  by_cases h:m<w2.heap.size
  ·exact h
  ·rw [Array.getElem?_eq_none (by omega)]at m2;cases m2
 have Da:=F3.trans F4
 have m4:w4.heap[m]? = some zaD:=(Da.block m hm (by simpa using Fa)).trans m2
 simp [Leaves,settle,results,Tryz.results149]
 exact⟨m,Ha,l4,m4,Ga.trans Da⟩
theorem zyb (B:Nat) (o:Xh) (g:Nat) (w:Xg) (h:WSet B o w g) (hB:B<=w.heap.size) :
  Calls Tryz.prog 107 #[.pointer (some ⟨g,1,none⟩),.func (.func 108) #[.pointer (some ⟨g,1,none⟩)] #[]] w fun e w'=>e=.returned (.tuple #[])∧zsq B o w' g∧Frm w w' [g]:=by
 have Ba:∀(x:Bool) (w:Xg),(Op.unary .not (.bool x)).run Tryz.prog w=.ok (.bool (!x)) w:=fun _ _=>rfl
 rcases h with hl | ⟨m,Aa,hl,hm⟩
 ·have h0:w.cell? ⟨g,1,none⟩=some (.int .u32 0):=hl.cell 1
  go_enter Tryz.func107,Tryz.ntmps107
  go_wp2_with fail
  refine (zch ⟨g,1,none⟩ 0 w h0 false (by simp)).mono ?_
  rintro e w ⟨rfl,rfl⟩
  go_wp2_with fail
  refine (zuQ o g w hl).mono ?_
  rintro e w' ⟨rfl,m,Aa,l',m',F'⟩
  go_wp2_with fail
  go_end0
  exact⟨rfl,⟨m,Nat.le_trans hB Aa,l',m'⟩,F'⟩
 ·have h0:w.cell? ⟨g,1,none⟩=some (.int .u32 1):=hl.cell 1
  go_enter Tryz.func107,Tryz.ntmps107
  go_wp2_with fail
  refine (zch ⟨g,1,none⟩ 1 w h0 true (by simp)).mono ?_
  rintro e w ⟨rfl,rfl⟩
  go_wp2_with fail
  go_end0
  exact⟨rfl,⟨m,Aa,hl,hm⟩,Frm.refl _ _⟩
open Classical in
set_option maxHeartbeats 1600000 in
theorem zxD (B:Nat) (o:Xh) (g:Nat) (w:Xg) (v:Xh) (l:Xc) (h:WSet B o w g) (hBB:B<=w.heap.size) (hv:∀w',Frm w w' [g]->Byt w' v l) :
  Calls Tryz.prog 60 #[.pointer (some ⟨g,1,none⟩),v] w fun e w'=>e=.returned (.bool (decide (Void l)))∧zsq B o w' g∧Frm w w' [g]:=by
 have Da:∀(fn:Fn) (first cap:Array Xh) (w:Xg),(Instr.makeFunc fn first cap).run Tryz.prog w=.ok (.func fn first cap) w:=fun _ _ _ _=>rfl
 have hg:g<w.heap.size:=by
  rcases h with h | ⟨m,_,h,_⟩
  ·exact h.lt
  ·exact h.lt
 obtain⟨a1,k1,rfl,_⟩:=(hv w (Frm.refl _ _)).shape
 have HV:=hide hv
 clear hv
 go_enter Tryz.func60,Tryz.ntmps60
 go_wp2_with fail
 refine (zyb B o g w h hBB).mono ?_
 rintro e w1 ⟨rfl,⟨m,Ca,l1,m1⟩,F1⟩
 have h3:w1.cell? ⟨g,4,none⟩=some (.map (some m)):=l1.cell 4
 have Ga:w1.drew.cell? ⟨g,4,none⟩=some (.map (some m)):=l1.cell 4
 have Fa:(w1.alloc (.cells #[] 68)).cell? ⟨g,4,none⟩=some (.map (some m)):=(l1.alloc _).cell 4
 have Ba:m<w1.heap.size:=by
  by_cases h:m<w1.heap.size
  ·exact h
  ·rw [Array.getElem?_eq_none (by omega)]at m1;cases m1
 have Aa:Byt w1 _ l:=zaa HV w1 F1
 have c1:=zbn w1.drew _ l (Aa.keep ((Below.refl _ _).drew))
 have c2:=zbn (w1.alloc (.cells #[] 68)).drew _ l (Aa.keep (((Below.refl _ _).alloc (Nat.le_refl _) _).drew))
 have q1:=fun s=>zdu w1.drew m s m1
 have q2:=fun s=>zdu (w1.alloc (.cells #[] 68)).drew m s ((heap_alloc_old w1 _ Ba).trans m1)
 have HS:=hide (zit l Aa.1)
 generalize str l=s at *
 generalize l.length=n at *
 go_wp2_with fail
 go_region
 all_goals
  go_wp2_with fail
  go_ret
  exact⟨by rw [<-zaa HS];rfl,⟨m,Ca,(l1.alloc _).all ((Below.refl _ _).drew),(heap_alloc_old w1 _ Ba).trans m1⟩,F1.trans ((Frm.alloc w1 _ _).trans (Frm.drew _ _))⟩
theorem zbP {w:Xg} {ops:Array Oper} {rest:List Oper} {o:Oper} {a:Act} {Q:Exit->Act->Xg->Prop} (hgd:o.guard=none) (s x:Operand)
  (ho:o.op=.call { callee:=.builtin .append,args:= #[s,x],argTypes:= #[22,22] })
  (base:Nat) (v:Xh) (l:Xc) (hs:a.eval s=v) (hown:Own w base v l) (u:Xh) (m:Xc) (hx:a.eval x=u) (hu:Byt w u m)
  (hlen:l.length+m.length<=134217728) (hbase:base<=w.heap.size)
  (h:∀v' w',Own w' base v' (l++m)->w.grownBy w' v.ownBlock->wpList Tryz.prog ops Q rest (a.put o.dst v') w'):wpList Tryz.prog ops Q (o::rest) a w:=by
 obtain⟨i0,hi,Ha,Ia,Da⟩:=info_parts Tryz.info5
 have Aa:∀(ad:Addr) (c:Nat),a.eval x=.slice (some ad) m.length c->(∀j,j<m.length->w.cell? (ad.add j)=some (.int .u8 (m.getD j 0)))->wpList Tryz.prog ops Q (o::rest) a w:=by
  intro ad c Fa hc
  refine wpList_append_own _ hgd s x 22 ho base 5 i0 (.int .u8 0) 1 1 Tryz.underlying22 hi Ha Ia Da rfl (by decide) v l.length (vals l) hs hown.2 ad m.length c (vals m) Fa (by rw [zaP];omega) ?_ (zjU m) (by unfold maxLen;omega) (by omega) hbase ?_
  ·intro j y hj
   have Ba:j<m.length:=by
    by_cases Ba:j<m.length
    ·exact Ba
    ·rw [List.getElem?_eq_none (by rw [zaP];omega)]at hj;cases hj
   rw [zdz Ba]at hj
   rw [hc j Ba];exact hj
  ·intro v' w' h1 h2 _
   refine h v' w' ⟨hown.1.app hu.1,?_⟩ h2
   rw [zcE,List.length_append];exact h1
 obtain⟨Ja,hm,⟨rfl,rfl⟩ | ⟨y,Ca,rfl,hc,rfl⟩ | ⟨b,Ga,Ca,rfl,h1,h2,h3,h4,h5⟩⟩:=hu
 ·refine wpList_append_own_none hgd s x 22 ho base 5 i0 1 Tryz.underlying22 hi v l.length (vals l) hs hown.2 hx ?_
  exact h v w (by rw [List.append_nil];exact hown) (World.grownBy.refl _ _)
 ·exact Aa y Ca hx (fun j hj=>by simp at hj)
 ·exact Aa ⟨b,Ga,none⟩ Ca hx (fun j hj=>by rw [zbd];exact h5 j hj)
theorem zbv (w:Xg) (x:Int) (h0:0<=x) (h1:x<=255):Byt (w.alloc (.cells #[.int .u8 x] 5)) (.slice (some ⟨w.heap.size,0,none⟩) 1 1) [x]:=by
 refine⟨okB.one h0 h1,by simp [maxLen],.inr (.inr ⟨w.heap.size,0,1,rfl,by simp,by simp [maxLen],by simp,by simp,fun i hi=> ?_⟩)⟩
 have e:i=0:=by simpa using hi
 subst e
 simp
theorem zdl (w:Xg):Own (w.alloc (.cells #[] 5)) w.heap.size (.slice (some ⟨w.heap.size,0,none⟩) 0 0) []:=
 ⟨zaE,World.ownsRow_lit w #[] 0 (Nat.le_refl _) (Nat.zero_le _) rfl⟩
theorem Own.alloc {w:Xg} {base:Nat} {v:Xh} {l:Xc} (h:Own w base v l) (o:Obj):Own (w.alloc o) base v l:=⟨h.1,h.2.alloc o⟩
theorem Byt.alloc {w:Xg} {v:Xh} {l:Xc} (h:Byt w v l) (o:Obj):Byt (w.alloc o) v l:=h.keep ((Below.refl _ _).alloc (Nat.le_refl _) o)
theorem Own.base_le {w:Xg} {base:Nat} {v:Xh} {l:Xc} (h:Own w base v l):∀g,v.ownBlock=some g->base<=g:=fun g hg=>(h.lt g hg).1
structure Frp (Mt:Nat->Obj->Prop) (a b:Xg):Prop where
 os:b.os=a.os
 tape:b.tape=a.tape
 output:b.output=a.output
 size:a.heap.size<=b.heap.size
 block:∀i o,a.heap[i]? = some o->¬ Mt i o->b.heap[i]? = some o
theorem Frp.refl (Mt:Nat->Obj->Prop) (a:Xg):Frp Mt a a:=⟨rfl,rfl,rfl,Nat.le_refl _,fun _ _ h _=>h⟩
theorem Frp.trans {Mt:Nat->Obj->Prop} {a b c:Xg} (h:Frp Mt a b) (k:Frp Mt b c):Frp Mt a c:=
 ⟨k.os.trans h.os,k.tape.trans h.tape,k.output.trans h.output,Nat.le_trans h.size k.size,fun i o hi hm=>k.block i o (h.block i o hi hm) hm⟩
theorem Frp.ofBelow {a b:Xg} (h:Below a.heap.size a b) (Mt:Nat->Obj->Prop):Frp Mt a b:=
 ⟨h.os,h.tape,h.output,h.size,fun i o hi _=>(h.block i (Array.getElem?_eq_some_iff.1 hi).1).trans hi⟩
theorem Frp.ofFrm {a b:Xg} {S:Xd} (h:Frm a b S) {Mt:Nat->Obj->Prop} (hm:∀g∈S,∀o,a.heap[g]? = some o->Mt g o):Frp Mt a b:=
 ⟨h.os,h.tape,h.output,h.size,fun i o hi hn=>(h.block i (Array.getElem?_eq_some_iff.1 hi).1 (fun e=>hn (hm i e o hi))).trans hi⟩
theorem Frp.below {Mt:Nat->Obj->Prop} {a b:Xg} {B:Nat} (h:Frp Mt a b) (hB:B<=a.heap.size) (hm:∀i o,i<B->¬ Mt i o):Below B a b:=
 ⟨h.os,h.tape,h.output,h.size,fun i hi=>by
  have Aa:i<a.heap.size:=by omega
  have:=h.block i _ (Array.getElem?_eq_getElem Aa) (hm i _ hi)
  rw [this,Array.getElem?_eq_getElem Aa]⟩
theorem Loc.frp {Mt:Nat->Obj->Prop} {w w':Xg} {g:Nat} {cs:Array Xh} {T:Xi} (h:Loc w g cs T) (f:Frp Mt w w') (hn:¬ Mt g (.cells cs T (0,0))):Loc w' g cs T:=f.block g _ h hn
theorem zfc {w:Xg} {base:Nat} {e:Xi} {size n:Nat} {v:Xh} {xs:Xf} (h:w.ownsRow base e size v n xs) {g:Nat} (hg:v.ownBlock=some g):∃cur,w.heap[g]? = some (.cells cur e (0,0)):=by
 rcases h.2 with ⟨rfl,_⟩ | ⟨g',Aa,cur,rfl,_,ho,_⟩
 ·cases hg
 ·cases hg;exact⟨cur,ho⟩
def MtB (B:Nat) (i:Nat) (o:Obj):Prop:=B<=i∧∃cs,o=.cells cs 5 (0,0)
theorem Frp.ofAppend {w w':Xg} {B:Nat} {v:Xh} {l:Xc} (ho:Own w B v l) (h:w.grownBy w' v.ownBlock):Frp (MtB B) w w':=
 Frp.ofFrm (Frm.ofGrown h) (fun g hg o Ba=>by
  have Ca:v.ownBlock=some g:=by simpa using hg
  obtain⟨Da,Aa⟩:=zfc ho.2 Ca
  rw [Aa]at Ba
  cases Ba
  exact⟨(ho.lt g Ca).1,Da,rfl⟩)
def sayB (q:Bool) (x:Int):Xc:=if x=38 then [38,97,109,112,59] else if x=60 then [38,108,116,59] else if x=34∧q=true then [38,113,117,111,116,59] else [x]
def say (q:Bool) (l:Xc):Xc:=(l.map (sayB q)).flatten
theorem zoS (q:Bool) (l:Xc) (j:Nat) (h:j<l.length):say q (l.take (j+1))=say q (l.take j)++sayB q l[j]:=by
 unfold say
 rw [List.take_succ_eq_append_getElem h,List.map_append,List.flatten_append]
 simp
theorem ztX (q:Bool) (l:Xc) (j:Nat):(say q (l.take j)).length<=(say q l).length:=by
 have:say q l=say q (l.take j)++say q (l.drop j):=by
  unfold say
  rw [<-List.flatten_append,<-List.map_append,List.take_append_drop]
 rw [this,List.length_append]
 omega
theorem zwD (q:Bool) (x:Int):(sayB q x).length<=6:=by
 unfold sayB
 split
 ·decide
 ·split
  ·decide
  ·split
   ·decide
   ·simp
theorem zgn (q:Bool):∀l:Xc,(say q l).length<=6*l.length
 | []=>by simp [say]
 | x::l=>by
  have h1:=zgn q l
  have h2:=zwD q x
  unfold say at h1 ⊢
  simp only [List.map_cons,List.flatten_cons,List.length_append,List.length_cons]
  omega
theorem zji {w:Xg} {ops:Array Oper} {rest:List Oper} {o:Oper} {a:Act} {Q:Exit->Act->Xg->Prop} (hgd:o.guard=none) (s x:Operand)
  (ho:o.op=.call { callee:=.builtin .append,args:= #[s,x],argTypes:= #[22,9] })
  (base:Nat) (v:Xh) (l:Xc) (hs:a.eval s=v) (hown:Own w base v l) (t:ByteArray) (m:Xc) (hx:a.eval x=.string t) (hm:Lib.strCells t=vals m) (hok:okB m)
  (hlen:l.length+m.length<=134217728) (hbase:base<=w.heap.size)
  (h:∀v' w',Own w' base v' (l++m)->w.grownBy w' v.ownBlock->wpList Tryz.prog ops Q rest (a.put o.dst v') w'):wpList Tryz.prog ops Q (o::rest) a w:=by
 obtain⟨i0,hi,Ca,Da,Ba⟩:=info_parts Tryz.info5
 have Aa:t.size=m.length:=by rw [<-Lib.strCells_length,hm,zaP]
 refine Lib.wpList_append_own_string _ hgd s x 22 9 ho base 5 i0 Tryz.underlying22 Tryz.underlying9 hi Ca Da Ba v l.length (vals l) hs hown.2 t hx (by rw [Aa];unfold maxLen;omega) (by omega) hbase ?_
 intro v' w' h1 h2 _
 refine h v' w' ⟨hown.1.app hok,?_⟩ h2
 rw [zcE,List.length_append,<-Aa,<-hm];exact h1
theorem zrw:okB [38,97,109,112,59]:=fun x hx=>by simp at hx;omega
theorem zvr:okB [38,108,116,59]:=fun x hx=>by simp at hx;omega
theorem zpK:okB [38,113,117,111,116,59]:=fun x hx=>by simp at hx;omega
def MtW (B g:Nat) (i:Nat) (o:Obj):Prop:=(i=g∧∃cs,o=.cells cs 86 (0,0))∨MtB B i o
def Wr (B:Nat) (w:Xg) (g:Nat) (L:Xc):Prop:=∃o,Own w B o L∧WSet B o w g
theorem WSet.loc {B:Nat} {o:Xh} {w:Xg} {g:Nat} (h:WSet B o w g):∃cs,Loc w g cs 86∧cs[0]? = some o∧w.cell? ⟨g,0,none⟩=some o∧w.frozen? ⟨g,0,none⟩=false:=by
 rcases h with h | ⟨m,_,h,_⟩
 ·exact⟨_,h,rfl,h.cell 0,h.frozen 0⟩
 ·exact⟨_,h,rfl,h.cell 0,h.frozen 0⟩
theorem zha {B b:Nat} {v:Xh} {l:Xc} {w:Xg} {g:Nat} {cs:Array Xh} (ho:Own w b v l) (h:Loc w g cs 86):v.ownBlock≠some g:=by
 intro e
 obtain⟨Aa,hc⟩:=zfc ho.2 e
 unfold Loc at h
 rw [h]at hc
 injection hc with hc
 injection hc with _ hc
 revert hc
 decide
theorem zvy {w:Xg} {m:Nat} (h:w.heap[m]? = some zaD):m<w.heap.size:=by
 by_cases hm:m<w.heap.size
 ·exact hm
 ·rw [Array.getElem?_eq_none (by omega)]at h;cases h
theorem zxp {b:Nat} {v:Xh} {l:Xc} {w:Xg} {m:Nat} (ho:Own w b v l) (h:w.heap[m]? = some zaD):v.ownBlock≠some m:=by
 intro e
 obtain⟨Aa,hc⟩:=zfc ho.2 e
 rw [h]at hc
 injection hc with hc
 cases hc
theorem zlJ {w w':Xg} {K:Nat} {row:Option Nat} {cs:Array Xh} {T:Xi} (hK:Loc w K cs T) (hg:w.grownBy w' row) (hn:row≠some K):Loc w' K cs T:=by
 unfold Loc at hK ⊢
 rw [hg.block K (Array.getElem?_eq_some_iff.1 hK).1 (fun e=>hn e.symm)]
 exact hK
theorem WSet.grown {B b:Nat} {o v:Xh} {l:Xc} {w w':Xg} {g:Nat} (h:WSet B o w g) (ho:Own w b v l) (hg:w.grownBy w' v.ownBlock):WSet B o w' g:=by
 rcases h with h | ⟨m,hm,h,h2⟩
 ·exact .inl (zlJ h hg (zha (B:=B) ho h))
 ·exact .inr ⟨m,hm,zlJ h hg (zha (B:=B) ho h),(hg.block m (zvy h2) (fun e=>zxp ho h2 e.symm)).trans h2⟩
theorem WSet.set {B:Nat} {o:Xh} {w:Xg} {g:Nat} (h:WSet B o w g) (v:Xh):WSet B v (w.setCell ⟨g,0,none⟩ v) g:=by
 rcases h with h | ⟨m,hm,h,h2⟩
 ·exact .inl (h.set 0 v)
 ·refine .inr ⟨m,hm,h.set 0 v,(heap_setCell_other w ⟨g,0,none⟩ m v (fun e=> ?_)).trans h2⟩
  have e':m=g:=e
  subst e'
  unfold Loc at h
  rw [h]at h2
  injection h2 with h2
  cases h2
theorem WSet.keep {B:Nat} {o:Xh} {w w':Xg} {g:Nat} (h:WSet B o w g) (hb:Below w.heap.size w w'):WSet B o w' g:=by
 rcases h with h | ⟨m,hm,h,h2⟩
 ·exact .inl (h.all hb)
 ·exact .inr ⟨m,hm,h.all hb,(hb.block m (zvy h2)).trans h2⟩
theorem Wr.keep {B:Nat} {w w':Xg} {g:Nat} {L:Xc} (h:Wr B w g L) (hb:Below w.heap.size w w'):Wr B w' g L:=by
 obtain⟨o,h1,h2⟩:=h
 exact⟨o,h1.keep hb,h2.keep hb⟩
theorem FrpW.ofB {B g:Nat} {a b:Xg} (h:Frp (MtB B) a b):Frp (MtW B g) a b:=⟨h.os,h.tape,h.output,h.size,fun i o hi hm=>h.block i o hi (fun k=>hm (.inr k))⟩
theorem FrpW.ofFrm {B g:Nat} {a b:Xg} {cs:Array Xh} (hl:Loc a g cs 86) (h:Frm a b [g]):Frp (MtW B g) a b:=
 Frp.ofFrm h (fun i hi o ho=>by
  have e:i=g:=by simpa using hi
  subst e
  unfold Loc at hl
  rw [hl]at ho
  cases ho
  exact .inl ⟨rfl,cs,rfl⟩)
theorem FrpW.toBelow {B g:Nat} {a b:Xg} {S:Nat} (h:Frp (MtW B g) a b) (hS:S<=a.heap.size) (hB:S<=B) (hg:S<=g):Below S a b:=h.below hS (fun i o hi hm=>by
 rcases hm with ⟨e,_⟩ | ⟨h1,_⟩<;>omega)
theorem zmn {B g i:Nat} {cs:Array Xh} {T:Xi} (h1:T≠86) (h2:T≠5):¬ MtW B g i (.cells cs T (0,0)):=by
 rintro (⟨_,Aa,h⟩ | ⟨_,Aa,h⟩)
 ·injection h with _ h;exact h1 h
 ·injection h with _ h;exact h2 h
theorem ztZ {B g:Nat} {w w':Xg} {o v:Xh} {L m:Xc} (ho:Own w B o L) (hs:WSet B o w g) (ho':Own w' B v m) (hg:w.grownBy w' o.ownBlock) :
  (w'.cell? ⟨g,0,none⟩=some o∧w'.frozen? ⟨g,0,none⟩=false)∧Wr B (w'.setCell ⟨g,0,none⟩ v) g m∧Frp (MtW B g) w (w'.setCell ⟨g,0,none⟩ v):=by
 have Aa:=hs.grown ho hg
 obtain⟨cs,hl,_,c0,f0⟩:=Aa.loc
 have Ba:=zha (B:=B) ho' hl
 refine⟨⟨c0,f0⟩,⟨v,ho'.frm (Frm.set w' g 0 v) (fun i hi Ca=> ?_),Aa.set v⟩,(FrpW.ofB (Frp.ofAppend ho hg)).trans (FrpW.ofFrm hl (Frm.set w' g 0 v))⟩
 have e1:i=g:=by simpa using Ca
 have e2:v.ownBlock=some i:=by simpa [FB]using hi
 exact Ba (by rw [e2,e1])
def zaJ (p:ByteArray×Xc):Prop:=Lib.strCells p.1=vals p.2∧okB p.2
theorem zjE {l:Xc} (h:okB l):zaJ (str l,l):=by
 refine⟨?_,h⟩
 show Lib.strCells (str l)=vals l
 unfold Lib.strCells vals
 rw [zbW,List.map_map]
 refine List.map_congr_left (fun x hx=> ?_)
 have:=h x hx
 show Value.int .u8 ((UInt8.ofNat x.toNat).toNat:Int)=Value.int .u8 x
 rw [UInt8.toNat_ofNat',Value.int.injEq]
 refine⟨rfl,?_⟩
 omega
theorem zzv {a:ByteArray×Xc} (ha:zaJ a):∀p∈[a],zaJ p:=fun p hp=>by simp at hp;subst hp;exact ha
theorem zzG {a b:ByteArray×Xc} (ha:zaJ a) (hb:zaJ b):∀p∈[a,b],zaJ p:=fun p hp=>by
 simp at hp
 rcases hp with rfl | rfl
 ·exact ha
 ·exact hb
theorem zzh {a b c:ByteArray×Xc} (ha:zaJ a) (hb:zaJ b) (hc:zaJ c):∀p∈[a,b,c],zaJ p:=fun p hp=>by
 simp at hp
 rcases hp with rfl | rfl | rfl
 ·exact ha
 ·exact hb
 ·exact hc
theorem zsF (ws:List (ByteArray×Xc)) (j:Nat) (h:j<ws.length):((ws.take (j+1)).map (·.2)).flatten=((ws.take j).map (·.2)).flatten++ws[j].2:=by
 rw [List.take_succ_eq_append_getElem h,List.map_append,List.flatten_append]
 simp
theorem zwp (ws:List (ByteArray×Xc)) (j:Nat):((ws.take j).map (·.2)).flatten.length<=(ws.map (·.2)).flatten.length:=by
 have:(ws.map (·.2)).flatten=((ws.take j).map (·.2)).flatten++((ws.drop j).map (·.2)).flatten:=by rw [<-List.flatten_append,<-List.map_append,List.take_append_drop]
 rw [this,List.length_append]
 omega
set_option maxHeartbeats 3200000 in
theorem zmo (B g k cap:Nat) (w:Xg) (L:Xc) (ws:List (ByteArray×Xc)) (hw:Wr B w g L) (hB:B<=w.heap.size) (hk:Loc w k (ws.map (fun p=>Value.string p.1)).toArray 9) (hs:∀p∈ws,zaJ p)
  (hn:ws.length<=1000) (hlen:L.length+(ws.map (·.2)).flatten.length<=100000000) :
  Calls Tryz.prog 61 #[.pointer (some ⟨g,0,none⟩),.slice (some ⟨k,0,none⟩) ws.length cap] w fun e w'=>e=.returned (.tuple #[])∧Wr B w' g (L++(ws.map (·.2)).flatten)∧Frp (MtW B g) w w':=by
 have Qa:(ws.length:Int)<=9223372036854775807:=by omega
 have Ma:¬ MtW B g k (.cells (ws.map (fun p=>Value.string p.1)).toArray 9 (0,0)):=zmn (by decide) (by decide)
 go_enter Tryz.func61,Tryz.ntmps61
 go_wp2_with fail
 go_loopw [8] (fun i wr=>∃j:Nat,j<=ws.length∧i=.int .i64 j∧Wr B wr g (L++((ws.take j).map (·.2)).flatten)∧Frp (MtW B g) w wr) (fun i _=>ws.length-(intOf i).toNat)
 case atStart=>exact⟨0,Nat.zero_le _,rfl,by simpa using hw,Frp.refl _ _⟩
 case round=>
  obtain⟨j,hj,rfl,hr,hb⟩:=hrel
  by_cases hjl:j<ws.length
  ·have Aa:=zsF ws j hjl
   have Ga:=zwp ws (j+1)
   obtain⟨p,hp⟩:∃p,p=ws[j]:=⟨_,rfl⟩
   have Pa:zaJ p:=by rw [hp];exact hs _ (List.getElem_mem hjl)
   have hc:wr.cell? ⟨k,j,none⟩=some (.string p.1):=by
    rw [(hk.frp hb Ma).cell j]
    simp [hjl,hp]
   obtain⟨s,m⟩:=p
   rw [<-hp]at Aa
   replace Aa:((ws.take (j+1)).map (·.2)).flatten=((ws.take j).map (·.2)).flatten++m:=Aa
   replace hc:wr.cell? ⟨k,j,none⟩=some (.string s):=hc
   obtain⟨Ba,Ca⟩:=Pa
   replace Ba:Lib.strCells s=vals m:=Ba
   replace Ca:okB m:=Ca
   have Oa:B<=wr.heap.size:=Nat.le_trans hB hb.size
   have La:(L++((ws.take j).map (·.2)).flatten).length+m.length<=100000000:=by
    rw [Aa]at Ga
    simp only [List.length_append]at Ga ⊢
    omega
   have Na:(j:Int)<(ws.length:Int):=by omega
   obtain⟨M,hM⟩:∃M,M=L++((ws.take j).map (·.2)).flatten:=⟨_,rfl⟩
   have HL:=hide (show L++((ws.take (j+1)).map (·.2)).flatten=M++m by rw [Aa,hM,List.append_assoc])
   rw [<-hM]at hr La
   obtain⟨o,Fa,Da⟩:=hr
   obtain⟨ab,cb,Ka,_,_⟩:=Fa.byt.shape
   subst Ka
   obtain⟨cs,_,_,c0,f0⟩:=Da.loc
   have HR:=hide Fa
   have HS:=hide Da
   have HM:=hide Ba
   have HO:=hide Ca
   clear Fa Da Aa hp Ga hM Ba Ca hs hk hw
   go_wp2_with (at_builtin;refine zji rfl _ _ rfl B _ M rfl (zaa HR) _ m rfl (zaa HM) (zaa HO) (by omega) Oa ?_)
   intro v2 w2 Ha Ja
   obtain⟨⟨c2,f2⟩,W2,F2⟩:=ztZ (zaa HR) (zaa HS) Ha Ja
   have HW:=hide (show Wr B (w2.setCell ⟨g,0,none⟩ v2) g (L++((ws.take (j+1)).map (·.2)).flatten) by rw [zaa HL];exact W2)
   obtain⟨a2,Ra,Ia,_,_⟩:=Ha.byt.shape
   generalize (M++m).length=N2 at Ia
   subst Ia
   clear Ha Ja W2
   go_wp2_with fail
   go_roundw
   case rel=>exact⟨j+1,by omega,by go_num,zaa HW,hb.trans F2⟩
   case measure=>simp [intOf];omega
  ·have e:j=ws.length:=by omega
   subst e
   rw [List.take_length]at hr
   clear hk hs hw
   go_wp2_with fail
   go_end0
   exact⟨rfl,hr,hb⟩
theorem zxw:zaJ (⟨#[38,97,109,112,59]⟩,[38,97,109,112,59]):=⟨rfl,zrw⟩
theorem zyN:zaJ (⟨#[38,108,116,59]⟩,[38,108,116,59]):=⟨rfl,zvr⟩
theorem zub:zaJ (⟨#[38,113,117,111,116,59]⟩,[38,113,117,111,116,59]):=⟨rfl,zpK⟩
theorem zgt (B g cap:Nat) (w:Xg) (L:Xc) (s:ByteArray) (m:Xc) (hw:Wr B w g L) (hB:B<=w.heap.size) (hs:zaJ (s,m)) (hlen:L.length+m.length<=100000000) :
  Calls Tryz.prog 61 #[.pointer (some ⟨g,0,none⟩),.slice (some ⟨w.heap.size,0,none⟩) 1 cap] (w.alloc (.cells #[.string s] 9)) fun e w'=>e=.returned (.tuple #[])∧Wr B w' g (L++m)∧Frp (MtW B g) w w':=by
 have hb:Below w.heap.size w (w.alloc (.cells #[.string s] 9)):=(Below.refl _ _).alloc (Nat.le_refl _) _
 have h:=zmo B g w.heap.size cap _ L [(s,m)] (hw.keep hb) (Nat.le_trans hB hb.size) (Loc.made w #[.string s] 9) (zzv hs) (by simp) (by simpa using hlen)
 refine h.mono ?_
 rintro e w' ⟨rfl,h1,h2⟩
 exact⟨rfl,by simpa using h1,(Frp.ofBelow hb _).trans h2⟩
set_option maxHeartbeats 3200000 in
theorem zpa (w0 w:Xg) (B g:Nat) (u:Xh) (L t:Xc) (q:Bool) (hw:Wr B w g L) (hB:B<=w.heap.size) (hu:Byt w0 u t) (hW:Below w0.heap.size w0 w) (h0:w0.heap.size<=B) (hg0:w0.heap.size<=g) (hlen:L.length+(say q t).length<=100000000) :
  Calls Tryz.prog 58 #[.pointer (some ⟨g,0,none⟩),u,.bool q] w fun e w'=>e=.returned (.tuple #[])∧Wr B w' g (L++say q t)∧Frp (MtW B g) w w':=by
 obtain⟨au,cu,rfl,_,_⟩:=hu.shape
 have Va:=hu.2.1
 unfold maxLen at Va
 have Wa:(t.length:Int)<=9223372036854775807:=by omega
 go_enter Tryz.func58,Tryz.ntmps58
 go_wp2_with fail
 go_loopw [10] (fun i wr=>∃j:Nat,j<=t.length∧i=.int .i64 j∧Wr B wr g (L++say q (t.take j))∧Frp (MtW B g) w wr) (fun i _=>t.length-(intOf i).toNat)
 case atStart=>exact⟨0,Nat.zero_le _,rfl,by simpa [say]using hw,Frp.refl _ _⟩
 case round=>
  obtain⟨j,hj,rfl,hr,hb⟩:=hrel
  by_cases hjl:j<t.length
  ·have Ba:=zoS q t j hjl
   have Ia:=ztX q t (j+1)
   obtain⟨Pa,_,⟨_,e⟩ | ⟨_,_,_,_,e⟩ | ⟨p,Oa,Ya,e,h1,h2,h3,h4,h5⟩⟩:=hu
   ·subst e;simp at hjl
   ·subst e;simp at hjl
   injection e with e1 _ e3
   subst e1 e3
   have hc:=h5 j hjl
   obtain⟨x,hx⟩:∃x,x=t[j]:=⟨_,rfl⟩
   rw [zcP hjl,<-hx]at hc
   rw [<-hx]at Ba
   have Ta:0<=x:=by rw [hx];exact (Pa _ (List.getElem_mem hjl)).1
   have Qa:x<=255:=by rw [hx];exact (Pa _ (List.getElem_mem hjl)).2
   have Ka:Below w0.heap.size w0 wr:=hW.trans (FrpW.toBelow hb hW.size h0 hg0)
   have Xa:wr.cell? ⟨p,Oa+j,none⟩=some (.int .u8 x):=(Ka.cell (p:=⟨p,Oa+j,none⟩) h4).trans hc
   have Ca:B<=wr.heap.size:=Nat.le_trans hB hb.size
   have Aa:(L++say q (t.take j)).length+(sayB q x).length<=100000000:=by
    rw [Ba]at Ia
    simp only [List.length_append]at Ia ⊢
    omega
   have Ua:(j:Int)<(t.length:Int):=by omega
   obtain⟨M,hM⟩:∃M,M=L++say q (t.take j):=⟨_,rfl⟩
   have HL:=hide (show L++say q (t.take (j+1))=M++sayB q x by rw [Ba,hM,List.append_assoc])
   rw [<-hM]at hr Aa
   have Za:M.length<=100000000:=by omega
   have HR:=hide hr
   clear hr Ba hx hc Ia h5 hM hw hW Ka
   by_cases k1:x=38
   ·have d1:(x == 38)=true:=by simpa using k1
    have HY:=hide (show sayB q x=[38,97,109,112,59] by unfold sayB;rw [if_pos k1])
    clear k1
    have HP:=hide (zgt B g 1 wr M _ _ (zaa HR) Ca zxw (by rw [zaa HY]at Aa;exact Aa))
    clear Aa
    go_wp2_with fail
    refine (zaa HP).mono ?_
    rintro e w2 ⟨rfl,W2,F2⟩
    have HO:=hide (show Wr B w2 g (L++say q (t.take (j+1))) by rw [zaa HL,zaa HY];exact W2)
    clear W2
    go_wp2_with fail
    go_roundw
    case rel=>exact⟨j+1,by omega,by go_num,zaa HO,hb.trans F2⟩
    case measure=>simp [intOf];omega
   ·have d1:(x == 38)=false:=by simpa using k1
    by_cases k2:x=60
    ·have d2:(x == 60)=true:=by simpa using k2
     have HY:=hide (show sayB q x=[38,108,116,59] by unfold sayB;rw [if_neg k1,if_pos k2])
     clear k1 k2
     have HP:=hide (zgt B g 1 wr M _ _ (zaa HR) Ca zyN (by rw [zaa HY]at Aa;exact Aa))
     clear Aa
     go_wp2_with fail
     refine (zaa HP).mono ?_
     rintro e w2 ⟨rfl,W2,F2⟩
     have HO:=hide (show Wr B w2 g (L++say q (t.take (j+1))) by rw [zaa HL,zaa HY];exact W2)
     clear W2
     go_wp2_with fail
     go_roundw
     case rel=>exact⟨j+1,by omega,by go_num,zaa HO,hb.trans F2⟩
     case measure=>simp [intOf];omega
    ·have d2:(x == 60)=false:=by simpa using k2
     by_cases k3:x=34∧q=true
     ·have d3:(x == 34)=true:=by simpa using k3.1
      have HY:=hide (show sayB q x=[38,113,117,111,116,59] by unfold sayB;rw [if_neg k1,if_neg k2,if_pos k3])
      obtain⟨_,hq⟩:=k3
      subst hq
      clear k1 k2
      have HP:=hide (zgt B g 1 wr M _ _ (zaa HR) Ca zub (by rw [zaa HY]at Aa;exact Aa))
      clear Aa
      go_wp2_with fail
      refine (zaa HP).mono ?_
      rintro e w2 ⟨rfl,W2,F2⟩
      have HO:=hide (show Wr B w2 g (L++say true (t.take (j+1))) by rw [zaa HL,zaa HY];exact W2)
      clear W2
      go_wp2_with fail
      go_roundw
      case rel=>exact⟨j+1,by omega,by go_num,zaa HO,hb.trans F2⟩
      case measure=>simp [intOf];omega
     ·have HY:=hide (show sayB q x=[x] by unfold sayB;rw [if_neg k1,if_neg k2,if_neg k3])
      have d3:((x == 34)=true∧q=false)∨(x == 34)=false:=by
       by_cases h34:x=34
       ·left
        refine⟨by simpa using h34,?_⟩
        cases q with
        | true=>exact absurd ⟨h34,rfl⟩ k3
        | false=>rfl
       ·right;simpa using h34
      clear k1 k2 k3
      obtain⟨o,Ha,Da⟩:=zaa HR
      obtain⟨ab,cb,Ra,_,_⟩:=Ha.byt.shape
      subst Ra
      obtain⟨cs,_,_,c0,f0⟩:=Da.loc
      have Ga:Below wr.heap.size wr (wr.alloc (.cells #[.int .u8 x] 5)):=(Below.refl _ _).alloc (Nat.le_refl _) _
      have Na:=hide (Ha.alloc (.cells #[.int .u8 x] 5))
      have Sa:=hide (Da.keep Ga)
      have Fa:Frp (MtW B g) wr (wr.alloc (.cells #[.int .u8 x] 5)):=Frp.ofBelow Ga _
      clear Ha Da HR Ga Aa
      rcases d3 with ⟨d3,rfl⟩ | d3
      all_goals
       go_wp2_with (at_builtin;(refine zbP rfl _ _ rfl B _ M rfl (zaa Na) _ [x] rfl (zbv wr x Ta Qa) (by first | omega | (simp;omega)) (by first | exact Ca | (simp;omega)) ?_))
       intro v2 w2 Ja Ma
       obtain⟨⟨c2,f2⟩,W2,F2⟩:=ztZ (zaa Na) (zaa Sa) Ja Ma
       rw [<-zaa HY,<-zaa HL]at W2
       have HO:=hide W2
       obtain⟨a2,aa,La,_,_⟩:=Ja.byt.shape
       generalize (M++[x]).length=N2 at La
       subst La
       clear Ja Ma W2
       go_wp2_with fail
       go_roundw
       case rel=>exact⟨j+1,by omega,by go_num,zaa HO,(hb.trans Fa).trans F2⟩
       case measure=>simp [intOf];omega
  ·have e:j=t.length:=by omega
   subst e
   rw [List.take_length]at hr
   clear hu hw
   go_wp2_with fail
   go_end0
   exact⟨rfl,hr,hb⟩
theorem zbZ {w:Xg} {ops:Array Oper} {o:Oper} {a:Act} {K:Act->Xg->Prop} {Q:Exit->Act->Xg->Prop} {E:Prop} (hgd:o.guard=none) (s x:Operand)
  (ho:o.op=.call { callee:=.builtin .append,args:= #[s,x],argTypes:= #[22,22] })
  (base:Nat) (v:Xh) (l:Xc) (hs:a.eval s=v) (hown:Own w base v l) (u:Xh) (m:Xc) (hx:a.eval x=u) (hu:Byt w u m)
  (hlen:l.length+m.length<=134217728) (hbase:base<=w.heap.size)
  (h:∀v' w',Own w' base v' (l++m)->w.grownBy w' v.ownBlock->K (a.put o.dst v') w'):if Region.wanted o (yielded ops a.tmps)=true then Oper.wp Tryz.prog o a w K Q else E:=by
 have hw:Region.wanted o (yielded ops a.tmps)=true:=by simp [Region.wanted,hgd]
 rw [if_pos hw]
 obtain⟨i0,hi,Ia,Ja,Fa⟩:=info_parts Tryz.info5
 have Aa:∀(ad:Addr) (c:Nat),a.eval x=.slice (some ad) m.length c->(∀j,j<m.length->w.cell? (ad.add j)=some (.int .u8 (m.getD j 0)))->Oper.wp Tryz.prog o a w K Q:=by
  intro ad c Ga hc
  refine wp_append_own w s x 22 ho base 5 i0 (.int .u8 0) 1 1 Tryz.underlying22 hi Ia Ja Fa rfl (by decide) v l.length (vals l) hs hown.2 ad m.length c (vals m) Ga (by rw [zaP];omega) ?_ (zjU m) (by unfold maxLen;omega) (by omega) hbase ?_
  ·intro j y hj
   have Ba:j<m.length:=by
    by_cases Ba:j<m.length
    ·exact Ba
    ·rw [List.getElem?_eq_none (by rw [zaP];omega)]at hj;cases hj
   rw [zdz Ba]at hj
   rw [hc j Ba];exact hj
  ·intro v' w' h1 h2 _
   refine h v' w' ⟨hown.1.app hu.1,?_⟩ h2
   rw [zcE,List.length_append];exact h1
 obtain⟨Ka,hm,⟨rfl,rfl⟩ | ⟨y,Da,rfl,hc,rfl⟩ | ⟨b,Ha,Da,rfl,h1,h2,h3,h4,h5⟩⟩:=hu
 ·have Ca:=run_append_owned_none (P:=Tryz.prog) (w:=w) base 22 o.type 5 i0 1 Tryz.underlying22 hi v l.length (vals l) hown.2
  unfold Oper.wp
  simp [execOp,ho,resolve,invoke,builtin,hs,hx,Ca,Result.andThen]
  exact h v w (by rw [List.append_nil];exact hown) (World.grownBy.refl _ _)
 ·exact Aa y Da hx (fun j hj=>by simp at hj)
 ·exact Aa ⟨b,Ha,none⟩ Da hx (fun j hj=>by rw [zbd];exact h5 j hj)
theorem zhS {w:Xg} {ops:Array Oper} {o:Oper} {a:Act} {K:Act->Xg->Prop} {Q:Exit->Act->Xg->Prop} {E:Prop} (hgd:o.guard=none) (s x:Operand)
  (ho:o.op=.call { callee:=.builtin .append,args:= #[s,x],argTypes:= #[22,9] })
  (base:Nat) (v:Xh) (l:Xc) (hs:a.eval s=v) (hown:Own w base v l) (t:ByteArray) (m:Xc) (hx:a.eval x=.string t) (hm:Lib.strCells t=vals m) (hok:okB m)
  (hlen:l.length+m.length<=134217728) (hbase:base<=w.heap.size)
  (h:∀v' w',Own w' base v' (l++m)->w.grownBy w' v.ownBlock->K (a.put o.dst v') w'):if Region.wanted o (yielded ops a.tmps)=true then Oper.wp Tryz.prog o a w K Q else E:=by
 have hw:Region.wanted o (yielded ops a.tmps)=true:=by simp [Region.wanted,hgd]
 rw [if_pos hw]
 obtain⟨i0,hi,Ca,Da,Ba⟩:=info_parts Tryz.info5
 have Aa:t.size=m.length:=by rw [<-Lib.strCells_length,hm,zaP]
 obtain⟨v',w',hr,h2,h3,_⟩:=Lib.run_append_own_string (P:=Tryz.prog) w base 22 9 o.type 5 i0 Tryz.underlying22 Tryz.underlying9 hi Ca Da Ba v l.length (vals l) hown.2 t (by rw [Aa];unfold maxLen;omega) (by omega) hbase
 unfold Oper.wp execOp
 simp only [ho,resolve,invoke,builtin,Sem.run_bind,Sem.run_pure,Result.andThen_ok,List.map_toArray,List.map_cons,List.map_nil,hs,hx,hr]
 refine h v' w' ⟨hown.1.app hok,?_⟩ h3
 rw [zcE,List.length_append,<-Aa,<-hm];exact h2
def okK {α:Type} (f:α->Int->Bool×Int):List α->Int->Bool×Int
 | [],left=>(true,left)
 | x::r,left=>if (f x left).1=true then okK f r (f x left).2 else (false,(f x left).2)
def zaL (l:Xc):Bool:=decide (l=[98,114]) || decide (l=[104,114])
theorem zcF (l:Xc):zaL l=true↔Void l:=by unfold zaL Void;rw [Bool.or_eq_true,decide_eq_true_eq,decide_eq_true_eq]
def zsr (l:List (Xc×Xc)) (i:Nat):Bool:=zaC (l.getD i ([],[])).1 && zod (l.getD i ([],[])).2 && (decide (i=0) || ziU (l.getD (i-1) ([],[])).1 (l.getD i ([],[])).1)
theorem znJ (l:List (Xc×Xc)) (i:Nat):zsr l i=true↔zfB l i:=by
 unfold zsr zfB
 rw [Bool.and_eq_true,Bool.and_eq_true,zbt,znu,Bool.or_eq_true,decide_eq_true_eq,and_assoc]
 constructor
 ·rintro⟨h1,h2,h3⟩
  exact⟨h1,h2,fun h=>h3.resolve_left (by omega)⟩
 ·rintro⟨h1,h2,h3⟩
  refine⟨h1,h2,?_⟩
  by_cases h:i=0
  ·exact .inl h
  ·exact .inr (h3 (by omega))
def zoy (l:List (Xc×Xc)):Bool:=decide (l.length<=4) && (List.range l.length).all (zsr l)
theorem zta (l:List (Xc×Xc)):zoy l=true↔zbf l:=by
 unfold zoy zbf
 rw [Bool.and_eq_true,decide_eq_true_eq,List.all_eq_true]
 constructor
 ·rintro⟨h1,h2⟩;exact⟨h1,fun i hi=>(znJ l i).1 (h2 i (List.mem_range.2 hi))⟩
 ·rintro⟨h1,h2⟩;exact⟨h1,fun i hi=>(znJ l i).2 (h2 i (List.mem_range.1 hi))⟩
def zpH {α:Type} (t:Nd α):Prop:=t.name.length=0∧t.attrs.length=0∧t.kids.length=0∧zaB t.text
def zbM {α:Type} (t:Nd α):Bool:=decide (t.name.length=0) && decide (t.attrs.length=0) && decide (t.kids.length=0) && zod t.text
theorem zgb {α:Type} (t:Nd α):zbM t=true↔zpH t:=by
 unfold zbM zpH
 rw [Bool.and_eq_true,Bool.and_eq_true,Bool.and_eq_true,znu,decide_eq_true_eq,decide_eq_true_eq,decide_eq_true_eq,and_assoc,and_assoc]
def zpy {α:Type} (t:Nd α):Prop:=t.kind=0∧zaw t.name∧t.text.length=0∧zbf t.attrs∧¬ (Void t.name∧0<t.kids.length)
def zbQ {α:Type} (t:Nd α):Bool:=decide (t.kind=0) && zaC t.name && decide (t.text.length=0) && zoy t.attrs && !(zaL t.name && decide (0<t.kids.length))
theorem zfI {α:Type} (t:Nd α):zbQ t=true↔zpy t:=by
 unfold zbQ zpy
 rw [Bool.and_eq_true,Bool.and_eq_true,Bool.and_eq_true,Bool.and_eq_true,zbt,zta,decide_eq_true_eq,decide_eq_true_eq,Bool.not_eq_true',<-Bool.not_eq_true,Bool.and_eq_true,zcF,decide_eq_true_eq,and_assoc,and_assoc,and_assoc]
def okT:(n:Nat)->Int->Tr n->Int->Bool×Int
 | 0=>fun _ t _=>t.elim
 | n+1=>fun deep t left=>if left-1<0∨20<deep then (false,left-1) else if t.kind=1 then (zbM t,left-1) else if zbQ t=true then okK (okT n (deep+1)) t.kids (left-1) else (false,left-1)
theorem zor (n:Nat) (deep:Int) (t:Tr (n+1)) (left:Int):okT (n+1) deep t left=if left-1<0∨20<deep then (false,left-1) else if t.kind=1 then (zbM t,left-1) else if zbQ t=true then okK (okT n (deep+1)) t.kids (left-1) else (false,left-1):=rfl
theorem ztE (w:Xg) (v:Xh) (l:Xc) (h:Byt w v l) (hn:Void l):Calls Tryz.prog 77 #[v] w fun e w'=>e=.returned (.bool true)∧w'=w:=by
 refine (znt w v l h).mono ?_
 rintro e w' ⟨rfl,h⟩
 exact⟨by simp [hn],h⟩
theorem zwK (w:Xg) (v:Xh) (l:Xc) (h:Byt w v l) (hn:¬ Void l):Calls Tryz.prog 77 #[v] w fun e w'=>e=.returned (.bool false)∧w'=w:=by
 refine (znt w v l h).mono ?_
 rintro e w' ⟨rfl,h⟩
 exact⟨by simp [hn],h⟩
def okN (n:Nat) (t:Tr (n+1)):Bool:=decide (t.kind=0) && (okT (n+1) 1 t 120).1
theorem two (w:Xg) (A Z:Array Xh) (TA T:Xi):Loc ((w.alloc (.cells A TA)).alloc (.cells Z T)) w.heap.size A TA∧Loc ((w.alloc (.cells A TA)).alloc (.cells Z T)) (w.heap.size+1) Z T∧Below w.heap.size w ((w.alloc (.cells A TA)).alloc (.cells Z T)):=by
 refine⟨(Loc.made w A TA).alloc _,?_,((Below.refl _ _).alloc (Nat.le_refl _) _).alloc (by simp) _⟩
 have:=Loc.made (w.alloc (.cells A TA)) Z T
 simp only [World.size_alloc]at this
 exact this
theorem Elems.at {α:Type} {w:Xg} {size m:Nat} {a:Xe} {cap k:Nat} {l:List α} {R:Xf->α->Prop} (h:Elems w size (.slice a m cap) l R) (hk:k<l.length) :
  ∃b off,a=some ⟨b,off,none⟩∧b<w.heap.size∧m=l.length∧m<=cap∧∃C:Xf,C.length=size∧(∀j,j<size->w.cell? ⟨b,off+k*size+j,none⟩=C[j]?)∧R C l[k]:=by
 obtain⟨_,⟨_,e⟩ | ⟨_,_,_,_,e⟩ | ⟨b,off,c,e,g1,g2,g3,g4,g5⟩⟩:=h
 ·subst e;simp at hk
 ·subst e;simp at hk
 ·injection e with e1 e2 e3
  subst e1 e2 e3
  exact⟨b,off,rfl,g4,rfl,g1,g5 k hk⟩
theorem Loc.five {w:Xg} {g:Nat} {a b c d e:Xh} {T:Xi} (h:Loc w g #[a,b,c,d,e] T) :
  w.cell? ⟨g,0,none⟩=some a∧w.cell? ⟨g,1,none⟩=some b∧w.cell? ⟨g,2,none⟩=some c∧w.cell? ⟨g,3,none⟩=some d∧w.cell? ⟨g,4,none⟩=some e:=
 ⟨h.cell 0,h.cell 1,h.cell 2,h.cell 3,h.cell 4⟩
def zbA (x:Xc×Xc):Xc:=[32]++x.1++[61,34]++say true x.2++[34]
def zal (l:List (Xc×Xc)):Xc:=(l.map zbA).flatten
def mkup:(n:Nat)->Tr n->Xc
 | 0=>fun _=>[]
 | n+1=>fun t=>if t.kind=1 then say false t.text else [60]++t.name++zal t.attrs++[62]++(if zaL t.name=true then [] else (t.kids.map (mkup n)).flatten++[60,47]++t.name++[62])
theorem zdn (n:Nat) (t:Tr (n+1)):mkup (n+1) t=if t.kind=1 then say false t.text else [60]++t.name++zal t.attrs++[62]++(if zaL t.name=true then [] else (t.kids.map (mkup n)).flatten++[60,47]++t.name++[62]):=rfl
theorem zeP {α β:Type} (f:α->List β) (l:List α) (j:Nat) (h:j<l.length):((l.take (j+1)).map f).flatten=((l.take j).map f).flatten++f l[j]:=by
 rw [List.take_succ_eq_append_getElem h,List.map_append,List.flatten_append]
 simp
theorem zgI {α β:Type} (f:α->List β) (l:List α) (j:Nat):((l.take j).map f).flatten.length<=(l.map f).flatten.length:=by
 have:(l.map f).flatten=((l.take j).map f).flatten++((l.drop j).map f).flatten:=by rw [<-List.flatten_append,<-List.map_append,List.take_append_drop]
 rw [this,List.length_append]
 omega
theorem zzy:okB [60]:=fun x hx=>by simp at hx;omega
theorem zvf:okB [61,34]:=fun x hx=>by simp at hx;omega
theorem zmk:okB [60,47]:=fun x hx=>by simp at hx;omega
theorem zxY {w:Xg} {B K:Nat} {v:Xh} {l:Xc} {x:Xh} (ho:Own w B v l) (h2:2<=l.length) (hK:Loc w K #[x] 5):v.ownBlock≠some K:=by
 intro e
 rcases ho.2.2 with ⟨rfl,_⟩ | ⟨g,Ba,Aa,rfl,_,hg,h3,_,h5,_⟩
 ·cases e
 ·cases e
  unfold Loc at hK
  rw [hK]at hg
  injection hg with hg
  injection hg with hg
  subst hg
  simp at h5
  omega
theorem ziq {w w':Xg} {K:Nat} {row:Option Nat} {cs:Array Xh} {T:Xi} (hK:Loc w K cs T) (hg:w.grownBy w' row) (hn:row≠some K):Loc w' K cs T:=by
 unfold Loc at hK ⊢
 rw [hg.block K (Array.getElem?_eq_some_iff.1 hK).1 (fun e=>hn e.symm)]
 exact hK
theorem zyx {w:Xg} {B:Nat} {v:Xh} {l:Xc} (ho:Own w B v l):v.ownBlock≠some w.heap.size:=fun e=>by
 have:=(ho.2.lt _ e).2
 omega
theorem zyY {w:Xg} {K:Nat} {x:Int} (hK:Loc w K #[.int .u8 x] 5) (h0:0<=x) (h1:x<=255):Byt w (.slice (some ⟨K,0,none⟩) 1 1) [x]:=by
 refine⟨fun y hy=>by simp at hy;omega,by simp [maxLen],.inr (.inr ⟨K,0,1,rfl,by simp,by simp [maxLen],by simp,hK.lt,fun i hi=> ?_⟩)⟩
 have e:i=0:=by simpa using hi
 subst e
 exact hK.cell 0
end Go.Proofs.YtgjolijncmkkhaaGreatDoor
