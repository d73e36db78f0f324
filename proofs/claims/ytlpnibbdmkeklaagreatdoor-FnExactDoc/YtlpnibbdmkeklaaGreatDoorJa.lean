/- Own texts joined: Base, To, Tree, LocB, OwnT, Sz, ToT, OnceI, NameS, Str, AttrS, OnceJ, HasI, OnceW, App, FrpT, SayS. -/
import Derived.WalkKit
import Derived.OpenShut
import Derived.WalkSpells
import Derived.WalkSmall
import Derived.Laws.AppendOwnNone
import Derived.Laws.CopyOwn
import Derived.Test.YtlpnibbdmkeklaaGreatDoorChecked
import Derived.WideMake
import Derived.Defers
import Derived.Laws.LoneSync
import Derived.Laws.Pointers
import Derived.RegionTactic
import Derived.RegionCalls
import Derived.WalkLawsBesides
import Derived.Deep.RegionHeld3
import Derived.Deep.QuietTactic
import Derived.BigQuiet
import Derived.Lib.AppendStr
namespace Go.Proofs.YtlpnibbdmkeklaaGreatDoor
open Go.RowKit
set_option linter.unusedVariables false
abbrev Xa := List Int
abbrev Xb := List Nat
abbrev Xc := Option Addr
abbrev Xd := List Value
abbrev Xe := World
abbrev Xf := Value
abbrev Xg := TypeId
theorem hide {p:Prop} (h:p):Hid p:=h
theorem zaa {p:Prop} (h:Hid p):p:=h
def okB (l:Xa):Prop:=∀x∈l,0<=x∧x<=255
def vals (l:Xa):Xd:=l.map (Value.int .u8)
def Byt (w:Xe) (v:Xf) (l:Xa):Prop:=
 okB l∧l.length<=maxLen∧
 ((v=.slice none 0 0∧l=[])∨
  (∃x cap,v=.slice (some x) 0 cap∧cap<=maxLen∧l=[])∨
  (∃b off cap,v=.slice (some ⟨b,off,none⟩) l.length cap∧l.length<=cap∧cap<=maxLen∧l≠[]∧b<w.heap.size∧
   ∀i,i<l.length->w.cell? ⟨b,off+i,none⟩=some (.int .u8 (l.getD i 0))))
def Own (w:Xe) (base:Nat) (v:Xf) (l:Xa):Prop:=okB l∧w.ownsRow base 5 1 v l.length (vals l)
theorem zcq {l:Xa} {k:Nat} (h:k<l.length):l.getD k 0=l[k]:=by simp [h]
theorem zbL:okB []:=fun _ h=>by cases h
theorem okB.app {a b:Xa} (h:okB a) (k:okB b):okB (a++b):=fun x hx=>by
 rcases List.mem_append.1 hx with h' | h'
 ·exact h x h'
 ·exact k x h'
theorem okB.one {x:Int} (h0:0<=x) (h1:x<=255):okB [x]:=fun y hy=>by simp at hy;subst hy;exact⟨h0,h1⟩
theorem zcA (l:Xa):(vals l).length=l.length:=by simp [vals]
theorem zcP (a b:Xa):vals (a++b)=vals a++vals b:=by simp [vals]
theorem zku (l:Xa):∀u∈vals l,u.oneCell'=true:=ints_oneCell _ _
theorem zdm {l:Xa} {i:Nat} (h:i<l.length):(vals l)[i]? = some (.int .u8 (l.getD i 0)):=by simp [vals,h]
theorem Own.lt {w:Xe} {base:Nat} {v:Xf} {l:Xa} (h:Own w base v l):∀k,v.ownBlock=some k->base<=k∧k<w.heap.size:=h.2.lt
theorem Own.mono {w:Xe} {base base':Nat} {v:Xf} {l:Xa} (h:Own w base v l) (hb:base'<=base):Own w base' v l:=by
 refine⟨h.1,h.2.1,?_⟩
 rcases h.2.2 with h' | ⟨g,cap,cur,h1,h2,h3⟩
 ·exact .inl h'
 ·exact .inr ⟨g,cap,cur,h1,by omega,h3⟩
theorem Own.byt {w:Xe} {base:Nat} {v:Xf} {l:Xa} (h:Own w base v l):Byt w v l:=by
 obtain⟨hok,hlen,hrow⟩:=h
 have hl:=hlen
 rcases hrow with ⟨rfl,h0⟩ | ⟨g,cap,cur,rfl,hb,hg,hnc,hcm,hcs,htake⟩
 ·exact⟨hok,by omega,.inl ⟨rfl,List.eq_nil_of_length_eq_zero h0⟩⟩
 ·refine⟨hok,by omega,.inr ?_⟩
  by_cases h0:l=[]
  ·subst h0;exact .inl ⟨_,cap,rfl,hcm,rfl⟩
  ·refine .inr ⟨g,0,cap,rfl,hnc,hcm,h0,?_,fun i hi=> ?_⟩
   ·by_cases hlt:g<w.heap.size
    ·exact hlt
    ·rw [Array.getElem?_eq_none (by omega)]at hg;cases hg
   ·have:=World.ownsRow.cellAt (w:=w) (base:=base) (e:=5) (size:=1) (g:=g) (n:=l.length) (cap:=cap) (xs:=vals l) ⟨hlen,.inr ⟨g,cap,cur,rfl,hb,hg,hnc,hcm,hcs,htake⟩⟩ i (by omega)
    rw [zdm hi]at this
    simpa using this
theorem Byt.shape {w:Xe} {v:Xf} {l:Xa} (h:Byt w v l):∃a cap,v=.slice a l.length cap∧l.length<=cap∧cap<=maxLen:=by
 obtain⟨_,hm,⟨rfl,rfl⟩ | ⟨x,cap,rfl,hc,rfl⟩ | ⟨b,off,cap,rfl,h1,h2,_⟩⟩:=h
 ·exact⟨none,0,rfl,Nat.le_refl _,hm⟩
 ·exact⟨some x,cap,rfl,Nat.zero_le _,hc⟩
 ·exact⟨_,cap,rfl,h1,h2⟩
theorem Byt.keep {w w':Xe} {v:Xf} {l:Xa} (h:Byt w v l) (hb:Below w.heap.size w w'):Byt w' v l:=by
 obtain⟨hok,hm,h1 | h2 | ⟨b,off,cap,rfl,h1,h2,h3,h4,h5⟩⟩:=h
 ·exact⟨hok,hm,.inl h1⟩
 ·exact⟨hok,hm,.inr (.inl h2)⟩
 ·exact⟨hok,hm,.inr (.inr ⟨b,off,cap,rfl,h1,h2,h3,Nat.lt_of_lt_of_le h4 hb.size,fun i hi=>by rw [hb.cell (p:=⟨b,off+i,none⟩) h4];exact h5 i hi⟩)⟩
theorem Own.keep {w w':Xe} {base:Nat} {v:Xf} {l:Xa} (h:Own w base v l) (hb:Below w.heap.size w w'):Own w' base v l:=
 ⟨h.1,h.2.kept (row:=none) ⟨hb.os,hb.tape,hb.output,hb.size,fun k hk _=>hb.block k hk⟩ (by cases hv:v.ownBlock<;>simp)⟩
theorem Below.ofGrown {w w':Xe} (h:w.grownBy w' none):Below w.heap.size w w':=⟨h.os,h.tape,h.output,h.size,fun k hk=>h.block k hk (by simp)⟩
theorem zad {a b c:Xe} (h:Below a.heap.size a b) (k:Below b.heap.size b c):Below a.heap.size a c:=h.trans (k.mono h.size)
theorem zei {a b c:Xe} {row:Option Nat} (h:Below a.heap.size a b) (k:b.grownBy c row) (hr:∀g,row=some g->a.heap.size<=g):Below a.heap.size a c:=h.grown k h.size hr
theorem zhb {a b c:Xe} {row:Option Nat} (h:a.grownBy b row) (k:b.grownBy c row):a.grownBy c row:=
 ⟨k.os.trans h.os,k.tape.trans h.tape,k.output.trans h.output,Nat.le_trans h.size k.size,fun i hi hne=>(k.block i (Nat.lt_of_lt_of_le hi h.size) hne).trans (h.block i hi hne)⟩
theorem zbc (b off i:Nat):(⟨b,off,none⟩:Addr).add i=⟨b,off+i,none⟩:=by
 unfold Addr.add
 by_cases h:i=0<;>simp [h]
theorem zaJ {w:Xe} {a:Addr} {v:Xf} (h:w.cell? a=some v):a.block<w.heap.size:=by
 by_cases hlt:a.block<w.heap.size
 ·exact hlt
 ·unfold World.cell? at h
  rw [Array.getElem?_eq_none (by omega)]at h
  cases h
theorem zdL {w:Xe} {a:Xc} {len cap:Nat} {zs:Xa}
  (h:(a=none∧len=0∧cap=0∧zs=[])∨∃x,a=some x∧len<=cap∧cap<=maxLen∧zs.length=cap∧(∀i,i<zs.length->w.cell? (x.add i)=some (.int .u8 (zs.getD i 0)))∧∀n∈zs,(Lit.int .u8 n).wf=true) :
  Byt w (.slice a len cap) (zs.take len):=by
 rcases h with ⟨rfl,rfl,rfl,rfl⟩ | ⟨x,rfl,hl,hm,hz,hcell,hwz⟩
 ·exact⟨zbL,by simp [maxLen],.inl ⟨rfl,rfl⟩⟩
 ·have hok:okB (zs.take len):=fun n hn=>bounds_u8 (hwz n (List.mem_of_mem_take hn))
  have hlen:(zs.take len).length=len:=by simp;omega
  by_cases h0:len=0
  ·subst h0
   exact⟨hok,by simp [maxLen],.inr (.inl ⟨x,cap,rfl,hm,by simp⟩)⟩
  ·obtain⟨b,off,spot⟩:=x
   have hc:=hcell 0 (by omega)
   have hspot:spot=none:=by simpa [Addr.add]using World.cell?_spot hc
   subst hspot
   refine⟨hok,by omega,.inr (.inr ⟨b,off,cap,by rw [hlen],by omega,hm,?_,?_,fun i hi=> ?_⟩)⟩
   ·intro e;rw [e]at hlen;simp at hlen;omega
   ·have:=zaJ hc;simpa [Addr.add]using this
   ·have hi':=hcell i (by omega)
    rw [List.getD_eq_getElem?_getD,List.getElem?_take,if_pos (by omega),<-List.getD_eq_getElem?_getD]
    rw [zbc]at hi'
    exact hi'
theorem Tryz.info5:(Tryz.prog.info? 5).map (fun i=>(i.zero,i.size,i.bytes))=some (some (.int .u8 0),1,1):=by kernel_rfl
def half (l:Xa) (k:Nat):Xa:=l.take k++List.replicate (l.length-k) 0
theorem zkx (l:Xa) (k:Nat) (h:k<=l.length):(half l k).length=l.length:=by simp [half];omega
theorem zfO (l:Xa):vals (half l 0)=(madeCells #[Value.int .u8 0] l.length).toList:=by
 rw [toList_madeCells_one]
 simp [half,vals]
theorem zqr (l:Xa):half l l.length=l:=by simp [half]
theorem zlZ (l:Xa) (k i:Nat) (hk:k<=l.length):(half l k)[i]? = if i<k then l[i]? else if i<l.length then some 0 else none:=by
 have hm:min k l.length=k:=by omega
 unfold half
 rw [List.getElem?_append,List.length_take,hm]
 by_cases h:i<k
 ·simp [h]
 ·rw [if_neg h,if_neg h,List.getElem?_replicate]
  by_cases h2:i<l.length
  ·rw [if_pos h2,if_pos (by omega)]
  ·rw [if_neg h2,if_neg (by omega)]
theorem zoH (l:Xa) (k:Nat) (h:k<l.length):(vals (half l k)).set k (.int .u8 (l.getD k 0))=vals (half l (k+1)):=by
 apply List.ext_getElem?
 intro i
 unfold vals
 rw [List.getElem?_set,List.getElem?_map,List.getElem?_map,zlZ l k i (by omega),zlZ l (k+1) i (by omega),List.length_map,zkx l k (by omega)]
 by_cases hk:k=i
 ·subst hk;rw [if_pos rfl,if_pos h,if_pos (by omega)];simp [h]
 ·rw [if_neg hk]
  by_cases h2:i<k
  ·rw [if_pos h2,if_pos (by omega)]
  ·rw [if_neg h2,if_neg (show ¬ i<k+1 by omega)]
set_option maxHeartbeats 1600000 in
set_option maxRecDepth 1000000 in
theorem zee (w:Xe) (v:Xf) (l:Xa) (h:Byt w v l) (hs:l.length<=2097152) :
  Calls Tryz.prog 42 #[v] w fun e w'=>∃v',e=.returned v'∧Own w' w.heap.size v' l∧v'≠.slice none 0 0∧Below w.heap.size w w':=by
 obtain⟨i0,hi,hz0,hz1,hz2⟩:=info_parts Tryz.info5
 obtain⟨hok,hm,⟨rfl,rfl⟩ | ⟨x,cap,rfl,hc,rfl⟩ | ⟨b,off,cap,rfl,h1,h2,h3,h4,h5⟩⟩:=h
 ·go_enter Tryz.func42,Tryz.ntmps42
  go_wp2_with (at_make;refine wpList_make_full _ rfl _ _ 22 rfl w.heap.size 5 i0 (.int .u8 0) 1 Tryz.underlying22 hi hz0 hz1 .i64 .i64 _ _ 0 rfl rfl rfl rfl ?c1 ?c2 ?c3 ?_)
  case c1=>omega
  case c2=>exact hm
  case c3=>exact Nat.le_refl _
  intro w1 hown hgrow
  have hB1:=Below.ofGrown hgrow
  have hown1:w1.ownsRow w.heap.size 5 1 (.slice (some ⟨w.heap.size,0,none⟩) 0 0) 0 (vals []):=by have e:=zfO [];rw [show half [] 0=[] from rfl]at e;rw [e];exact hown
  clear hown hgrow
  go_wp2
  refine wp_loop_rounds 1 ?_
  rw [rounds_succ]
  go_wp2
  go_ret
  exact⟨_,rfl,⟨zbL,hown1⟩,by simp,hB1⟩
 ·go_enter Tryz.func42,Tryz.ntmps42
  go_wp2_with (at_make;refine wpList_make_full _ rfl _ _ 22 rfl w.heap.size 5 i0 (.int .u8 0) 1 Tryz.underlying22 hi hz0 hz1 .i64 .i64 _ _ 0 rfl rfl rfl rfl ?c1 ?c2 ?c3 ?_)
  case c1=>omega
  case c2=>exact hm
  case c3=>exact Nat.le_refl _
  intro w1 hown hgrow
  have hB1:=Below.ofGrown hgrow
  have hown1:w1.ownsRow w.heap.size 5 1 (.slice (some ⟨w.heap.size,0,none⟩) 0 0) 0 (vals []):=by have e:=zfO [];rw [show half [] 0=[] from rfl]at e;rw [e];exact hown
  clear hown hgrow
  go_wp2
  refine wp_loop_rounds 1 ?_
  rw [rounds_succ]
  go_wp2
  go_ret
  exact⟨_,rfl,⟨zbL,hown1⟩,by simp,hB1⟩
 ·go_enter Tryz.func42,Tryz.ntmps42
  go_wp2_with (at_make;refine wpList_make_full _ rfl _ _ 22 rfl w.heap.size 5 i0 (.int .u8 0) 1 Tryz.underlying22 hi hz0 hz1 .i64 .i64 _ _ l.length rfl rfl rfl rfl ?c1 ?c2 ?c3 ?_)
  case c1=>rw [hz2];omega
  case c2=>exact hm
  case c3=>exact Nat.le_refl _
  intro w1 hown hgrow
  have hB1:=Below.ofGrown hgrow
  have hown1:w1.ownsRow w.heap.size 5 1 (.slice (some ⟨w.heap.size,0,none⟩) l.length l.length) l.length (vals (half l 0)):=by rw [zfO];exact hown
  clear hown hgrow
  go_wp2
  go_loopw [4] (fun i wr=>∃k:Nat,k<=l.length∧i=.int .i64 k∧wr.ownsRow w.heap.size 5 1 (.slice (some ⟨w.heap.size,0,none⟩) l.length l.length) l.length (vals (half l k))∧Below w.heap.size w wr) (fun i _=>l.length-(intOf i).toNat)
  case atStart=>exact⟨0,Nat.zero_le _,rfl,hown1,hB1⟩
  case round=>
   obtain⟨k,hk,rfl,hw,hB⟩:=hrel
   clear hown1 hB1
   have hcx:k<l.length->wr.cell? ⟨b,off+k,none⟩=some (.int .u8 (l.getD k 0)):=fun hlt=>(hB.cell (p:=⟨b,off+k,none⟩) h4).trans (h5 k hlt)
   have hcy:k<l.length->wr.cell? ⟨w.heap.size,k,none⟩=some (.int .u8 ((half l k).getD k 0)):=fun hlt=>by
    rw [hw.cellAt k (by omega),zdm (by rw [zkx l k hk];exact hlt)]
   have hfr:=hw.frozenAt k
   have hst:=hw.stored k (.int .u8 (l.getD k 0))
   have R:k<l.length->(wr.setCell ⟨w.heap.size,k,none⟩ (.int .u8 (l.getD k 0))).ownsRow w.heap.size 5 1 (.slice (some ⟨w.heap.size,0,none⟩) l.length l.length) l.length (vals (half l (k+1)))∧Below w.heap.size w (wr.setCell ⟨w.heap.size,k,none⟩ (.int .u8 (l.getD k 0))):=fun hlt=>by
    rw [<-zoH l k hlt]
    exact⟨hst.1,hB.setCell (p:=⟨w.heap.size,k,none⟩) (Nat.le_refl _) _⟩
   have HR:=hide R
   clear R hst
   go_wp2
   ·have hlt:k<l.length:=by assumption
    have R:=zaa HR hlt
    rw [zcq hlt]at R
    go_roundw
    case rel=>exact⟨k+1,by omega,by go_num,R.1,R.2⟩
    case measure=>simp [intOf];omega
   ·have e:k=l.length:=by omega
    subst e
    go_ret
    rw [zqr]at hw
    exact⟨_,rfl,⟨hok,hw⟩,by simp,hB⟩
structure Nd (α:Type) where
 kind:Int
 name:Xa
 text:Xa
 attrs:List (Xa×Xa)
 kids:List α
def Tr:Nat->Type
 | 0=>Empty
 | n+1=>Nd (Tr n)
def Elems {α:Type} (w:Xe) (size:Nat) (v:Xf) (l:List α) (R:Xd->α->Prop):Prop:=
 l.length<=maxLen∧
 ((v=.slice none 0 0∧l=[])∨
  (∃x cap,v=.slice (some x) 0 cap∧cap<=maxLen∧l=[])∨
  (∃b off cap,v=.slice (some ⟨b,off,none⟩) l.length cap∧l.length<=cap∧cap<=maxLen∧l≠[]∧b<w.heap.size∧
   ∀i (hi:i<l.length),∃C:Xd,C.length=size∧(∀j,j<size->w.cell? ⟨b,off+i*size+j,none⟩=C[j]?)∧R C l[i]))
theorem Elems.shape {α:Type} {w:Xe} {size:Nat} {v:Xf} {l:List α} {R:Xd->α->Prop} (h:Elems w size v l R):∃a cap,v=.slice a l.length cap∧l.length<=cap∧cap<=maxLen:=by
 obtain⟨hm,⟨rfl,rfl⟩ | ⟨x,cap,rfl,hc,rfl⟩ | ⟨b,off,cap,rfl,h1,h2,_⟩⟩:=h
 ·exact⟨none,0,rfl,Nat.le_refl _,hm⟩
 ·exact⟨some x,cap,rfl,Nat.zero_le _,hc⟩
 ·exact⟨_,cap,rfl,h1,h2⟩
theorem Elems.keep {α:Type} {w w':Xe} {size:Nat} {v:Xf} {l:List α} {R R':Xd->α->Prop} (h:Elems w size v l R) (hb:Below w.heap.size w w') (hR:∀C x,x∈l->R C x->R' C x):Elems w' size v l R':=by
 obtain⟨hm,h1 | h2 | ⟨b,off,cap,rfl,h1,h2,h3,h4,h5⟩⟩:=h
 ·exact⟨hm,.inl h1⟩
 ·exact⟨hm,.inr (.inl h2)⟩
 ·refine⟨hm,.inr (.inr ⟨b,off,cap,rfl,h1,h2,h3,Nat.lt_of_lt_of_le h4 hb.size,fun i hi=> ?_⟩)⟩
  obtain⟨C,hC,hc,hr⟩:=h5 i hi
  exact⟨C,hC,fun j hj=>(hb.cell (p:=⟨b,off+i*size+j,none⟩) h4).trans (hc j hj),hR C _ (List.getElem_mem hi) hr⟩
theorem zej {α:Type} {w:Xe} {b off k:Nat} {x:α} {R:Xd->α->Prop} (h:∃C:Xd,C.length=5∧(∀j,j<5->w.cell? ⟨b,off+k*5+j,none⟩=C[j]?)∧R C x) :
  ∃c0 c1 c2 c3 c4,w.cell? ⟨b,off+k*5,none⟩=some c0∧w.cell? ⟨b,off+k*5+1,none⟩=some c1∧w.cell? ⟨b,off+k*5+2,none⟩=some c2∧w.cell? ⟨b,off+k*5+3,none⟩=some c3∧w.cell? ⟨b,off+k*5+4,none⟩=some c4∧R [c0,c1,c2,c3,c4] x:=by
 obtain⟨C,hC,hcell,hr⟩:=h
 match C,hC with
 | [c0,c1,c2,c3,c4],_=>exact⟨c0,c1,c2,c3,c4,hcell 0 (by omega),hcell 1 (by omega),hcell 2 (by omega),hcell 3 (by omega),hcell 4 (by omega),hr⟩
theorem zeQ {α:Type} {w:Xe} {b off k:Nat} {x:α} {R:Xd->α->Prop} (h:∃C:Xd,C.length=2∧(∀j,j<2->w.cell? ⟨b,off+k*2+j,none⟩=C[j]?)∧R C x) :
  ∃c0 c1,w.cell? ⟨b,off+k*2,none⟩=some c0∧w.cell? ⟨b,off+k*2+1,none⟩=some c1∧R [c0,c1] x:=by
 obtain⟨C,hC,hcell,hr⟩:=h
 match C,hC with
 | [c0,c1],_=>exact⟨c0,c1,hcell 0 (by omega),hcell 1 (by omega),hr⟩
def zoq (w:Xe) (C:Xd) (x:Xa×Xa):Prop:=∃a b,C=[a,b]∧Byt w a x.1∧Byt w b x.2
def RdAttrs (w:Xe) (v:Xf) (l:List (Xa×Xa)):Prop:=Elems w 2 v l (zoq w)
def RdNode:(n:Nat)->Xe->Xd->Tr n->Prop
 | 0=>fun _ _ _=>False
 | n+1=>fun w C t=>∃a b c d,C=[.int .i64 t.kind,a,b,c,d]∧-9223372036854775808<=t.kind∧t.kind<=9223372036854775807∧Byt w a t.name∧Byt w b t.text∧RdAttrs w c t.attrs∧Elems w 5 d t.kids (RdNode n w)
def RdKids (n:Nat) (w:Xe) (v:Xf) (l:List (Tr n)):Prop:=Elems w 5 v l (RdNode n w)
theorem RdAttrs.keep {w w':Xe} {v:Xf} {l:List (Xa×Xa)} (h:RdAttrs w v l) (hb:Below w.heap.size w w'):RdAttrs w' v l:=
 Elems.keep h hb (fun C x _ ⟨a,b,e,h1,h2⟩=>⟨a,b,e,h1.keep hb,h2.keep hb⟩)
theorem RdNode.keep {n:Nat} {w w':Xe} {C:Xd} {t:Tr n} (h:RdNode n w C t) (hb:Below w.heap.size w w'):RdNode n w' C t:=by
 induction n generalizing C with
 | zero=>exact h
 | succ n ih=>
  obtain⟨a,b,c,d,e,k1,k2,h1,h2,h3,h4⟩:=h
  exact⟨a,b,c,d,e,k1,k2,h1.keep hb,h2.keep hb,h3.keep hb,Elems.keep h4 hb (fun C x _ hr=>ih hr)⟩
theorem RdKids.keep {n:Nat} {w w':Xe} {v:Xf} {l:List (Tr n)} (h:RdKids n w v l) (hb:Below w.heap.size w w'):RdKids n w' v l:=
 Elems.keep h hb (fun C x _ hr=>RdNode.keep hr hb)
def szA (l:List (Xa×Xa)):Nat:=l.length+(l.map fun x=>x.1.length+x.2.length).sum
def szT:(n:Nat)->Tr n->Nat
 | 0=>fun _=>0
 | n+1=>fun t=>t.name.length+t.text.length+szA t.attrs+(t.kids.length+(t.kids.map (szT n)).sum)
def szK (n:Nat) (l:List (Tr n)):Nat:=l.length+(l.map (szT n)).sum
def rest (m:Nat) (left:Int):Int:=if (m:Int)<=left then left-(m:Int) else -1
theorem zaC {m:Nat} {left:Int} (h:(m:Int)<=left):rest m left=left-(m:Int):=by rw [rest,if_pos h]
theorem zaA {m:Nat} {left:Int} (h:¬ (m:Int)<=left):rest m left = -1:=by rw [rest,if_neg h]
theorem zcB {a b:Nat} {left:Int} (h:(a:Int)<=left):rest (a+b) left=rest b (left-(a:Int)):=by
 by_cases h1:((a+b:Nat):Int)<=left
 ·rw [zaC h1,zaC (by omega)];omega
 ·rw [zaA h1,zaA (by omega)]
theorem zcN {a b:Nat} {left:Int} (h:¬ (a:Int)<=left):rest (a+b) left = -1:=zaA (by omega)
def FB (v:Xf):Xb:=v.ownBlock.toList
structure Frm (w w':Xe) (S:Xb):Prop where
 os:w'.os=w.os
 tape:w'.tape=w.tape
 output:w'.output=w.output
 size:w.heap.size<=w'.heap.size
 block:∀k,k<w.heap.size->k∉S->w'.heap[k]? = w.heap[k]?
theorem Frm.refl (w:Xe) (S:Xb):Frm w w S:=⟨rfl,rfl,rfl,Nat.le_refl _,fun _ _ _=>rfl⟩
theorem Frm.trans {a b c:Xe} {S:Xb} (h:Frm a b S) (k:Frm b c S):Frm a c S:=
 ⟨k.os.trans h.os,k.tape.trans h.tape,k.output.trans h.output,Nat.le_trans h.size k.size,fun i hi hn=>(k.block i (Nat.lt_of_lt_of_le hi h.size) hn).trans (h.block i hi hn)⟩
theorem Frm.mono {a b:Xe} {S S':Xb} (h:Frm a b S) (hs:∀g∈S,g∈S'):Frm a b S':=⟨h.os,h.tape,h.output,h.size,fun i hi hn=>h.block i hi (fun e=>hn (hs i e))⟩
theorem Frm.ofBelow {a b:Xe} (h:Below a.heap.size a b) (S:Xb):Frm a b S:=⟨h.os,h.tape,h.output,h.size,fun i hi _=>h.block i hi⟩
theorem Frm.ofGrown {a b:Xe} {row:Option Nat} (h:a.grownBy b row):Frm a b row.toList:=⟨h.os,h.tape,h.output,h.size,fun i hi hn=>h.block i hi (fun e=>hn (by rw [<-e];simp))⟩
theorem Frm.below {a b:Xe} {S:Xb} {B:Nat} (h:Frm a b S) (hB:B<=a.heap.size) (hs:∀g∈S,B<=g):Below B a b:=⟨h.os,h.tape,h.output,h.size,fun i hi=>h.block i (by omega) (fun e=>by have:=hs i e;omega)⟩
theorem Frm.new {a b c:Xe} {S S':Xb} (h:Frm a b S) (k:Frm b c S') (hs:∀g∈S',a.heap.size<=g):Frm a c S:=
 ⟨k.os.trans h.os,k.tape.trans h.tape,k.output.trans h.output,Nat.le_trans h.size k.size,fun i hi hn=>(k.block i (Nat.lt_of_lt_of_le hi h.size) (fun e=>by have:=hs i e;omega)).trans (h.block i hi hn)⟩
theorem zap {w w':Xe} {base:Nat} {e:Xg} {size:Nat} {v:Xf} {n:Nat} {xs:Xd} {S:Xb} (h:w.ownsRow base e size v n xs) (f:Frm w w' S) (hd:∀g∈FB v,g∉S):w'.ownsRow base e size v n xs:=by
 refine⟨h.1,?_⟩
 rcases h.2 with h' | ⟨g,cap,cur,rfl,hb,hg,hr⟩
 ·exact .inl h'
 ·have hlt:g<w.heap.size:=by
   by_cases hlt:g<w.heap.size
   ·exact hlt
   ·rw [Array.getElem?_eq_none (by omega)]at hg;cases hg
  exact .inr ⟨g,cap,cur,rfl,hb,(f.block g hlt (hd g (by simp [FB,Value.ownBlock]))).trans hg,hr⟩
theorem Own.frm {w w':Xe} {base:Nat} {v:Xf} {l:Xa} {S:Xb} (h:Own w base v l) (f:Frm w w' S) (hd:∀g∈FB v,g∉S):Own w' base v l:=⟨h.1,zap h.2 f hd⟩
theorem zbn {w:Xe} {base:Nat} {e:Xg} {size:Nat} {v:Xf} {n:Nat} {xs:Xd} (h:w.ownsRow base e size v n xs) (b:Nat) (hb:b<=base):w.ownsRow b e size v n xs:=by
 refine⟨h.1,?_⟩
 rcases h.2 with h' | ⟨g,cap,cur,e1,h1,h2⟩
 ·exact .inl h'
 ·exact .inr ⟨g,cap,cur,e1,by omega,h2⟩
def Rng (F:Xb) (lo hi:Nat):Prop:=∀g∈F,lo<=g∧g<hi
theorem Rng.mono {F:Xb} {lo hi lo' hi':Nat} (h:Rng F lo hi) (h1:lo'<=lo) (h2:hi<=hi'):Rng F lo' hi':=fun g hg=>by have:=h g hg;omega
theorem Rng.app {F G:Xb} {lo hi:Nat} (h:Rng F lo hi) (k:Rng G lo hi):Rng (F++G) lo hi:=fun g hg=>by
 rcases List.mem_append.1 hg with h' | h'
 ·exact h g h'
 ·exact k g h'
theorem Rng.nil (lo hi:Nat):Rng [] lo hi:=fun g hg=>by cases hg
theorem zbR {F G:Xb} {lo mid hi:Nat} (hF:F.Nodup) (hG:G.Nodup) (h:Rng F lo mid) (k:Rng G mid hi):(F++G).Nodup:=by
 rw [List.nodup_append]
 exact⟨hF,hG,fun a ha b hb e=>by have:=h a ha;have:=k b hb;omega⟩
theorem zaF (v:Xf):(FB v).Nodup:=by unfold FB;cases v.ownBlock<;>simp
theorem Own.rng {w:Xe} {base:Nat} {v:Xf} {l:Xa} (h:Own w base v l):Rng (FB v) base w.heap.size:=fun g hg=>h.lt g (by simpa [FB]using hg)
def Loc (w:Xe) (g:Nat) (cs:Array Xf) (T:Xg):Prop:=w.heap[g]? = some (.cells cs T (0,0))
theorem Loc.lt {w:Xe} {g:Nat} {cs:Array Xf} {T:Xg} (h:Loc w g cs T):g<w.heap.size:=by
 by_cases hlt:g<w.heap.size
 ·exact hlt
 ·unfold Loc at h;rw [Array.getElem?_eq_none (by omega)]at h;cases h
theorem Loc.cell {w:Xe} {g:Nat} {cs:Array Xf} {T:Xg} (h:Loc w g cs T) (j:Nat):w.cell? ⟨g,j,none⟩=cs[j]? :=cell_of_row w g j cs T (0,0) h
theorem Loc.frozen {w:Xe} {g:Nat} {cs:Array Xf} {T:Xg} (h:Loc w g cs T) (j:Nat):w.frozen? ⟨g,j,none⟩=false:=frozen_of_row w g j cs T h
theorem Loc.keep {w w':Xe} {g:Nat} {cs:Array Xf} {T:Xg} {B:Nat} (h:Loc w g cs T) (hb:Below B w w') (hB:g<B):Loc w' g cs T:=(hb.block g hB).trans h
theorem Loc.all {w w':Xe} {g:Nat} {cs:Array Xf} {T:Xg} (h:Loc w g cs T) (hb:Below w.heap.size w w'):Loc w' g cs T:=h.keep hb h.lt
theorem Loc.frm {w w':Xe} {g:Nat} {cs:Array Xf} {T:Xg} {S:Xb} (h:Loc w g cs T) (f:Frm w w' S) (hn:g∉S):Loc w' g cs T:=(f.block g h.lt hn).trans h
theorem Loc.set {w:Xe} {g:Nat} {cs:Array Xf} {T:Xg} (h:Loc w g cs T) (j:Nat) (v:Xf):Loc (w.setCell ⟨g,j,none⟩ v) g (cs.setIfInBounds j v) T:=heap_setCell_same w g j cs T v h
theorem Loc.other {w:Xe} {g:Nat} {cs:Array Xf} {T:Xg} (h:Loc w g cs T) (q j:Nat) (v:Xf) (hn:g≠q):Loc (w.setCell ⟨q,j,none⟩ v) g cs T:=(heap_setCell_other w ⟨q,j,none⟩ g v hn).trans h
theorem Loc.alloc {w:Xe} {g:Nat} {cs:Array Xf} {T:Xg} (h:Loc w g cs T) (o:Obj):Loc (w.alloc o) g cs T:=(heap_alloc_old w o h.lt).trans h
theorem Loc.made (w:Xe) (cs:Array Xf) (T:Xg):Loc (w.alloc (.cells cs T)) w.heap.size cs T:=heap_alloc_new w _
theorem zab (w:Xe) (g j:Nat) (v:Xf):Frm w (w.setCell ⟨g,j,none⟩ v) [g]:=
 ⟨rfl,rfl,rfl,by simp,fun k _ hk=>heap_setCell_other w ⟨g,j,none⟩ k v (fun e=>hk (by simp [e]))⟩
def OwElems {α:Type} (w:Xe) (e:Xg) (size:Nat) (v:Xf) (l:List α) (R:Xd->α->Xb->Prop) (F:Xb):Prop:=
 ∃(Cs:List (Xd)) (Fs:List (Xb)),Cs.length=l.length∧Fs.length=l.length∧(∀i (hi:i<l.length),(Cs.getD i []).length=size∧R (Cs.getD i []) l[i] (Fs.getD i []))∧
  w.ownsRow 0 e size v l.length Cs.flatten∧F=FB v++Fs.flatten
def OwAttr (w:Xe) (C:Xd) (x:Xa×Xa) (F:Xb):Prop:=∃a b,C=[a,b]∧Own w 0 a x.1∧Own w 0 b x.2∧F=FB a++FB b
def OwAttrs (w:Xe) (v:Xf) (l:List (Xa×Xa)) (F:Xb):Prop:=OwElems w 144 2 v l (OwAttr w) F
def OwNode:(n:Nat)->Xe->Xd->Tr n->Xb->Prop
 | 0=>fun _ _ _ _=>False
 | n+1=>fun w C t F=>∃a b c d Fc Fd,C=[.int .i64 t.kind,a,b,c,d]∧-9223372036854775808<=t.kind∧t.kind<=9223372036854775807∧Own w 0 a t.name∧Own w 0 b t.text∧
   OwAttrs w c t.attrs Fc∧OwElems w 37 5 d t.kids (OwNode n w) Fd∧F=FB a++FB b++Fc++Fd
def OwKids (n:Nat) (w:Xe) (v:Xf) (l:List (Tr n)) (F:Xb):Prop:=OwElems w 37 5 v l (OwNode n w) F
theorem zav {Fs:List (Xb)} {i g:Nat} (h:g∈Fs.getD i []):g∈Fs.flatten:=by
 by_cases hi:i<Fs.length
 ·rw [List.getD_eq_getElem?_getD,List.getElem?_eq_getElem hi]at h
  exact List.mem_flatten.2 ⟨_,List.getElem_mem hi,h⟩
 ·rw [List.getD_eq_getElem?_getD,List.getElem?_eq_none (by omega)]at h;simp at h
theorem OwElems.frm {α:Type} {w w':Xe} {e:Xg} {size:Nat} {v:Xf} {l:List α} {R R':Xd->α->Xb->Prop} {F S:Xb} (h:OwElems w e size v l R F) (f:Frm w w' S) (hd:∀g∈F,g∉S)
  (hR:∀C x G,R C x G->(∀g∈G,g∉S)->R' C x G):OwElems w' e size v l R' F:=by
 obtain⟨Cs,Fs,h1,h2,h3,h4,rfl⟩:=h
 refine⟨Cs,Fs,h1,h2,fun i hi=>⟨(h3 i hi).1,hR _ _ _ (h3 i hi).2 (fun g hg=>hd g (List.mem_append_right _ (zav hg)))⟩,zap h4 f (fun g hg=>hd g (List.mem_append_left _ hg)),rfl⟩
theorem OwAttrs.frm {w w':Xe} {v:Xf} {l:List (Xa×Xa)} {F S:Xb} (h:OwAttrs w v l F) (f:Frm w w' S) (hd:∀g∈F,g∉S):OwAttrs w' v l F:=
 OwElems.frm h f hd (fun C x G ⟨a,b,e,h1,h2,h3⟩ hG=>by
  subst h3
  exact⟨a,b,e,h1.frm f (fun g hg=>hG g (by simp [hg])),h2.frm f (fun g hg=>hG g (by simp [hg])),rfl⟩)
theorem OwNode.frm {n:Nat} {w w':Xe} {C:Xd} {t:Tr n} {F S:Xb} (h:OwNode n w C t F) (f:Frm w w' S) (hd:∀g∈F,g∉S):OwNode n w' C t F:=by
 induction n generalizing C F with
 | zero=>exact h
 | succ n ih=>
  obtain⟨a,b,c,d,Fc,Fd,e,k1,k2,h1,h2,h3,h4,rfl⟩:=h
  exact⟨a,b,c,d,Fc,Fd,e,k1,k2,h1.frm f (fun g hg=>hd g (by simp [hg])),h2.frm f (fun g hg=>hd g (by simp [hg])),h3.frm f (fun g hg=>hd g (by simp [hg])),
   OwElems.frm h4 f (fun g hg=>hd g (by simp [hg])) (fun C x G hr hG=>ih hr hG),rfl⟩
theorem OwNode.keep {n:Nat} {w w':Xe} {C:Xd} {t:Tr n} {F:Xb} (h:OwNode n w C t F) (hb:Below w.heap.size w w'):OwNode n w' C t F:=h.frm (Frm.ofBelow hb []) (fun _ _=>by simp)
theorem OwKids.frm {n:Nat} {w w':Xe} {v:Xf} {l:List (Tr n)} {F S:Xb} (h:OwKids n w v l F) (f:Frm w w' S) (hd:∀g∈F,g∉S):OwKids n w' v l F:=OwElems.frm h f hd (fun C x G hr hG=>OwNode.frm hr f hG)
theorem zif (Cs:List (Xd)) (size:Nat) (h:∀i,i<Cs.length->(Cs.getD i []).length=size) (i j:Nat) (hi:i<Cs.length) (hj:j<size):Cs.flatten[i*size+j]? = (Cs.getD i [])[j]? :=by
 induction Cs generalizing i with
 | nil=>simp at hi
 | cons C Cs ih=>
  have h0:C.length=size:=by simpa using h 0 (by simp)
  cases i with
  | zero=>simp [List.getElem?_append,h0,hj]
  | succ i=>
   have e:(i+1)*size+j=C.length+(i*size+j):=by rw [h0,Nat.succ_mul];omega
   rw [List.flatten_cons,e,List.getElem?_append_right (by omega),Nat.add_sub_cancel_left]
   have:=ih (fun k hk=>by simpa using h (k+1) (by simpa using hk)) i (by simpa using hi)
   simpa using this
theorem OwElems.rd {α:Type} {w:Xe} {e:Xg} {size:Nat} {v:Xf} {l:List α} {R:Xd->α->Xb->Prop} {R':Xd->α->Prop} {F:Xb} (h:OwElems w e size v l R F) (hm:l.length<=maxLen)
  (hR:∀C x G,R C x G->R' C x):Elems w size v l R':=by
 obtain⟨Cs,Fs,h1,h2,h3,h4,rfl⟩:=h
 have h4':=h4
 refine⟨hm,?_⟩
 rcases h4.2 with ⟨rfl,h0⟩ | ⟨g,cap,cur,rfl,hb,hg,hnc,hcm,hcs,htake⟩
 ·exact .inl ⟨rfl,List.eq_nil_of_length_eq_zero h0⟩
 ·by_cases h0:l=[]
  ·subst h0
   exact .inr (.inl ⟨_,cap,rfl,hcm,rfl⟩)
  ·refine .inr (.inr ⟨g,0,cap,rfl,hnc,hcm,h0,(h4'.lt g rfl).2,fun i hi=>⟨Cs.getD i [],(h3 i hi).1,fun j hj=> ?_,hR _ _ _ (h3 i hi).2⟩⟩)
   have hlt:i*size+j<l.length*size:=by
    have:(i+1)*size<=l.length*size:=Nat.mul_le_mul_right _ hi
    rw [Nat.succ_mul]at this;omega
   rw [Nat.zero_add,h4'.cellAt (i*size+j) hlt]
   exact zif Cs size (fun k hk=>(h3 k (by omega)).1) i j (by omega) hj
theorem OwElems.len {α:Type} {w:Xe} {e:Xg} {size:Nat} {v:Xf} {l:List α} {R:Xd->α->Xb->Prop} {F:Xb} (h:OwElems w e size v l R F):l.length<=maxLen:=by
 obtain⟨Cs,Fs,h1,h2,h3,h4,rfl⟩:=h
 rcases h4.2 with ⟨_,h0⟩ | ⟨g,cap,cur,rfl,hb,hg,hnc,hcm,_⟩
 ·rw [h0];exact Nat.zero_le _
 ·omega
theorem OwAttrs.rd {w:Xe} {v:Xf} {l:List (Xa×Xa)} {F:Xb} (h:OwAttrs w v l F):RdAttrs w v l:=OwElems.rd h (OwElems.len h) (fun C x G ⟨a,b,e,h1,h2,_⟩=>⟨a,b,e,h1.byt,h2.byt⟩)
theorem OwNode.rd {n:Nat} {w:Xe} {C:Xd} {t:Tr n} {F:Xb} (h:OwNode n w C t F):RdNode n w C t:=by
 induction n generalizing C F with
 | zero=>exact h
 | succ n ih=>
  obtain⟨a,b,c,d,Fc,Fd,e,k1,k2,h1,h2,h3,h4,rfl⟩:=h
  exact⟨a,b,c,d,e,k1,k2,h1.byt,h2.byt,h3.rd,OwElems.rd h4 (OwElems.len h4) (fun C x G hr=>ih hr)⟩
theorem OwKids.rd {n:Nat} {w:Xe} {v:Xf} {l:List (Tr n)} {F:Xb} (h:OwKids n w v l F):RdKids n w v l:=OwElems.rd h (OwElems.len h) (fun C x G hr=>OwNode.rd hr)
theorem zeP {a b:Int} (h:a=b):Ending.returned (.int .i64 a)=.returned (.int .i64 b):=by rw [h]
theorem zeS (w:Xe) (a:Xc) (n cap:Nat) (left:Int) (hn:n<=maxLen) (h0:0<=left) (h1:left<=1000000000) :
  Calls Tryz.prog 31 #[.slice a n cap,.int .i64 left] w fun e w'=>e=.returned (.int .i64 (rest n left))∧w'=w:=by
 unfold maxLen at hn
 by_cases h:(n:Int)<=left
 ·have HR:=hide (zaC h)
  have hd:¬ left-(n:Int)<0:=by omega
  go_enter Tryz.func31,Tryz.ntmps31
  go_wp2
  go_ret
  exact⟨by rw [zaa HR];rfl,rfl⟩
 ·have HR:=hide (zaA h)
  have hd:left-(n:Int)<0:=by omega
  go_enter Tryz.func31,Tryz.ntmps31
  go_wp2
  go_ret
  exact⟨by rw [zaa HR];rfl,rfl⟩
set_option maxHeartbeats 1600000 in
theorem zmU (w:Xe) (a b:Xf) (x:Xa×Xa) (left:Int) (ha:Byt w a x.1) (hb:Byt w b x.2) (h0:0<=left) (h1:left<=1000000000) :
  Calls Tryz.prog 71 #[.agg #[a,b],.int .i64 left] w fun e w'=>e=.returned (.int .i64 (rest (x.1.length+x.2.length) left))∧Below w.heap.size w w':=by
 obtain⟨a1,c1,rfl,_,_⟩:=ha.shape
 obtain⟨a2,c2,rfl,_,_⟩:=hb.shape
 have m1:=ha.2.1
 have m2:=hb.2.1
 by_cases h2:((x.1.length:Nat):Int)<=left
 ·have HR:=hide (zcB (b:=x.2.length) h2)
  go_enter Tryz.func71,Tryz.ntmps71
  go_wp2_with fail
  refine (zeS _ _ _ _ left m1 h0 h1).mono ?_
  rintro e w1 ⟨rfl,rfl⟩
  rw [zaC h2]
  have hd:¬ left-(x.1.length:Int)<0:=by omega
  go_wp2_with fail
  refine (zeS _ _ _ _ (left-(x.1.length:Int)) m2 (by omega) (by omega)).mono ?_
  rintro e w2 ⟨rfl,rfl⟩
  by_cases h3:((x.2.length:Nat):Int)<=left-(x.1.length:Int)
  ·rw [zaC h3]at HR ⊢
   have hd2:¬ left-(x.1.length:Int)-(x.2.length:Int)<0:=by omega
   go_wp2
   go_ret
   exact⟨by rw [zaa HR];rfl,(Below.refl _ _).alloc (Nat.le_refl _) _⟩
  ·rw [zaA h3]at HR ⊢
   go_wp2
   go_ret
   exact⟨by rw [zaa HR];rfl,(Below.refl _ _).alloc (Nat.le_refl _) _⟩
 ·have HR:=hide (zcN (b:=x.2.length) h2)
  go_enter Tryz.func71,Tryz.ntmps71
  go_wp2_with fail
  refine (zeS _ _ _ _ left m1 h0 h1).mono ?_
  rintro e w1 ⟨rfl,rfl⟩
  rw [zaA (by omega)]
  go_wp2
  go_ret
  exact⟨by rw [zaa HR];rfl,(Below.refl _ _).alloc (Nat.le_refl _) _⟩
def zbK {α:Type} (f:α->Nat) (l:List α) (k:Nat):Nat:=((l.take k).map f).sum
theorem zdN {α:Type} (f:α->Nat) (l:List α) (k:Nat) (h:k<l.length):zbK f l (k+1)=zbK f l k+f l[k]:=by
 unfold zbK
 rw [List.take_succ_eq_append_getElem h]
 simp only [List.map_append,List.sum_append,List.map_cons,List.map_nil,List.sum_cons,List.sum_nil,Nat.add_zero]
theorem zjj {α:Type} (f:α->Nat) (l:List α):zbK f l l.length=(l.map f).sum:=by simp [zbK]
theorem zfb {α:Type} (f:α->Nat) (l:List α) (k:Nat):zbK f l k<=(l.map f).sum:=by
 have h:(l.map f).sum=zbK f l k+((l.drop k).map f).sum:=by
  unfold zbK
  rw [<-List.sum_append,<-List.map_append,List.take_append_drop]
 omega
set_option maxHeartbeats 1600000 in
theorem zlD (w:Xe) (v:Xf) (l:List (Xa×Xa)) (left:Int) (h:RdAttrs w v l) (h0:0<=left) (h1:left<=1000000000) :
  Calls Tryz.prog 32 #[v,.int .i64 left] w fun e w'=>e=.returned (.int .i64 (rest (szA l) left))∧Below w.heap.size w w':=by
 have hm:=h.1
 unfold maxLen at hm
 by_cases h2:(l.length:Int)<=left
 ·have hd:¬ left-(l.length:Int)<0:=by omega
  obtain⟨_,⟨rfl,rfl⟩ | ⟨x,cap,rfl,hc,rfl⟩ | ⟨b,off,cap,rfl,g1,g2,g3,g4,g5⟩⟩:=h
  ·go_enter Tryz.func32,Tryz.ntmps32
   go_wp2
   refine wp_loop_rounds 1 ?_
   rw [rounds_succ]
   go_wp2
   go_ret
   exact⟨zeP (by rw [zaC (by simpa [szA]using h0)];simp [szA]),Below.refl _ _⟩
  ·go_enter Tryz.func32,Tryz.ntmps32
   go_wp2
   refine wp_loop_rounds 1 ?_
   rw [rounds_succ]
   go_wp2
   go_ret
   exact⟨zeP (by rw [zaC (by simpa [szA]using h0)];simp [szA]),Below.refl _ _⟩
  ·have HE:=hide (zcB (b:=(l.map fun x=>x.1.length+x.2.length).sum) h2)
   go_enter Tryz.func32,Tryz.ntmps32
   go_wp2
   go_loopw [1,5] (fun q i wr=>∃k:Nat,k<=l.length∧i=.int .i64 k∧((zbK (fun x:Xa×Xa=>x.1.length+x.2.length) l k:Nat):Int)<=left-(l.length:Int)∧q=.int .i64 (left-(l.length:Int)-(zbK (fun x:Xa×Xa=>x.1.length+x.2.length) l k:Nat))∧Below w.heap.size w wr) (fun _ i _=>l.length-(intOf i).toNat)
   case atStart=>exact⟨0,Nat.zero_le _,rfl,by simp [zbK];omega,by simp [zbK],Below.refl _ _⟩
   case round=>
    obtain⟨k,hk,rfl,hs,rfl,hB⟩:=hrel
    by_cases hlt:k<l.length
    ·obtain⟨C,hC,hcell,c0,c1,rfl,hc0,hc1⟩:=g5 k hlt
     have e0:=(hB.cell (p:=⟨b,off+k*2,none⟩) g4).trans (hcell 0 (by omega))
     have e1:=(hB.cell (p:=⟨b,off+k*2+1,none⟩) g4).trans (hcell 1 (by omega))
     simp only [List.getElem?_cons_zero,List.getElem?_cons_succ]at e0 e1
     have hlt':(k:Int)<(l.length:Int):=by omega
     obtain⟨a1,k1,hsh1,_,_⟩:=hc0.shape
     obtain⟨a2,k2,hsh2,_,_⟩:=hc1.shape
     subst hsh1 hsh2
     generalize hq:zbK (fun x:Xa×Xa=>x.1.length+x.2.length) l k=q at *
     have HQ:=hide hq
     clear hcell g5 hq
     have hst:=zdN (fun x:Xa×Xa=>x.1.length+x.2.length) l k hlt
     have hle:=zfb (fun x:Xa×Xa=>x.1.length+x.2.length) l (k+1)
     rw [hst]at hle
     rw [HQ.out]at hst hle
     have HST:=hide hst
     clear hst
     go_wp2_with fail
     refine (zmU wr _ _ l[k] (left-(l.length:Int)-(q:Int)) (hc0.keep hB) (hc1.keep hB) (by omega) (by omega)).mono ?_
     rintro e w2 ⟨rfl,hB2⟩
     have hB3:=hB.trans (hB2.mono hB.size)
     clear hc0 hc1 hC e0 e1
     generalize l[k].fst.length+l[k].snd.length=m at *
     by_cases h3:(m:Int)<=left-(l.length:Int)-(q:Int)
     ·rw [zaC h3]
      have hd3:¬ left-(l.length:Int)-(q:Int)-(m:Int)<0:=by omega
      go_wp2
      go_roundw
      case rel=>exact⟨k+1,by omega,by go_num,by rw [zaa HST];omega,by rw [zaa HST];exact congrArg (Value.int .i64) (by omega),hB3⟩
      case measure=>simp [intOf];omega
     ·rw [zaA h3]
      have HF:=hide (show rest (szA l) left = -1 by unfold szA;rw [zaa HE,zaA (by omega)])
      go_wp2
      go_ret
      exact⟨by rw [zaa HF];rfl,hB3⟩
    ·have e:k=l.length:=by omega
     subst e
     rw [zjj]at hs ⊢
     have HF:=hide (show rest (szA l) left=left-(l.length:Int)-((l.map fun x=>x.1.length+x.2.length).sum:Nat) by unfold szA;rw [zaa HE,zaC hs])
     go_wp2
     go_ret
     exact⟨by rw [zaa HF];rfl,hB⟩
 ·have HF:=hide (show rest (szA l) left = -1 from zcN h2)
  obtain⟨a,cap,rfl,_,_⟩:=h.shape
  have hd:left-(l.length:Int)<0:=by omega
  go_enter Tryz.func32,Tryz.ntmps32
  go_wp2
  go_ret
  exact⟨by rw [zaa HF];rfl,Below.refl _ _⟩
def zdc (n:Nat):Prop:=∀(w:Xe) (a b c d e:Xf) (t:Tr n) (left:Int),RdNode n w [a,b,c,d,e] t->0<=left->left<=1000000000->
  Calls Tryz.prog 13 #[.agg #[a,b,c,d,e],.int .i64 left] w fun e w'=>e=.returned (.int .i64 (rest (szT n t) left))∧Below w.heap.size w w'
set_option maxHeartbeats 1600000 in
theorem zlx (n:Nat) (H:zdc n) (w:Xe) (v:Xf) (l:List (Tr n)) (left:Int) (h:RdKids n w v l) (h0:0<=left) (h1:left<=1000000000) :
  Calls Tryz.prog 33 #[v,.int .i64 left] w fun e w'=>e=.returned (.int .i64 (rest (szK n l) left))∧Below w.heap.size w w':=by
 have hm:=h.1
 unfold maxLen at hm
 by_cases h2:(l.length:Int)<=left
 ·have hd:¬ left-(l.length:Int)<0:=by omega
  obtain⟨_,⟨rfl,rfl⟩ | ⟨x,cap,rfl,hc,rfl⟩ | ⟨b,off,cap,rfl,g1,g2,g3,g4,g5⟩⟩:=h
  ·go_enter Tryz.func33,Tryz.ntmps33
   go_wp2_with fail
   refine wp_loop_rounds 1 ?_
   rw [rounds_succ]
   go_wp2_with fail
   go_ret
   exact⟨zeP (by rw [zaC (by simpa [szK]using h0)];simp [szK]),Below.refl _ _⟩
  ·go_enter Tryz.func33,Tryz.ntmps33
   go_wp2_with fail
   refine wp_loop_rounds 1 ?_
   rw [rounds_succ]
   go_wp2_with fail
   go_ret
   exact⟨zeP (by rw [zaC (by simpa [szK]using h0)];simp [szK]),Below.refl _ _⟩
  ·have HE:=hide (zcB (b:=(l.map (szT n)).sum) h2)
   go_enter Tryz.func33,Tryz.ntmps33
   go_wp2_with fail
   go_loopw [1,5] (fun q i wr=>∃k:Nat,k<=l.length∧i=.int .i64 k∧((zbK (szT n) l k:Nat):Int)<=left-(l.length:Int)∧q=.int .i64 (left-(l.length:Int)-(zbK (szT n) l k:Nat))∧Below w.heap.size w wr) (fun _ i _=>l.length-(intOf i).toNat)
   case atStart=>exact⟨0,Nat.zero_le _,rfl,by simp [zbK];omega,by simp [zbK],Below.refl _ _⟩
   case round=>
    obtain⟨k,hk,rfl,hs,rfl,hB⟩:=hrel
    by_cases hlt:k<l.length
    ·obtain⟨C,hC,hcell,hr⟩:=g5 k hlt
     obtain⟨c0,c1,c2,c3,c4,rfl⟩:∃c0 c1 c2 c3 c4,C=[c0,c1,c2,c3,c4]:=by
      match C,hC with
      | [c0,c1,c2,c3,c4],_=>exact⟨c0,c1,c2,c3,c4,rfl⟩
     have e0:=(hB.cell (p:=⟨b,off+k*5,none⟩) g4).trans (hcell 0 (by omega))
     have e1:=(hB.cell (p:=⟨b,off+k*5+1,none⟩) g4).trans (hcell 1 (by omega))
     have e2:=(hB.cell (p:=⟨b,off+k*5+2,none⟩) g4).trans (hcell 2 (by omega))
     have e3:=(hB.cell (p:=⟨b,off+k*5+3,none⟩) g4).trans (hcell 3 (by omega))
     have e4:=(hB.cell (p:=⟨b,off+k*5+4,none⟩) g4).trans (hcell 4 (by omega))
     simp only [List.getElem?_cons_zero,List.getElem?_cons_succ]at e0 e1 e2 e3 e4
     have hlt':(k:Int)<(l.length:Int):=by omega
     have hst:=zdN (szT n) l k hlt
     have hle:=zfb (szT n) l (k+1)
     rw [hst]at hle
     generalize hq:zbK (szT n) l k=q at *
     have HQ:=hide hq
     have HST:=hide hst
     clear hcell g5 hq hst
     go_wp2_with fail
     refine (H wr _ _ _ _ _ l[k] (left-(l.length:Int)-(q:Int)) (hr.keep hB) (by omega) (by omega)).mono ?_
     rintro e w2 ⟨rfl,hB2⟩
     have hB3:=hB.trans (hB2.mono hB.size)
     clear hC e0 e1 e2 e3 e4 hr
     generalize szT n l[k]=m at *
     by_cases h3:(m:Int)<=left-(l.length:Int)-(q:Int)
     ·rw [zaC h3]
      have hd3:¬ left-(l.length:Int)-(q:Int)-(m:Int)<0:=by omega
      go_wp2_with fail
      go_roundw
      case rel=>exact⟨k+1,by omega,by go_num,by rw [zaa HST];omega,by rw [zaa HST];exact congrArg (Value.int .i64) (by omega),hB3⟩
      case measure=>simp [intOf];omega
     ·rw [zaA h3]
      have HF:=hide (show rest (szK n l) left = -1 by unfold szK;rw [zaa HE,zaA (by omega)])
      go_wp2_with fail
      go_ret
      exact⟨by rw [zaa HF];rfl,hB3⟩
    ·have e:k=l.length:=by omega
     subst e
     rw [zjj]at hs ⊢
     have HF:=hide (show rest (szK n l) left=left-(l.length:Int)-((l.map (szT n)).sum:Nat) by unfold szK;rw [zaa HE,zaC hs])
     go_wp2_with fail
     go_ret
     exact⟨by rw [zaa HF];rfl,hB⟩
 ·have HF:=hide (show rest (szK n l) left = -1 from zcN h2)
  obtain⟨a,cap,rfl,_,_⟩:=Elems.shape h
  have hd:left-(l.length:Int)<0:=by omega
  go_enter Tryz.func33,Tryz.ntmps33
  go_wp2_with fail
  go_ret
  exact⟨by rw [zaa HF];rfl,Below.refl _ _⟩
theorem zlF:zdc 0:=fun _ _ _ _ _ _ t=>t.elim
set_option maxHeartbeats 3200000 in
theorem zlL (n:Nat) (H:zdc n):zdc (n+1):=by
 intro w a b c d e t left hr h0 h1
 obtain⟨a',b',c',d',e0,k1,k2,hb,hc,hd,he⟩:=hr
 simp only [List.cons.injEq,and_true]at e0
 obtain⟨rfl,rfl,rfl,rfl,rfl⟩:=e0
 obtain⟨ab,cb,rfl,_,_⟩:=hb.shape
 obtain⟨ac,cc,rfl,_,_⟩:=hc.shape
 obtain⟨ad,cd,rfl,_,_⟩:=Elems.shape hd
 obtain⟨ae,ce,rfl,_,_⟩:=Elems.shape he
 have mb:=hb.2.1
 have mc:=hc.2.1
 have hz:szT (n+1) t=t.name.length+(t.text.length+(szA t.attrs+szK n t.kids)):=by show t.name.length+t.text.length+szA t.attrs+(t.kids.length+(t.kids.map (szT n)).sum)=_;unfold szK;omega
 rw [hz]
 have hA:Below w.heap.size w (w.alloc (.cells #[.int .i64 t.kind,.slice ab t.name.length cb,.slice ac t.text.length cc,.slice ad t.attrs.length cd,.slice ae t.kids.length ce] 26)):=(Below.refl _ _).alloc (Nat.le_refl _) _
 go_enter Tryz.func13,Tryz.ntmps13
 go_wp2_with fail
 refine (zeS _ _ _ _ left mb h0 h1).mono ?_
 rintro e w1 ⟨rfl,rfl⟩
 by_cases h2:(t.name.length:Int)<=left
 ·have H2:=hide (zcB (b:=t.text.length+(szA t.attrs+szK n t.kids)) h2)
  rw [zaC h2]
  have hd2:¬ left-(t.name.length:Int)<0:=by omega
  go_wp2_with fail
  refine (zeS _ _ _ _ (left-(t.name.length:Int)) mc (by omega) (by omega)).mono ?_
  rintro e w1 ⟨rfl,rfl⟩
  by_cases h3:(t.text.length:Int)<=left-(t.name.length:Int)
  ·have H3:=hide (zcB (b:=szA t.attrs+szK n t.kids) h3)
   rw [zaC h3]
   have hd3:¬ left-(t.name.length:Int)-(t.text.length:Int)<0:=by omega
   go_wp2_with fail
   refine (zlD _ _ t.attrs (left-(t.name.length:Int)-(t.text.length:Int)) (hd.keep hA) (by omega) (by omega)).mono ?_
   rintro e w2 ⟨rfl,hB2⟩
   have hA2:=zad hA hB2
   by_cases h4:(szA t.attrs:Int)<=left-(t.name.length:Int)-(t.text.length:Int)
   ·have H4:=hide (zcB (b:=szK n t.kids) h4)
    rw [zaC h4]
    have hd4:¬ left-(t.name.length:Int)-(t.text.length:Int)-(szA t.attrs:Int)<0:=by omega
    have hc4:=cell_later hB2 (show (w.alloc (.cells #[.int .i64 t.kind,.slice ab t.name.length cb,.slice ac t.text.length cc,.slice ad t.attrs.length cd,.slice ae t.kids.length ce] 26)).cell? ⟨w.heap.size,4,none⟩=some (.slice ae t.kids.length ce) by simp)
    go_wp2_with fail
    refine (zlx n H w2 _ t.kids (left-(t.name.length:Int)-(t.text.length:Int)-(szA t.attrs:Int)) (RdKids.keep he hA2) (by omega) (by omega)).mono ?_
    rintro e w3 ⟨rfl,hB3⟩
    have hA3:=zad hA2 hB3
    clear hB2 hB3 hA hA2 hc4
    by_cases h5:(szK n t.kids:Int)<=left-(t.name.length:Int)-(t.text.length:Int)-(szA t.attrs:Int)
    ·have H5:=hide (zaC h5)
     rw [zaC h5]
     have hd5:¬ left-(t.name.length:Int)-(t.text.length:Int)-(szA t.attrs:Int)-(szK n t.kids:Int)<0:=by omega
     go_wp2_with fail
     go_ret
     exact⟨by rw [zaa H2,zaa H3,zaa H4,zaa H5];rfl,hA3⟩
    ·have H5:=hide (zaA h5)
     rw [zaA h5]
     go_wp2_with fail
     go_ret
     exact⟨by rw [zaa H2,zaa H3,zaa H4,zaa H5];rfl,hA3⟩
   ·have H4:=hide (zcN (b:=szK n t.kids) h4)
    rw [zaA h4]
    clear hB2 hA
    go_wp2_with fail
    go_ret
    exact⟨by rw [zaa H2,zaa H3,zaa H4];rfl,hA2⟩
  ·have H3:=hide (zcN (b:=szA t.attrs+szK n t.kids) h3)
   rw [zaA h3]
   have HA:=hide hA
   clear hA
   go_wp2_with fail
   go_ret
   exact⟨by rw [zaa H2,zaa H3];rfl,zaa HA⟩
 ·have H2:=hide (zcN (b:=t.text.length+(szA t.attrs+szK n t.kids)) h2)
  rw [zaA h2]
  have HA:=hide hA
  clear hA
  go_wp2_with fail
  go_ret
  exact⟨by rw [zaa H2];rfl,zaa HA⟩
theorem zng (n:Nat):zdc n:=by
 induction n with
 | zero=>exact zlF
 | succ n ih=>exact zlL n ih
set_option maxHeartbeats 1600000 in
theorem zmX (w:Xe) (a b:Xf) (x:Xa×Xa) (ha:Byt w a x.1) (hb:Byt w b x.2) (hs:x.1.length+x.2.length<=2097152) :
  Calls Tryz.prog 81 #[.agg #[a,b]] w fun e w'=>∃a1 c1 a2 c2,e=.returned (.agg #[.slice a1 x.1.length c1,.slice a2 x.2.length c2])∧∃F,OwAttr w' [.slice a1 x.1.length c1,.slice a2 x.2.length c2] x F∧F.Nodup∧Rng F w.heap.size w'.heap.size∧Below w.heap.size w w':=by
 obtain⟨p1,k1,rfl,_,_⟩:=ha.shape
 obtain⟨p2,k2,rfl,_,_⟩:=hb.shape
 go_enter Tryz.func81,Tryz.ntmps81
 go_wp2_with fail
 have l0:=(((Loc.made w #[.slice p1 x.1.length k1,.slice p2 x.2.length k2] 137).alloc (.cells #[.slice none 0 0,.slice none 0 0] 144)).alloc (.cells #[.slice none 0 0,.slice none 0 0] 144))
 have l1:=(Loc.made (w.alloc (.cells #[.slice p1 x.1.length k1,.slice p2 x.2.length k2] 137)) #[.slice none 0 0,.slice none 0 0] 144).alloc (.cells #[.slice none 0 0,.slice none 0 0] 144)
 have l2:=Loc.made ((w.alloc (.cells #[.slice p1 x.1.length k1,.slice p2 x.2.length k2] 137)).alloc (.cells #[.slice none 0 0,.slice none 0 0] 144)) #[.slice none 0 0,.slice none 0 0] 144
 have hA:Below w.heap.size w (((w.alloc (.cells #[.slice p1 x.1.length k1,.slice p2 x.2.length k2] 137)).alloc (.cells #[.slice none 0 0,.slice none 0 0] 144)).alloc (.cells #[.slice none 0 0,.slice none 0 0] 144)):=(((Below.refl _ _).alloc (Nat.le_refl _) _).alloc (by simp) _).alloc (by simp;omega) _
 simp only [World.size_alloc]at l1 l2
 generalize hW:(((w.alloc (.cells #[.slice p1 x.1.length k1,.slice p2 x.2.length k2] 137)).alloc (.cells #[.slice none 0 0,.slice none 0 0] 144)).alloc (.cells #[.slice none 0 0,.slice none 0 0] 144))=W at *
 have hWs:W.heap.size=w.heap.size+3:=by rw [<-hW];simp
 clear hW
 have HWs:=hide hWs
 clear hWs
 refine (zee W _ x.1 (ha.keep hA) (by omega)).mono ?_
 rintro e w1 ⟨v1,rfl,ho1,_,hB1⟩
 obtain⟨a1,c1,hv1,_,_⟩:=ho1.byt.shape
 subst hv1
 have r1:=ho1.rng
 replace l0:=l0.all hB1
 replace l1:=l1.all hB1
 replace l2:=l2.all hB1
 have e0:=l0.cell 1
 have e2:=l2.cell 0
 have f2:=l2.frozen 0
 simp at e0 e2
 have hA1:=zad hA hB1
 have m0:=l0.other (w.heap.size+1+1) 0 (.slice a1 x.1.length c1) (by omega)
 have m1:=l1.other (w.heap.size+1+1) 0 (.slice a1 x.1.length c1) (by omega)
 have m2:=l2.set 0 (.slice a1 x.1.length c1)
 have hf1:=zab w1 (w.heap.size+1+1) 0 (.slice a1 x.1.length c1)
 have ho2:=ho1.frm hf1 (fun g hg=>by have:=r1 g hg;have:=zaa HWs;simp;omega)
 have hA2:Below w.heap.size w (w1.setCell ⟨w.heap.size+1+1,0,none⟩ (.slice a1 x.1.length c1)):=hA1.setCell (by simp;omega) _
 have hs1:=hB1.size
 have M:=hide (And.intro m0 (And.intro m1 m2))
 have HO:=hide ho2
 have HA2:=hide hA2
 clear hB1 l0 l1 l2 m0 m1 m2 hf1 ho1 ho2 hA2 hA hA1
 go_wp2_with fail
 refine (zee _ _ x.2 (hb.keep (zaa HA2)) (by omega)).mono ?_
 rintro e w2 ⟨v2,rfl,ho3,_,hB2⟩
 obtain⟨a2,c2,hv2,_,_⟩:=ho3.byt.shape
 subst hv2
 have r2:=ho3.rng
 have n1:=(zaa M).2.1.all hB2
 have n2:=(zaa M).2.2.all hB2
 have hA3:=zad (zaa HA2) hB2
 have ho4:=(zaa HO).keep hB2
 have hs2:=hB2.size
 have g0:=n1.cell 0
 have g1:=n1.cell 1
 have g2:=n2.cell 0
 have g3:=n2.cell 1
 have g4:=n1.frozen 0
 have g5:=n1.frozen 1
 have g6:=n2.frozen 1
 simp at g0 g1 g2 g3 hs2
 clear M HO HA2 hB2
 simp only [World.size_setCell]at r2 ho3
 have hsz:=zaa HWs
 have hf:Frm w2 (((w2.setCell ⟨w.heap.size+1+1,1,none⟩ (.slice a2 x.2.length c2)).setCell ⟨w.heap.size+1,0,none⟩ (.slice a1 x.1.length c1)).setCell ⟨w.heap.size+1,1,none⟩ (.slice a2 x.2.length c2)) [w.heap.size+1+1,w.heap.size+1]:=
  (((zab w2 _ _ _).mono (by simp)).trans ((zab _ _ _ _).mono (by simp))).trans ((zab _ _ _ _).mono (by simp))
 have ho5:=(ho4.frm hf (fun g hg=>by have:=r1 g hg;simp;omega)).mono (Nat.zero_le _)
 have ho6:=(ho3.frm hf (fun g hg=>by have:=r2 g hg;simp;omega)).mono (Nat.zero_le _)
 have hA4:=hA3.trans (hf.below hA3.size (fun g hg=>by simp at hg;omega))
 have hrng:Rng (FB (.slice a1 x.1.length c1)++FB (.slice a2 x.2.length c2)) w.heap.size w2.heap.size:=(r1.mono (by omega) (by omega)).app (r2.mono (by omega) (by omega))
 have hnd:=zbR (zaF (.slice a1 x.1.length c1)) (zaF (.slice a2 x.2.length c2)) r1 r2
 have HP:=hide (And.intro ho5 (And.intro ho6 (And.intro hA4 (And.intro hrng hnd))))
 clear ho5 ho6 hA4 hrng hnd hf ho3 ho4 hA3 n1 n2 r1 r2 hsz
 go_wp2_with fail
 obtain⟨ho5,ho6,hA4,hrng,hnd⟩:=zaa HP
 exact bodyPost_ret (v:=.agg #[.slice a1 x.1.length c1,.slice a2 x.2.length c2]) (by simp [results,Tryz.results81,go_sem,g0,g1]) rfl ⟨a1,c1,a2,c2,rfl,_,⟨_,_,rfl,ho5,ho6,rfl⟩,hnd,hrng.mono (Nat.le_refl _) (by simp),hA4⟩
set_option maxRecDepth 100000
def zaL:Obj:=.map #[{ key:=.string ⟨#[98,114]⟩,val:=.agg #[],born:=0 },{ key:=.string ⟨#[104,114]⟩,val:=.agg #[],born:=1 }] 2
theorem ziP (W:Xe) (o o':Obj):({ (W.alloc o)with heap:=(W.alloc o).heap.setIfInBounds W.heap.size o' }:Xe)=W.alloc o':=by
 have e:(W.heap.push o).setIfInBounds W.heap.size o'=W.heap.push o':=by
  apply Array.ext'
  rw [Array.toList_setIfInBounds,Array.toList_push,Array.toList_push]
  rw [List.set_append_right _ _ (by simp)]
  simp
 show ({ W with heap:=(W.heap.push o).setIfInBounds W.heap.size o' }:Xe)={ W with heap:=W.heap.push o' }
 rw [e]
theorem znw (W:Xe):(Instr.mapUpdate 108 (.map (some W.heap.size)) (.string ⟨#[98,114]⟩) (.agg #[])).run Tryz.prog (W.alloc (.map #[] 0))=.ok () (W.alloc (.map #[{ key:=.string ⟨#[98,114]⟩,val:=.agg #[],born:=0 }] 1)):=by
 rw [run_mapUpdate_first (P:=Tryz.prog) (W.alloc (.map #[] 0)) 108 9 96 W.heap.size 0 ⟨#[98,114]⟩ (.agg #[]) Tryz.underlying108 Tryz.underlying9 (heap_alloc_new W _),ziP]
theorem zmK (W:Xe):(Instr.mapUpdate 108 (.map (some W.heap.size)) (.string ⟨#[104,114]⟩) (.agg #[])).run Tryz.prog (W.alloc (.map #[{ key:=.string ⟨#[98,114]⟩,val:=.agg #[],born:=0 }] 1))=.ok () (W.alloc zaL):=by
 have hb:=heap_alloc_new W (.map #[{ key:=.string ⟨#[98,114]⟩,val:=.agg #[],born:=0 }] 1)
 have hf:Instr.findNow .string (.string ⟨#[104,114]⟩) ([{ key:=.string ⟨#[98,114]⟩,val:=.agg #[],born:=0 }]:List MapEntry) 0=some none:=rfl
 have hc:(Instr.checkKey false 10000 9 (.string ⟨#[104,114]⟩)).run Tryz.prog (W.alloc (.map #[{ key:=.string ⟨#[98,114]⟩,val:=.agg #[],born:=0 }] 1))=.ok () (W.alloc (.map #[{ key:=.string ⟨#[98,114]⟩,val:=.agg #[],born:=0 }] 1)):=MapKept.run_checkKey (k:=.string ⟨#[104,114]⟩) Tryz.underlying9 (by simp [MapKept.IsKey]) false 9999
 simp [Instr.mapUpdate,run_underlying Tryz.underlying108,MapKept.run_getObj_map hb,hc,MapKept.run_findKey Tryz.underlying9 hf,MapKept.run_setObj_map _ hb,Result.andThen]
 exact ziP W _ _
theorem zqi (g:Nat) (w:Xe) (cs:Array Xf) (hl:Loc w g cs 110) (c3:Xf) (h3:w.cell? ⟨g,3,none⟩=some c3) :
  Calls Tryz.prog 119 #[.pointer (some ⟨g,0,none⟩)] w fun e w'=>e=.returned (.tuple #[])∧w'=(w.setCell ⟨g,3,none⟩ (.map (some w.heap.size))).alloc zaL:=by
 have hmm:= @run_makeMap Tryz.prog
 have h1:=znw w
 have h2:=zmK w
 have hg:=hl.lt
 have f3:=hl.frozen 3
 go_enter Tryz.func119,Tryz.ntmps119
 go_wp2
 go_end0
 exact⟨rfl,rfl⟩
theorem disable (w:Xe):(callFunc 176 #[]).run Tryz.prog w=.ok (.value (.tuple #[])) w:=run_call_mark0 Tryz.func176 (by kernel_rfl) (by kernel_rfl) (by kernel_rfl) .disable (by kernel_rfl) w
theorem enable (w:Xe):(callFunc 178 #[]).run Tryz.prog w=.ok (.value (.tuple #[])) w:=run_call_mark0 Tryz.func178 (by kernel_rfl) (by kernel_rfl) (by kernel_rfl) .enable (by kernel_rfl) w
theorem acquire (a:Addr) (w:Xe):(callFunc 179 #[.pointer (some a)]).run Tryz.prog w=.ok (.value (.tuple #[])) w:=run_call_marked Tryz.func179 (by kernel_rfl) (by kernel_rfl) (by kernel_rfl) .acquire (by kernel_rfl) a w
theorem releaseMerge (a:Addr) (w:Xe):(callFunc 181 #[.pointer (some a)]).run Tryz.prog w=.ok (.value (.tuple #[])) w:=run_call_marked Tryz.func181 (by kernel_rfl) (by kernel_rfl) (by kernel_rfl) .releaseMerge (by kernel_rfl) a w
theorem zdk (a:Addr) (x:Xf) (u:FrameMode) (w:Xe) (hc:w.cell? a=some x) (hz:w.frozen? a=false) :
  CallsD Tryz.prog 151 #[.pointer (some a),.bool true] u w fun e u' w'=>u'=u∧(e=.returned (.tuple #[])∧w'=w.drew.setCell a (.int .u32 1)):=by
 have hc':w.drew.cell? a=some x:=by go_simp
 have hz':w.drew.frozen? a=false:=by go_simp
 have hst:=run_call_store (P:=Tryz.prog) Tryz.func167 (by kernel_rfl) (by kernel_rfl) (by kernel_rfl) (by kernel_rfl) (k:=.u32) (y:=1) hc' hz'
 go_enter_d Tryz.func151,Tryz.ntmps151
 go_wp2
 go_region_calls
 all_goals (go_end0;exact⟨rfl,rfl⟩)
theorem zdf (a:Addr) (u:FrameMode) (w:Xe) (hc:w.cell? a=some (.int .i32 1)) (hz:w.frozen? a=false) :
  CallsD Tryz.prog 150 #[.pointer (some a)] u w fun e u' w'=>u'=u∧(e=.returned (.tuple #[])∧w'=w.setCell a (.int .i32 0)):=by
 have hd:=disable
 have he:=enable
 have hr:=releaseMerge
 have hadd:=run_call_add (P:=Tryz.prog) Tryz.func182 (by kernel_rfl) (by kernel_rfl) (by kernel_rfl) .i32 (by kernel_rfl) (y:= -1) (s:=0) hc hz (by simp [go_sem];rfl)
 have hcv:=run_convert_to_unsafe (P:=Tryz.prog) (src:=220) (dst:=224) Tryz.underlying220 Tryz.underlying224 (by kernel_rfl) hc
 go_enter_d Tryz.func150,Tryz.ntmps150
 go_wp2
 go_end0
 go_wp2
 go_end0
 exact⟨rfl,rfl⟩
theorem zfL (a:Addr) (w:Xe) (hc:w.cell? a=some (.int .i32 0)) (hz:w.frozen? a=false) :
  Calls Tryz.prog 149 #[.pointer (some a)] w fun e w'=>e=.returned (.tuple #[])∧w'=w.setCell a (.int .i32 1):=by
 have hd:=disable
 have he:=enable
 have ha:=acquire
 have hcas:=run_call_cas_hit (P:=Tryz.prog) Tryz.func177 (by kernel_rfl) (by kernel_rfl) (by kernel_rfl) .i32 (by kernel_rfl) (y:=1) hc hz
 have hc':(w.setCell a (.int .i32 1)).cell? a=some (.int .i32 1):=World.cell?_setCell_same w a _ hc
 have hcv:=run_convert_to_unsafe (P:=Tryz.prog) (src:=220) (dst:=224) Tryz.underlying220 Tryz.underlying224 (by kernel_rfl) hc'
 go_enter Tryz.func149,Tryz.ntmps149
 go_wp2
 first | go_end0 | (simp only [Exit.inBlock,Exit.then];refine bodyPost_ret (results_none rfl _ _ _) rfl ?_) | refine bodyPost_ret (results_none rfl _ _ _) rfl ?_
 go_wp2
 go_end0
 exact⟨rfl,rfl⟩
def zcD (f:Nat->Int->Prop) (l:Xa) (k:Nat):Prop:=∀i,i<k->f i (l.getD i 0)
theorem zcj {f:Nat->Int->Prop} {l:Xa} {k:Nat} (h:zcD f l k) (h1:f k (l.getD k 0)):zcD f l (k+1):=fun i hi=>by
 by_cases e:i=k
 ·subst e;exact h1
 ·exact h i (by omega)
def zcK (i:Nat) (x:Int):Prop:=(97<=x∧x<=122)∨(0<i∧48<=x∧x<=57)
def zah (l:Xa):Prop:=1<=l.length∧l.length<=8∧zcD zcK l l.length
def zcp (_:Nat) (x:Int):Prop:=32<=x∧x<=126
def zat (l:Xa):Prop:=l.length<=30∧zcD zcp l l.length
theorem zlI (w:Xe) (a:Xc) (n cap:Nat) (h:n<1∨8<n) :
  Calls Tryz.prog 103 #[.slice a n cap] w fun e w'=>e=.returned (.bool false)∧w'=w:=by
 by_cases h1:n<1
 ·have h1':(n:Int)<1:=by omega
  go_enter Tryz.func103,Tryz.ntmps103
  go_wp2
  go_ret
  exact⟨rfl,rfl⟩
 ·have h1':decide ((n:Int)<1)=false:=by simp;omega
  have h2:(8:Int)<(n:Int):=by omega
  go_enter Tryz.func103,Tryz.ntmps103
  go_wp2
  go_ret
  exact⟨rfl,rfl⟩
open Classical in
set_option maxHeartbeats 1600000 in
theorem zpw (w:Xe) (b off cap:Nat) (l:Xa) (hok:okB l) (h1:1<=l.length) (h8:l.length<=8)
  (hc:∀i,i<l.length->w.cell? ⟨b,off+i,none⟩=some (.int .u8 (l.getD i 0))) :
  Calls Tryz.prog 103 #[.slice (some ⟨b,off,none⟩) l.length cap] w fun e w'=>e=.returned (.bool (decide (zah l)))∧w'=w:=by
 have d1:decide ((l.length:Int)<1)=false:=by simp;omega
 have d2:decide ((8:Int)<(l.length:Int))=false:=by simp;omega
 go_enter Tryz.func103,Tryz.ntmps103
 go_wp2
 go_loop [3] (fun i=>∃k:Nat,k<=l.length∧i=.int .i64 k∧zcD zcK l k) (fun i=>l.length-(intOf i).toNat)
 case atStart=>exact⟨0,Nat.zero_le _,rfl,fun i hi=>by omega⟩
 case round=>
  obtain⟨k,hk,rfl,ha⟩:=hrel
  have HA:=hide ha
  clear ha
  by_cases hlt:k<l.length
  ·obtain⟨x,hx⟩:∃x,x=l.getD k 0:=⟨_,rfl⟩
   have hcx:w.cell? ⟨b,off+k,none⟩=some (.int .u8 x):=by rw [hx];exact hc _ hlt
   have HX:=hide hx
   have hlt':(k:Int)<(l.length:Int):=by omega
   clear hc hx
   by_cases hn:zcK k x
   ·have HN:=hide hn
    have hcase:(decide (x<97)=false∧decide (122<x)=false)∨(decide (x<97)=true∧((k:Int) == 0)=false∧decide (x<48)=false∧decide (57<x)=false):=by
     rcases hn with ⟨a1,a2⟩ | ⟨a1,a2,a3⟩
     ·left;simp;omega
     ·right;simp;omega
    clear hn
    rcases hcase with ⟨q1,q2⟩ | ⟨q1,q2,q3,q4⟩
    all_goals
     go_wp2
     go_round
     case rel=>exact⟨k+1,by omega,by go_num,zcj (zaa HA) (by rw [<-zaa HX];exact zaa HN)⟩
     case measure=>simp [intOf];omega
   ·have HF:=hide (show decide (zah l)=false by
     simp only [decide_eq_false_iff_not]
     rintro⟨_,_,h⟩
     exact hn (by rw [zaa HX];exact h k hlt))
    have hcase:(decide (x<97)=true∧(((k:Int) == 0)=true∨((k:Int) == 0)=false∧(decide (x<48)=true∨decide (x<48)=false∧decide (57<x)=true)))∨
      (decide (x<97)=false∧decide (122<x)=true∧(((k:Int) == 0)=true∨((k:Int) == 0)=false∧decide (x<48)=false∧decide (57<x)=true)):=by
     unfold zcK at hn
     simp
     omega
    clear hn
    rcases hcase with ⟨q1,q2 | ⟨q2,q3 | ⟨q3,q4⟩⟩⟩ | ⟨q1,q2,q3 | ⟨q3,q4,q5⟩⟩
    all_goals
     go_wp2
     go_ret
     exact⟨by rw [zaa HF];rfl,rfl⟩
  ·have e:k=l.length:=by omega
   subst e
   have HF:=hide (show decide (zah l)=true by simp only [decide_eq_true_eq];exact⟨h1,h8,zaa HA⟩)
   clear hc
   go_wp2
   go_ret
   exact⟨by rw [zaa HF];rfl,rfl⟩
open Classical in
theorem ziG (w:Xe) (v:Xf) (l:Xa) (h:Byt w v l) :
  Calls Tryz.prog 103 #[v] w fun e w'=>e=.returned (.bool (decide (zah l)))∧w'=w:=by
 by_cases hl:l.length<1∨8<l.length
 ·obtain⟨a,cap,rfl,_⟩:=h.shape
  have hd:decide (zah l)=false:=by simp only [decide_eq_false_iff_not];rintro⟨_,_,_⟩;omega
  rw [hd]
  exact zlI w a _ cap hl
 ·obtain⟨hok,hm,⟨rfl,rfl⟩ | ⟨x,cap,rfl,hc,rfl⟩ | ⟨b,off,cap,rfl,_,_,_,_,h5⟩⟩:=h
  ·simp at hl
  ·simp at hl
  ·exact zpw w b off cap l hok (by omega) (by omega) h5
open Classical in
set_option maxHeartbeats 1600000 in
theorem zjk (w:Xe) (v:Xf) (l:Xa) (h:Byt w v l) :
  Calls Tryz.prog 102 #[v] w fun e w'=>e=.returned (.bool (decide (zat l)))∧w'=w:=by
 by_cases hl:30<l.length
 ·obtain⟨a,cap,rfl,_⟩:=h.shape
  have HD:=hide (show decide (zat l)=false by simp only [decide_eq_false_iff_not];rintro⟨_,_⟩;omega)
  have d2:(30:Int)<(l.length:Int):=by omega
  go_enter Tryz.func102,Tryz.ntmps102
  go_wp2
  go_ret
  exact⟨by rw [zaa HD];rfl,rfl⟩
 have d2:¬ (30:Int)<(l.length:Int):=by omega
 by_cases h0:l=[]
 ·obtain⟨a,cap,rfl,_⟩:=h.shape
  subst h0
  have HD:=hide (show decide (zat [])=true by simp only [decide_eq_true_eq];exact⟨by simp,fun i hi=>by simp at hi⟩)
  go_enter Tryz.func102,Tryz.ntmps102
  go_wp2
  refine wp_loop_rounds 1 ?_
  rw [rounds_succ]
  go_wp2
  go_ret
  exact⟨by rw [zaa HD];rfl,rfl⟩
 obtain⟨hok,hm,⟨_,e⟩ | ⟨_,_,_,_,e⟩ | ⟨b,off,cap,rfl,_,_,_,_,hc⟩⟩:=h
 ·exact absurd e h0
 ·exact absurd e h0
 go_enter Tryz.func102,Tryz.ntmps102
 go_wp2
 go_loop [3] (fun i=>∃k:Nat,k<=l.length∧i=.int .i64 k∧zcD zcp l k) (fun i=>l.length-(intOf i).toNat)
 case atStart=>exact⟨0,Nat.zero_le _,rfl,fun i hi=>by omega⟩
 case round=>
  obtain⟨k,hk,rfl,ha⟩:=hrel
  have HA:=hide ha
  clear ha
  by_cases hlt:k<l.length
  ·obtain⟨x,hx⟩:∃x,x=l.getD k 0:=⟨_,rfl⟩
   have hcx:w.cell? ⟨b,off+k,none⟩=some (.int .u8 x):=by rw [hx];exact hc _ hlt
   have HX:=hide hx
   have hlt':(k:Int)<(l.length:Int):=by omega
   clear hc hx
   by_cases hn:zcp k x
   ·have HN:=hide hn
    have q1:decide (x<32)=false:=by unfold zcp at hn;simp;omega
    have q2:decide (126<x)=false:=by unfold zcp at hn;simp;omega
    clear hn
    go_wp2
    go_round
    case rel=>exact⟨k+1,by omega,by go_num,zcj (zaa HA) (by rw [<-zaa HX];exact zaa HN)⟩
    case measure=>simp [intOf];omega
   ·have HF:=hide (show decide (zat l)=false by
     simp only [decide_eq_false_iff_not]
     rintro⟨_,h⟩
     exact hn (by rw [zaa HX];exact h k hlt))
    have hcase:decide (x<32)=true∨(decide (x<32)=false∧decide (126<x)=true):=by
     unfold zcp at hn;simp;omega
    clear hn
    rcases hcase with q1 | ⟨q1,q2⟩
    all_goals
     go_wp2
     go_ret
     exact⟨by rw [zaa HF];rfl,rfl⟩
  ·have e:k=l.length:=by omega
   subst e
   have HF:=hide (show decide (zat l)=true by simp only [decide_eq_true_eq];exact⟨by omega,zaa HA⟩)
   clear hc
   go_wp2
   go_ret
   exact⟨by rw [zaa HF];rfl,rfl⟩
theorem zbI (w:Xe) (v:Xf) (l:Xa) (h:Byt w v l) (hn:zah l):Calls Tryz.prog 103 #[v] w fun e w'=>e=.returned (.bool true)∧w'=w:=by
 refine (ziG w v l h).mono ?_
 rintro e w' ⟨rfl,h⟩
 exact⟨by simp [hn],h⟩
theorem zhi (w:Xe) (v:Xf) (l:Xa) (h:Byt w v l) (hn:¬ zah l):Calls Tryz.prog 103 #[v] w fun e w'=>e=.returned (.bool false)∧w'=w:=by
 refine (ziG w v l h).mono ?_
 rintro e w' ⟨rfl,h⟩
 exact⟨by simp [hn],h⟩
theorem zdF (w:Xe) (v:Xf) (l:Xa) (h:Byt w v l) (hn:zat l):Calls Tryz.prog 102 #[v] w fun e w'=>e=.returned (.bool true)∧w'=w:=by
 refine (zjk w v l h).mono ?_
 rintro e w' ⟨rfl,h⟩
 exact⟨by simp [hn],h⟩
theorem zht (w:Xe) (v:Xf) (l:Xa) (h:Byt w v l) (hn:¬ zat l):Calls Tryz.prog 102 #[v] w fun e w'=>e=.returned (.bool false)∧w'=w:=by
 refine (zjk w v l h).mono ?_
 rintro e w' ⟨rfl,h⟩
 exact⟨by simp [hn],h⟩
def allB (f:Nat->Int->Bool) (l:Xa):Bool:=(List.range l.length).all fun i=>f i (l.getD i 0)
theorem zhp {f:Nat->Int->Bool} {p:Nat->Int->Prop} (h:∀i x,f i x=true↔p i x) (l:Xa):allB f l=true↔zcD p l l.length:=by
 unfold allB zcD
 rw [List.all_eq_true]
 constructor
 ·intro k i hi;exact (h _ _).1 (k i (List.mem_range.2 hi))
 ·intro k i hi;exact (h _ _).2 (k i (List.mem_range.1 hi))
def zbD (l:Xa):Bool:=decide (1<=l.length) && decide (l.length<=8) && allB (fun i x=>decide (97<=x∧x<=122) || decide (0<i∧48<=x∧x<=57)) l
theorem zby (l:Xa):zbD l=true↔zah l:=by
 unfold zbD zah
 rw [Bool.and_eq_true,Bool.and_eq_true,decide_eq_true_eq,decide_eq_true_eq,zhp (p:=zcK) (fun i x=>by unfold zcK;rw [Bool.or_eq_true,decide_eq_true_eq,decide_eq_true_eq]),and_assoc]
def zbt (l:Xa):Bool:=decide (l.length<=30) && allB (fun _ x=>decide (32<=x∧x<=126)) l
theorem zbE (l:Xa):zbt l=true↔zat l:=by
 unfold zbt zat
 rw [Bool.and_eq_true,decide_eq_true_eq,zhp (p:=zcp) (fun i x=>by unfold zcp;rw [decide_eq_true_eq])]
def str (l:Xa):ByteArray:=l.foldl (fun r n=>r.push (UInt8.ofNat n.toNat)) ByteArray.empty
theorem zsB (l:Xa) (s:ByteArray):(l.foldl (fun r n=>r.push (UInt8.ofNat n.toNat)) s).data.toList=s.data.toList++l.map (fun n=>UInt8.ofNat n.toNat):=by
 induction l generalizing s with
 | nil=>simp
 | cons x l ih=>rw [List.foldl_cons,ih];simp [ByteArray.push]
theorem zbW (l:Xa):(str l).data.toList=l.map (fun n=>UInt8.ofNat n.toNat):=by
 unfold str;rw [zsB];rfl
theorem zbG (s:ByteArray):s.toList=s.data.toList:=Go.ByteArray.toList_eq s
theorem zlT {a b:Xa} (ha:okB a) (hb:okB b) (h:(str a).toList=(str b).toList):a=b:=by
 rw [zbG,zbG,zbW,zbW]at h
 have hg:∀l:Xa,okB l->(l.map (fun n=>UInt8.ofNat n.toNat)).map (fun u=>(u.toNat:Int))=l:=by
  intro l hl
  induction l with
  | nil=>rfl
  | cons x l ih=>
   have hx:=hl x (by simp)
   have e:((UInt8.ofNat x.toNat).toNat:Int)=x:=by
    rw [UInt8.toNat_ofNat'];omega
   rw [List.map_cons,List.map_cons,ih (fun y hy=>hl y (by simp [hy])),e]
 rw [<-hg a ha,<-hg b hb,h]
theorem zgp {a b:Xa} (ha:okB a) (hb:okB b):((str a).toList == (str b).toList)=decide (a=b):=by
 by_cases h:a=b
 ·subst h;simp
 ·have:¬ (str a).toList=(str b).toList:=fun e=>h (zlT ha hb e)
  rw [decide_eq_false h,beq_eq_false_iff_ne];exact this
theorem zbf (w:Xe) (u:Xf) (a:Xa) (hu:Byt w u a):(convert 22 9 u).run Tryz.prog w=.ok (.string (str a)) w:=by
 have hfull:∀(x:Addr) (c:Nat),(∀j,j<a.length->w.cell? (x.add j)=some (.int .u8 (a.getD j 0)))->(convert 22 9 (.slice (some x) a.length c)).run Tryz.prog w=.ok (.string (str a)) w:=by
  intro x c hc
  rw [run_convert_bytes_string w 22 9 5 (some x) a.length c Tryz.underlying22 Tryz.underlying5 Tryz.underlying9]
  refine run_bytesToString w x a.length c a ?_
  have h:=run_loadCells_list (P:=Tryz.prog) (w:=w) x (vals a) (fun j v hj=>by
   have hlt:j<a.length:=by
    by_cases hlt:j<a.length
    ·exact hlt
    ·rw [List.getElem?_eq_none (by rw [zcA];omega)]at hj;cases hj
   rw [zdm hlt]at hj
   rw [hc j hlt];exact hj)
  rw [zcA]at h
  exact h
 obtain⟨hoka,_,⟨rfl,rfl⟩ | ⟨x,cap,rfl,hc,rfl⟩ | ⟨p,off,cap,rfl,h1,h2,h3,h4,h5⟩⟩:=hu
 ·rw [run_convert_bytes_string w 22 9 5 none 0 0 Tryz.underlying22 Tryz.underlying5 Tryz.underlying9]
  simp [Conv.bytesToString,str]
 ·exact hfull x cap (fun j hj=>by simp at hj)
 ·exact hfull _ cap (fun j hj=>by rw [zbc];exact h5 j hj)
def Void (l:Xa):Prop:=l=[98,114]∨l=[104,114]
theorem zsz:(str [98,114]).toList=[98,114]:=by rw [zbG,zbW];rfl
theorem zsD:(str [104,114]).toList=[104,114]:=by rw [zbG,zbW];rfl
theorem zom:okB [98,114]:=fun x hx=>by simp at hx;omega
theorem zpD:okB [104,114]:=fun x hx=>by simp at hx;omega
open Classical in
set_option maxHeartbeats 1600000 in
theorem ziH (w:Xe) (v:Xf) (l:Xa) (h:Byt w v l) :
  Calls Tryz.prog 36 #[v] w fun e w'=>e=.returned (.bool (decide (Void l)))∧w'=w:=by
 have c1:=zbf w v l h
 have b1:((str l).toList == [98,114])=decide (l=[98,114]):=by rw [<-zsz];exact zgp h.1 zom
 have b2:((str l).toList == [104,114])=decide (l=[104,114]):=by rw [<-zsD];exact zgp h.1 zpD
 obtain⟨a1,k1,rfl,_⟩:=h.shape
 generalize str l=s at *
 by_cases h1:l=[98,114]
 ·have HD:=hide (show decide (Void l)=true by simp [Void,h1])
  have d1:(s.toList == [98,114])=true:=by rw [b1];simp [h1]
  clear b1 b2 h1
  go_enter Tryz.func36,Tryz.ntmps36
  go_wp2
  go_ret
  exact⟨by rw [zaa HD];rfl,rfl⟩
 ·have d1:(s.toList == [98,114])=false:=by rw [b1];simp [h1]
  by_cases h2:l=[104,114]
  ·have HD:=hide (show decide (Void l)=true by simp [Void,h2])
   have d2:(s.toList == [104,114])=true:=by rw [b2];simp [h2]
   clear b1 b2 h1 h2
   go_enter Tryz.func36,Tryz.ntmps36
   go_wp2
   go_ret
   exact⟨by rw [zaa HD];rfl,rfl⟩
  ·have HD:=hide (show decide (Void l)=false by simp [Void,h1,h2])
   have d2:(s.toList == [104,114])=false:=by rw [b2];simp [h2]
   clear b1 b2 h1 h2
   go_enter Tryz.func36,Tryz.ntmps36
   go_wp2
   go_ret
   exact⟨by rw [zaa HD];rfl,rfl⟩
def zeb (a b:Xa):Bool:=Op.bytesLess (str a).toList (str b).toList
def zcc (l:List (Xa×Xa)) (i:Nat):Prop:=zah (l.getD i ([],[])).1∧zat (l.getD i ([],[])).2∧(0<i->zeb (l.getD (i-1) ([],[])).1 (l.getD i ([],[])).1=true)
def zal (l:List (Xa×Xa)):Prop:=l.length<=4∧∀i,i<l.length->zcc l i
theorem zkh {p:Nat->Prop} {k:Nat} (h:∀i,i<k->p i) (h1:p k) (i:Nat) (hi:i<k+1):p i:=by
 by_cases e:i=k
 ·subst e;exact h1
 ·exact h i (by omega)
open Classical in
set_option maxHeartbeats 3200000 in
theorem zhI (w:Xe) (v:Xf) (l:List (Xa×Xa)) (h:RdAttrs w v l) :
  Calls Tryz.prog 104 #[v] w fun e w'=>e=.returned (.bool (decide (zal l)))∧Below w.heap.size w w':=by
 by_cases hl:4<l.length
 ·obtain⟨a,cap,rfl,_⟩:=Elems.shape h
  have HD:=hide (show decide (zal l)=false by simp only [decide_eq_false_iff_not];rintro⟨_,_⟩;omega)
  have d2:(4:Int)<(l.length:Int):=by omega
  go_enter Tryz.func104,Tryz.ntmps104
  go_wp2_with fail
  go_ret
  exact⟨by rw [zaa HD];rfl,Below.refl _ _⟩
 have d2:¬ (4:Int)<(l.length:Int):=by omega
 by_cases h0:l=[]
 ·obtain⟨a,cap,rfl,_⟩:=Elems.shape h
  subst h0
  have HD:=hide (show decide (zal [])=true by simp only [decide_eq_true_eq];exact⟨by simp,fun i hi=>by simp at hi⟩)
  go_enter Tryz.func104,Tryz.ntmps104
  go_wp2_with fail
  refine wp_loop_rounds 1 ?_
  rw [rounds_succ]
  go_wp2_with fail
  go_ret
  exact⟨by rw [zaa HD];rfl,Below.refl _ _⟩
 obtain⟨_,⟨_,e⟩ | ⟨_,_,_,_,e⟩ | ⟨b,off,cap,rfl,g1,g2,g3,g4,g5⟩⟩:=h
 ·exact absurd e h0
 ·exact absurd e h0
 go_enter Tryz.func104,Tryz.ntmps104
 go_wp2_with fail
 go_loopw [3] (fun i wr=>∃k:Nat,k<=l.length∧i=.int .i64 k∧(∀i,i<k->zcc l i)∧Below w.heap.size w wr) (fun i _=>l.length-(intOf i).toNat)
 case atStart=>exact⟨0,Nat.zero_le _,rfl,fun i hi=>by omega,Below.refl _ _⟩
 case round=>
  obtain⟨k,hk,rfl,ha,hB⟩:=hrel
  have HA:=hide ha
  clear ha
  by_cases hlt:k<l.length
  ·obtain⟨c0,c1,e0,e1,hc⟩:=zeQ (g5 k hlt)
   obtain⟨_,_,ee,hc0,hc1⟩:=hc
   simp only [List.cons.injEq,and_true]at ee
   obtain⟨rfl,rfl⟩:=ee
   replace e0:=(hB.cell (p:=⟨b,off+k*2,none⟩) g4).trans e0
   replace e1:=(hB.cell (p:=⟨b,off+k*2+1,none⟩) g4).trans e1
   replace hc0:=hc0.keep hB
   replace hc1:=hc1.keep hB
   have hlt':(k:Int)<(l.length:Int):=by omega
   have hk0:(0:Int)<=(k:Int):=by omega
   obtain⟨x,hx⟩:∃x,x=l[k]:=⟨_,rfl⟩
   rw [<-hx]at hc0 hc1
   have hgd:l.getD k ([],[])=x:=by rw [hx];simp [hlt]
   obtain⟨a0,n0,hv0,_,_⟩:=hc0.shape
   obtain⟨a1,n1,hv1,_,_⟩:=hc1.shape
   subst hv0 hv1
   by_cases hn:zah x.1
   ·by_cases ht:zat x.2
    ·by_cases hkz:k=0
     ·have HT:=hide (show zcc l k from ⟨by rw [hgd];exact hn,by rw [hgd];exact ht,fun h=>by omega⟩)
      have HN:=hide hn
      have HX:=hide ht
      subst hkz
      have dk:decide ((0:Int)<((0:Nat):Int))=false:=by simp
      simp only [Nat.zero_mul,Nat.add_zero]at e0 e1
      clear g5 hn ht hgd hx
      go_wp2_with fail
      go_quiet (first | (go_at_call 103;exact Calls.quiet_of_same (zbI _ _ x.1 (hc0.keep (below_drewN (Below.refl _ _) _)) (zaa HN))) | (go_at_call 102;exact Calls.quiet_of_same (zdF _ _ x.2 (hc1.keep (below_drewN (Below.refl _ _) _)) (zaa HX))))
      go_wp2_with fail
      go_roundw
      case rel=>exact⟨1,by omega,by go_num,fun i hi=>by obtain rfl:i=0:=(by omega);exact zaa HT,below_drewN hB _⟩
      case measure=>simp [intOf];omega
     ·obtain⟨p0,p1,u0,u1,hp⟩:=zeQ (g5 (k-1) (by omega))
      obtain⟨_,_,ee,hp0,hp1⟩:=hp
      simp only [List.cons.injEq,and_true]at ee
      obtain⟨rfl,rfl⟩:=ee
      replace u0:=(hB.cell (p:=⟨b,off+(k-1)*2,none⟩) g4).trans u0
      replace hp0:=hp0.keep hB
      obtain⟨y,hy⟩:∃y,y=l[k-1]:=⟨_,rfl⟩
      rw [<-hy]at hp0
      have hgy:l.getD (k-1) ([],[])=y:=by rw [hy];simp [show k-1<l.length by omega]
      obtain⟨a2,n2,hv2,_,_⟩:=hp0.shape
      subst hv2
      have cx:=fun q=>zbf (wr.drewN q) _ x.1 (hc0.keep (below_drewN (Below.refl _ _) q))
      have cy:=fun q=>zbf (wr.drewN q) _ y.1 (hp0.keep (below_drewN (Below.refl _ _) q))
      have hkp:0<k:=by omega
      have hkd:decide (0<k)=true:=by simp;omega
      have hk1:(0:Int)<=(k:Int)-1:=by omega
      have hk2:(k:Int)-1<(l.length:Int):=by omega
      have hk3:((k:Int)-1).toNat=k-1:=by omega
      have HN:=hide hn
      have HX:=hide ht
      by_cases hl2:zeb y.1 x.1=true
      ·have HT:=hide (show zcc l k from ⟨by rw [hgd];exact hn,by rw [hgd];exact ht,fun _=>by rw [hgd,hgy];exact hl2⟩)
       unfold zeb at hl2
       clear g5 hn ht hgd hx hy hgy
       go_wp2_with fail
       go_quiet (first | (go_at_call 103;exact Calls.quiet_of_same (zbI _ _ x.1 (hc0.keep (below_drewN (Below.refl _ _) _)) (zaa HN))) | (go_at_call 102;exact Calls.quiet_of_same (zdF _ _ x.2 (hc1.keep (below_drewN (Below.refl _ _) _)) (zaa HX))))
       go_wp2_with fail
       go_roundw
       case rel=>exact⟨k+1,by omega,by go_num,fun i hi=>zkh (zaa HA) (zaa HT) i hi,below_drewN hB _⟩
       case measure=>simp [intOf];omega
      ·have HF:=hide (show decide (zal l)=false by
        simp only [decide_eq_false_iff_not]
        rintro⟨_,h⟩
        exact hl2 (by have:=(h k hlt).2.2 (by omega);rwa [hgd,hgy]at this))
       have hl3:Op.bytesLess (str y.1).toList (str x.1).toList=false:=by unfold zeb at hl2;simpa using hl2
       clear g5 hn ht hgd hx hy hgy hl2
       go_wp2_with fail
       go_quiet (first | (go_at_call 103;exact Calls.quiet_of_same (zbI _ _ x.1 (hc0.keep (below_drewN (Below.refl _ _) _)) (zaa HN))) | (go_at_call 102;exact Calls.quiet_of_same (zdF _ _ x.2 (hc1.keep (below_drewN (Below.refl _ _) _)) (zaa HX))))
       go_wp2_with fail
       go_ret
       exact⟨by rw [zaa HF];rfl,below_drewN hB _⟩
    ·have HF:=hide (show decide (zal l)=false by
      simp only [decide_eq_false_iff_not]
      rintro⟨_,h⟩
      exact ht (by have:=(h k hlt).2.1;rwa [hgd]at this))
     have HN:=hide hn
     have HX:=hide ht
     clear g5 hn ht hgd hx
     go_wp2_with fail
     go_quiet (first | (go_at_call 103;exact Calls.quiet_of_same (zbI _ _ x.1 (hc0.keep (below_drewN (Below.refl _ _) _)) (zaa HN))) | (go_at_call 102;exact Calls.quiet_of_same (zht _ _ x.2 (hc1.keep (below_drewN (Below.refl _ _) _)) (zaa HX))))
     go_wp2_with fail
     go_ret
     exact⟨by rw [zaa HF];rfl,below_drewN hB _⟩
   ·have HF:=hide (show decide (zal l)=false by
     simp only [decide_eq_false_iff_not]
     rintro⟨_,h⟩
     exact hn (by have:=(h k hlt).1;rwa [hgd]at this))
    have HN:=hide hn
    clear g5 hn hgd hx
    go_wp2_with fail
    go_quiet ((go_at_call 103;exact Calls.quiet_of_same (zhi _ _ x.1 (hc0.keep (below_drewN (Below.refl _ _) _)) (zaa HN))))
    go_wp2_with fail
    go_ret
    exact⟨by rw [zaa HF];rfl,below_drewN hB _⟩
  ·have e:k=l.length:=by omega
   subst e
   have HF:=hide (show decide (zal l)=true by simp only [decide_eq_true_eq];exact⟨by omega,zaa HA⟩)
   clear g5
   go_wp2_with fail
   go_ret
   exact⟨by rw [zaa HF];rfl,hB⟩
def vs0:Array Xf:= #[.int .u32 0,.int .i32 0,.int .u32 0,.map none]
def vs1 (m:Nat):Array Xf:= #[.int .u32 1,.int .i32 0,.int .u32 0,.map (some m)]
theorem zcl (a:Addr) (x:Int) (w:Xe) (hc:w.cell? a=some (.int .u32 x)) (b:Bool) (hb:(x != 0)=b) :
  Calls Tryz.prog 137 #[.pointer (some a)] w fun e w'=>e=.returned (.bool b)∧w'=w:=by
 have hlo:=run_call_load (P:=Tryz.prog) Tryz.func148 (by kernel_rfl) (by kernel_rfl) (by kernel_rfl) .u32 (by kernel_rfl) hc
 go_enter Tryz.func137,Tryz.ntmps137
 go_wp2
 go_ret
 exact⟨rfl,rfl⟩
theorem Frm.drew (w:Xe) (S:Xb):Frm w w.drew S:=Frm.ofBelow ((Below.refl _ _).drew) S
theorem zmF (w:Xe) (a:Addr) (v:Xf):(w.setCell a v).os=w.os:=by unfold World.setCell;repeat (first | rfl | split)
theorem zjU (w:Xe) (a:Addr) (v:Xf):(w.setCell a v).tape=w.tape:=by unfold World.setCell;repeat (first | rfl | split)
theorem ziq (w:Xe) (a:Addr) (v:Xf):(w.setCell a v).output=w.output:=by unfold World.setCell;repeat (first | rfl | split)
theorem Frm.set (w:Xe) (g j:Nat) (v:Xf):Frm w (w.setCell ⟨g,j,none⟩ v) [g]:=
 ⟨zmF w _ v,zjU w _ v,ziq w _ v,by simp,fun i _ hn=>heap_setCell_other w ⟨g,j,none⟩ i v (fun e=>hn (by simp;exact e))⟩
theorem Frm.alloc (w:Xe) (o:Obj) (S:Xb):Frm w (w.alloc o) S:=Frm.ofBelow ((Below.refl _ _).alloc (Nat.le_refl _) _) S
set_option maxHeartbeats 1600000 in
theorem zqV (g:Nat) (w:Xe) (hl:Loc w g vs0 110) :
  Calls Tryz.prog 138 #[.pointer (some ⟨g,0,none⟩),.func (.func 119) #[.pointer (some ⟨g,0,none⟩)] #[]] w fun e w'=>e=.returned (.tuple #[])∧∃m,w.heap.size<=m∧Loc w' g (vs1 m) 110∧w'.heap[m]? = some zaL∧Frm w w' [g]:=by
 have h1:w.cell? ⟨g,1,none⟩=some (.int .i32 0):=hl.cell 1
 have f1:=hl.frozen 1
 have l1:Loc (w.setCell ⟨g,1,none⟩ (.int .i32 1)) g #[.int .u32 0,.int .i32 1,.int .u32 0,.map none] 110:=hl.set 1 (.int .i32 1)
 have F1:=Frm.set w g 1 (.int .i32 1)
 have hnot:∀(x:Bool) (w:Xe),(Op.unary .not (.bool x)).run Tryz.prog w=.ok (.bool (!x)) w:=fun _ _=>rfl
 go_enter_defers Tryz.func138,Tryz.ntmps138
 go_wp2_with (go_at_call 149;refine (zfL ⟨g,1,none⟩ _ (by go_simp) (by go_simp)).mono ?_;rintro e w' ⟨rfl,rfl⟩)
 generalize w.setCell ⟨g,1,none⟩ (.int .i32 1)=w1 at *
 refine (zcl ⟨g,0,none⟩ 0 w1 (l1.cell 0) false (by simp)).mono ?_
 rintro e w1 ⟨rfl,rfl⟩
 go_wp2_with fail
 refine (zqi g w1 _ l1 _ (l1.cell 3)).mono ?_
 rintro e w2 ⟨rfl,hw2⟩
 have l2:Loc w2 g #[.int .u32 0,.int .i32 1,.int .u32 0,.map (some w1.heap.size)] 110:=by rw [hw2];exact (l1.set 3 (.map (some w1.heap.size))).alloc _
 have m2:w2.heap[w1.heap.size]? = some zaL:=by rw [hw2];have:=heap_alloc_new (w1.setCell ⟨g,3,none⟩ (.map (some w1.heap.size))) zaL;rwa [show (w1.setCell ⟨g,3,none⟩ (.map (some w1.heap.size))).heap.size=w1.heap.size by simp]at this
 have F2:Frm w1 w2 [g]:=by rw [hw2];exact (Frm.set w1 g 3 _).trans (Frm.alloc _ _ _)
 have hne:w1.heap.size≠g:=by have:=l1.lt;omega
 have F12:=F1.trans F2
 have hmm:=F1.size
 clear hw2
 generalize w1.heap.size=m at *
 go_wp2_with fail
 refine leaves_cons (f:=151) (args:= #[.pointer (some ⟨g,0,none⟩),.bool true]) (by simp) (by simp [go_sem]) ?_
 refine (zdk ⟨g,0,none⟩ (.int .u32 0) .returning _ (l2.cell 0) (l2.frozen 0)).mono ?_
 rintro e u' w3 ⟨rfl,rfl,hw3⟩
 have ld:Loc w2.drew g #[.int .u32 0,.int .i32 1,.int .u32 0,.map (some m)] 110:=l2.frm (Frm.drew w2 []) (by simp)
 have l3:Loc w3 g #[.int .u32 1,.int .i32 1,.int .u32 0,.map (some m)] 110:=by rw [hw3];exact ld.set 0 (.int .u32 1)
 have F3:Frm w2 w3 [g]:=by rw [hw3];exact (Frm.drew w2 _).trans (Frm.set _ g 0 _)
 clear hw3
 refine leaves_cons (f:=150) (args:= #[.pointer (some ⟨g,1,none⟩)]) (by simp [settle]) (by simp [go_sem]) ?_
 refine (zdf ⟨g,1,none⟩ _ _ (l3.cell 1) (l3.frozen 1)).mono ?_
 rintro e u' w4 ⟨rfl,rfl,hw4⟩
 have l4:Loc w4 g (vs1 m) 110:=by rw [hw4];exact l3.set 1 (.int .i32 0)
 have F4:Frm w3 w4 [g]:=by rw [hw4];exact Frm.set _ g 1 _
 have hm:m<w2.heap.size:=by
  by_cases h:m<w2.heap.size
  ·exact h
  ·rw [Array.getElem?_eq_none (by omega)]at m2;cases m2
 have F34:=F3.trans F4
 have m4:w4.heap[m]? = some zaL:=(F34.block m hm (by simpa using hne)).trans m2
 simp [Leaves,settle,results,Tryz.results138]
 exact⟨m,hmm,l4,m4,F12.trans F34⟩
def VMade (B:Nat) (w:Xe) (g:Nat):Prop:=∃m,B<=m∧Loc w g (vs1 m) 110∧w.heap[m]? = some zaL
def VSet (B:Nat) (w:Xe) (g:Nat):Prop:=Loc w g vs0 110∨VMade B w g
theorem zsE (B g:Nat) (w:Xe) (h:VSet B w g) (hB:B<=w.heap.size) :
  Calls Tryz.prog 118 #[.pointer (some ⟨g,0,none⟩),.func (.func 119) #[.pointer (some ⟨g,0,none⟩)] #[]] w fun e w'=>e=.returned (.tuple #[])∧VMade B w' g∧Frm w w' [g]:=by
 have hnot:∀(x:Bool) (w:Xe),(Op.unary .not (.bool x)).run Tryz.prog w=.ok (.bool (!x)) w:=fun _ _=>rfl
 rcases h with hl | ⟨m,hbm,hl,hm⟩
 ·have h0:w.cell? ⟨g,0,none⟩=some (.int .u32 0):=hl.cell 0
  go_enter Tryz.func118,Tryz.ntmps118
  go_wp2_with fail
  refine (zcl ⟨g,0,none⟩ 0 w h0 false (by simp)).mono ?_
  rintro e w ⟨rfl,rfl⟩
  go_wp2_with fail
  refine (zqV g w hl).mono ?_
  rintro e w' ⟨rfl,m,hbm,l',m',F'⟩
  go_wp2_with fail
  go_end0
  exact⟨rfl,⟨m,Nat.le_trans hB hbm,l',m'⟩,F'⟩
 ·have h0:w.cell? ⟨g,0,none⟩=some (.int .u32 1):=hl.cell 0
  go_enter Tryz.func118,Tryz.ntmps118
  go_wp2_with fail
  refine (zcl ⟨g,0,none⟩ 1 w h0 true (by simp)).mono ?_
  rintro e w ⟨rfl,rfl⟩
  go_wp2_with fail
  go_end0
  exact⟨rfl,⟨m,hbm,hl,hm⟩,Frm.refl _ _⟩
def zgD (s:ByteArray):Bool:=s == ⟨#[98,114]⟩ || s == ⟨#[104,114]⟩
theorem zcY (w:Xe) (m:Nat) (s:ByteArray) (hm:w.heap[m]? = some zaL) :
  (Instr.lookup 108 (.map (some m)) (.string s) true).run Tryz.prog w=.ok (.tuple #[.agg #[],.bool (zgD s)]) w:=by
 have hc:(Instr.checkKey false 10000 9 (.string s)).run Tryz.prog w=.ok () w:=MapKept.run_checkKey (k:=.string s) Tryz.underlying9 (by simp [MapKept.IsKey]) false 9999
 have hz:(zeroValue 96).run Tryz.prog w=.ok (.agg #[]) w:=by kernel_rfl
 have hb:w.heap[m]? = some (.map #[{ key:=.string ⟨#[98,114]⟩,val:=.agg #[],born:=0 },{ key:=.string ⟨#[104,114]⟩,val:=.agg #[],born:=1 }] 2):=hm
 by_cases h1:(s == ⟨#[98,114]⟩)=true
 ·have hf:Instr.findNow .string (.string s) ([{ key:=.string ⟨#[98,114]⟩,val:=.agg #[],born:=0 },{ key:=.string ⟨#[104,114]⟩,val:=.agg #[],born:=1 }]:List MapEntry) 0=some (some (0,.agg #[])):=by simp [Instr.findNow,Instr.sameNow,h1]
  simp [Instr.lookup,run_underlying Tryz.underlying108,MapKept.run_getObj_map hb,hc,MapKept.run_findKey Tryz.underlying9 hf,Result.andThen,zgD,h1]
 ·have h1':(s == ⟨#[98,114]⟩)=false:=by simpa using h1
  by_cases h2:(s == ⟨#[104,114]⟩)=true
  ·have hf:Instr.findNow .string (.string s) ([{ key:=.string ⟨#[98,114]⟩,val:=.agg #[],born:=0 },{ key:=.string ⟨#[104,114]⟩,val:=.agg #[],born:=1 }]:List MapEntry) 0=some (some (1,.agg #[])):=by simp [Instr.findNow,Instr.sameNow,h1',h2]
   simp [Instr.lookup,run_underlying Tryz.underlying108,MapKept.run_getObj_map hb,hc,MapKept.run_findKey Tryz.underlying9 hf,Result.andThen,zgD,h1',h2]
  ·have h2':(s == ⟨#[104,114]⟩)=false:=by simpa using h2
   have hf:Instr.findNow .string (.string s) ([{ key:=.string ⟨#[98,114]⟩,val:=.agg #[],born:=0 },{ key:=.string ⟨#[104,114]⟩,val:=.agg #[],born:=1 }]:List MapEntry) 0=some none:=by simp [Instr.findNow,Instr.sameNow,h1',h2']
   simp [Instr.lookup,run_underlying Tryz.underlying108,MapKept.run_getObj_map hb,hc,MapKept.run_findKey Tryz.underlying9 hf,hz,Result.andThen,zgD,h1',h2']
theorem zoD (l:Xa) (b:ByteArray) (h:b.data.toList=l.map (fun n=>UInt8.ofNat n.toNat)):str l=b:=
 ByteArray.ext (Array.ext' (by rw [zbW,h]))
open Classical in
theorem zfW (l:Xa) (hl:okB l):zgD (str l)=decide (Void l):=by
 have e1:(⟨#[98,114]⟩:ByteArray)=str [98,114]:=(zoD _ _ rfl).symm
 have e2:(⟨#[104,114]⟩:ByteArray)=str [104,114]:=(zoD _ _ rfl).symm
 have hb:∀k,okB k->(str l == str k)=decide (l=k):=fun k hk=>by
  by_cases h:l=k
  ·subst h;rw [(MapKept.bytes_beq _ _).2 rfl];simp
  ·rw [decide_eq_false h,<-Bool.not_eq_true,MapKept.bytes_beq]
   intro e
   exact h (zlT hl hk (by rw [e]))
 unfold zgD
 rw [e1,e2,hb _ zom,hb _ zpD]
 unfold Void
 rw [Bool.eq_iff_iff]
 simp
open Classical in
set_option maxHeartbeats 1600000 in
theorem zij (B g:Nat) (w:Xe) (v:Xf) (l:Xa) (h:VSet B w g) (hBB:B<=w.heap.size) (hv:∀w',Frm w w' [g]->Byt w' v l) :
  Calls Tryz.prog 85 #[.pointer (some ⟨g,0,none⟩),v] w fun e w'=>e=.returned (.bool (decide (Void l)))∧VMade B w' g∧Frm w w' [g]:=by
 have hmf:∀(fn:Fn) (first cap:Array Xf) (w:Xe),(Instr.makeFunc fn first cap).run Tryz.prog w=.ok (.func fn first cap) w:=fun _ _ _ _=>rfl
 have hg:g<w.heap.size:=by
  rcases h with h | ⟨m,_,h,_⟩
  ·exact h.lt
  ·exact h.lt
 obtain⟨a1,k1,rfl,_⟩:=(hv w (Frm.refl _ _)).shape
 have HV:=hide hv
 clear hv
 go_enter Tryz.func85,Tryz.ntmps85
 go_wp2_with fail
 refine (zsE B g w h hBB).mono ?_
 rintro e w1 ⟨rfl,⟨m,hbm,l1,m1⟩,F1⟩
 have h3:w1.cell? ⟨g,3,none⟩=some (.map (some m)):=l1.cell 3
 have h3d:w1.drew.cell? ⟨g,3,none⟩=some (.map (some m)):=l1.cell 3
 have h3a:(w1.alloc (.cells #[] 96)).cell? ⟨g,3,none⟩=some (.map (some m)):=(l1.alloc _).cell 3
 have hlt:m<w1.heap.size:=by
  by_cases h:m<w1.heap.size
  ·exact h
  ·rw [Array.getElem?_eq_none (by omega)]at m1;cases m1
 have hb1:Byt w1 _ l:=zaa HV w1 F1
 have c1:=zbf w1.drew _ l (hb1.keep ((Below.refl _ _).drew))
 have c2:=zbf (w1.alloc (.cells #[] 96)).drew _ l (hb1.keep (((Below.refl _ _).alloc (Nat.le_refl _) _).drew))
 have q1:=fun s=>zcY w1.drew m s m1
 have q2:=fun s=>zcY (w1.alloc (.cells #[] 96)).drew m s ((heap_alloc_old w1 _ hlt).trans m1)
 have HS:=hide (zfW l hb1.1)
 generalize str l=s at *
 generalize l.length=n at *
 go_wp2_with fail
 go_region
 all_goals
  go_wp2_with fail
  go_ret
  exact⟨by rw [<-zaa HS];rfl,⟨m,hbm,(l1.alloc _).all ((Below.refl _ _).drew),(heap_alloc_old w1 _ hlt).trans m1⟩,F1.trans ((Frm.alloc w1 _ _).trans (Frm.drew _ _))⟩
def ws0 (o:Xf):Array Xf:= #[o,.int .u32 0,.int .i32 0,.int .u32 0,.map none]
def ws1 (o:Xf) (m:Nat):Array Xf:= #[o,.int .u32 1,.int .i32 0,.int .u32 0,.map (some m)]
def znE (B:Nat) (o:Xf) (w:Xe) (g:Nat):Prop:=∃m,B<=m∧Loc w g (ws1 o m) 127∧w.heap[m]? = some zaL
def WSet (B:Nat) (o:Xf) (w:Xe) (g:Nat):Prop:=Loc w g (ws0 o) 127∨znE B o w g
theorem zoc (o:Xf) (g:Nat) (w:Xe) (cs:Array Xf) (hl:Loc w g cs 127) (c3:Xf) (h3:w.cell? ⟨g,4,none⟩=some c3) :
  Calls Tryz.prog 119 #[.pointer (some ⟨g,1,none⟩)] w fun e w'=>e=.returned (.tuple #[])∧w'=(w.setCell ⟨g,4,none⟩ (.map (some w.heap.size))).alloc zaL:=by
 have hmm:= @run_makeMap Tryz.prog
 have h1:=znw w
 have h2:=zmK w
 have hg:=hl.lt
 have f3:=hl.frozen 4
 go_enter Tryz.func119,Tryz.ntmps119
 go_wp2
 go_end0
 exact⟨rfl,rfl⟩
set_option maxHeartbeats 1600000 in
theorem znV (o:Xf) (g:Nat) (w:Xe) (hl:Loc w g (ws0 o) 127) :
  Calls Tryz.prog 138 #[.pointer (some ⟨g,1,none⟩),.func (.func 119) #[.pointer (some ⟨g,1,none⟩)] #[]] w fun e w'=>e=.returned (.tuple #[])∧∃m,w.heap.size<=m∧Loc w' g (ws1 o m) 127∧w'.heap[m]? = some zaL∧Frm w w' [g]:=by
 have h1:w.cell? ⟨g,2,none⟩=some (.int .i32 0):=hl.cell 2
 have f1:=hl.frozen 2
 have l1:Loc (w.setCell ⟨g,2,none⟩ (.int .i32 1)) g #[o,.int .u32 0,.int .i32 1,.int .u32 0,.map none] 127:=hl.set 2 (.int .i32 1)
 have F1:=Frm.set w g 2 (.int .i32 1)
 have hnot:∀(x:Bool) (w:Xe),(Op.unary .not (.bool x)).run Tryz.prog w=.ok (.bool (!x)) w:=fun _ _=>rfl
 go_enter_defers Tryz.func138,Tryz.ntmps138
 go_wp2_with (go_at_call 149;refine (zfL ⟨g,2,none⟩ _ (by go_simp) (by go_simp)).mono ?_;rintro e w' ⟨rfl,rfl⟩)
 generalize w.setCell ⟨g,2,none⟩ (.int .i32 1)=w1 at *
 refine (zcl ⟨g,1,none⟩ 0 w1 (l1.cell 1) false (by simp)).mono ?_
 rintro e w1 ⟨rfl,rfl⟩
 go_wp2_with fail
 refine (zoc o g w1 _ l1 _ (l1.cell 4)).mono ?_
 rintro e w2 ⟨rfl,hw2⟩
 have l2:Loc w2 g #[o,.int .u32 0,.int .i32 1,.int .u32 0,.map (some w1.heap.size)] 127:=by rw [hw2];exact (l1.set 4 (.map (some w1.heap.size))).alloc _
 have m2:w2.heap[w1.heap.size]? = some zaL:=by rw [hw2];have:=heap_alloc_new (w1.setCell ⟨g,4,none⟩ (.map (some w1.heap.size))) zaL;rwa [show (w1.setCell ⟨g,4,none⟩ (.map (some w1.heap.size))).heap.size=w1.heap.size by simp]at this
 have F2:Frm w1 w2 [g]:=by rw [hw2];exact (Frm.set w1 g 4 _).trans (Frm.alloc _ _ _)
 have hne:w1.heap.size≠g:=by have:=l1.lt;omega
 have F12:=F1.trans F2
 have hmm:=F1.size
 clear hw2
 generalize w1.heap.size=m at *
 go_wp2_with fail
 refine leaves_cons (f:=151) (args:= #[.pointer (some ⟨g,1,none⟩),.bool true]) (by simp) (by simp [go_sem]) ?_
 refine (zdk ⟨g,1,none⟩ (.int .u32 0) .returning _ (l2.cell 1) (l2.frozen 1)).mono ?_
 rintro e u' w3 ⟨rfl,rfl,hw3⟩
 have ld:Loc w2.drew g #[o,.int .u32 0,.int .i32 1,.int .u32 0,.map (some m)] 127:=l2.frm (Frm.drew w2 []) (by simp)
 have l3:Loc w3 g #[o,.int .u32 1,.int .i32 1,.int .u32 0,.map (some m)] 127:=by rw [hw3];exact ld.set 1 (.int .u32 1)
 have F3:Frm w2 w3 [g]:=by rw [hw3];exact (Frm.drew w2 _).trans (Frm.set _ g 1 _)
 clear hw3
 refine leaves_cons (f:=150) (args:= #[.pointer (some ⟨g,2,none⟩)]) (by simp [settle]) (by simp [go_sem]) ?_
 refine (zdf ⟨g,2,none⟩ _ _ (l3.cell 2) (l3.frozen 2)).mono ?_
 rintro e u' w4 ⟨rfl,rfl,hw4⟩
 have l4:Loc w4 g (ws1 o m) 127:=by rw [hw4];exact l3.set 2 (.int .i32 0)
 have F4:Frm w3 w4 [g]:=by rw [hw4];exact Frm.set _ g 2 _
 have hm:m<w2.heap.size:=by
  by_cases h:m<w2.heap.size
  ·exact h
  ·rw [Array.getElem?_eq_none (by omega)]at m2;cases m2
 have F34:=F3.trans F4
 have m4:w4.heap[m]? = some zaL:=(F34.block m hm (by simpa using hne)).trans m2
 simp [Leaves,settle,results,Tryz.results138]
 exact⟨m,hmm,l4,m4,F12.trans F34⟩
theorem zrU (B:Nat) (o:Xf) (g:Nat) (w:Xe) (h:WSet B o w g) (hB:B<=w.heap.size) :
  Calls Tryz.prog 118 #[.pointer (some ⟨g,1,none⟩),.func (.func 119) #[.pointer (some ⟨g,1,none⟩)] #[]] w fun e w'=>e=.returned (.tuple #[])∧znE B o w' g∧Frm w w' [g]:=by
 have hnot:∀(x:Bool) (w:Xe),(Op.unary .not (.bool x)).run Tryz.prog w=.ok (.bool (!x)) w:=fun _ _=>rfl
 rcases h with hl | ⟨m,hbm,hl,hm⟩
 ·have h0:w.cell? ⟨g,1,none⟩=some (.int .u32 0):=hl.cell 1
  go_enter Tryz.func118,Tryz.ntmps118
  go_wp2_with fail
  refine (zcl ⟨g,1,none⟩ 0 w h0 false (by simp)).mono ?_
  rintro e w ⟨rfl,rfl⟩
  go_wp2_with fail
  refine (znV o g w hl).mono ?_
  rintro e w' ⟨rfl,m,hbm,l',m',F'⟩
  go_wp2_with fail
  go_end0
  exact⟨rfl,⟨m,Nat.le_trans hB hbm,l',m'⟩,F'⟩
 ·have h0:w.cell? ⟨g,1,none⟩=some (.int .u32 1):=hl.cell 1
  go_enter Tryz.func118,Tryz.ntmps118
  go_wp2_with fail
  refine (zcl ⟨g,1,none⟩ 1 w h0 true (by simp)).mono ?_
  rintro e w ⟨rfl,rfl⟩
  go_wp2_with fail
  go_end0
  exact⟨rfl,⟨m,hbm,hl,hm⟩,Frm.refl _ _⟩
open Classical in
set_option maxHeartbeats 1600000 in
theorem zqT (B:Nat) (o:Xf) (g:Nat) (w:Xe) (v:Xf) (l:Xa) (h:WSet B o w g) (hBB:B<=w.heap.size) (hv:∀w',Frm w w' [g]->Byt w' v l) :
  Calls Tryz.prog 85 #[.pointer (some ⟨g,1,none⟩),v] w fun e w'=>e=.returned (.bool (decide (Void l)))∧znE B o w' g∧Frm w w' [g]:=by
 have hmf:∀(fn:Fn) (first cap:Array Xf) (w:Xe),(Instr.makeFunc fn first cap).run Tryz.prog w=.ok (.func fn first cap) w:=fun _ _ _ _=>rfl
 have hg:g<w.heap.size:=by
  rcases h with h | ⟨m,_,h,_⟩
  ·exact h.lt
  ·exact h.lt
 obtain⟨a1,k1,rfl,_⟩:=(hv w (Frm.refl _ _)).shape
 have HV:=hide hv
 clear hv
 go_enter Tryz.func85,Tryz.ntmps85
 go_wp2_with fail
 refine (zrU B o g w h hBB).mono ?_
 rintro e w1 ⟨rfl,⟨m,hbm,l1,m1⟩,F1⟩
 have h3:w1.cell? ⟨g,4,none⟩=some (.map (some m)):=l1.cell 4
 have h3d:w1.drew.cell? ⟨g,4,none⟩=some (.map (some m)):=l1.cell 4
 have h3a:(w1.alloc (.cells #[] 96)).cell? ⟨g,4,none⟩=some (.map (some m)):=(l1.alloc _).cell 4
 have hlt:m<w1.heap.size:=by
  by_cases h:m<w1.heap.size
  ·exact h
  ·rw [Array.getElem?_eq_none (by omega)]at m1;cases m1
 have hb1:Byt w1 _ l:=zaa HV w1 F1
 have c1:=zbf w1.drew _ l (hb1.keep ((Below.refl _ _).drew))
 have c2:=zbf (w1.alloc (.cells #[] 96)).drew _ l (hb1.keep (((Below.refl _ _).alloc (Nat.le_refl _) _).drew))
 have q1:=fun s=>zcY w1.drew m s m1
 have q2:=fun s=>zcY (w1.alloc (.cells #[] 96)).drew m s ((heap_alloc_old w1 _ hlt).trans m1)
 have HS:=hide (zfW l hb1.1)
 generalize str l=s at *
 generalize l.length=n at *
 go_wp2_with fail
 go_region
 all_goals
  go_wp2_with fail
  go_ret
  exact⟨by rw [<-zaa HS];rfl,⟨m,hbm,(l1.alloc _).all ((Below.refl _ _).drew),(heap_alloc_old w1 _ hlt).trans m1⟩,F1.trans ((Frm.alloc w1 _ _).trans (Frm.drew _ _))⟩
theorem zcH {w:Xe} {ops:Array Oper} {rest:List Oper} {o:Oper} {a:Act} {Q:Exit->Act->Xe->Prop} (hgd:o.guard=none) (s x:Operand)
  (ho:o.op=.call { callee:=.builtin .append,args:= #[s,x],argTypes:= #[22,22] })
  (base:Nat) (v:Xf) (l:Xa) (hs:a.eval s=v) (hown:Own w base v l) (u:Xf) (m:Xa) (hx:a.eval x=u) (hu:Byt w u m)
  (hlen:l.length+m.length<=134217728) (hbase:base<=w.heap.size)
  (h:∀v' w',Own w' base v' (l++m)->w.grownBy w' v.ownBlock->wpList Tryz.prog ops Q rest (a.put o.dst v') w'):wpList Tryz.prog ops Q (o::rest) a w:=by
 obtain⟨i0,hi,hz0,hz1,hz2⟩:=info_parts Tryz.info5
 have hfull:∀(ad:Addr) (c:Nat),a.eval x=.slice (some ad) m.length c->(∀j,j<m.length->w.cell? (ad.add j)=some (.int .u8 (m.getD j 0)))->wpList Tryz.prog ops Q (o::rest) a w:=by
  intro ad c hx' hc
  refine wpList_append_own _ hgd s x 22 ho base 5 i0 (.int .u8 0) 1 1 Tryz.underlying22 hi hz0 hz1 hz2 rfl (by decide) v l.length (vals l) hs hown.2 ad m.length c (vals m) hx' (by rw [zcA];omega) ?_ (zku m) (by unfold maxLen;omega) (by omega) hbase ?_
  ·intro j y hj
   have hlt:j<m.length:=by
    by_cases hlt:j<m.length
    ·exact hlt
    ·rw [List.getElem?_eq_none (by rw [zcA];omega)]at hj;cases hj
   rw [zdm hlt]at hj
   rw [hc j hlt];exact hj
  ·intro v' w' h1 h2 _
   refine h v' w' ⟨hown.1.app hu.1,?_⟩ h2
   rw [zcP,List.length_append];exact h1
 obtain⟨hok,hm,⟨rfl,rfl⟩ | ⟨y,cap,rfl,hc,rfl⟩ | ⟨b,off,cap,rfl,h1,h2,h3,h4,h5⟩⟩:=hu
 ·refine wpList_append_own_none hgd s x 22 ho base 5 i0 1 Tryz.underlying22 hi v l.length (vals l) hs hown.2 hx ?_
  exact h v w (by rw [List.append_nil];exact hown) (World.grownBy.refl _ _)
 ·exact hfull y cap hx (fun j hj=>by simp at hj)
 ·exact hfull ⟨b,off,none⟩ cap hx (fun j hj=>by rw [zbc];exact h5 j hj)
theorem zcZ (w:Xe) (x:Int) (h0:0<=x) (h1:x<=255):Byt (w.alloc (.cells #[.int .u8 x] 5)) (.slice (some ⟨w.heap.size,0,none⟩) 1 1) [x]:=by
 refine⟨okB.one h0 h1,by simp [maxLen],.inr (.inr ⟨w.heap.size,0,1,rfl,by simp,by simp [maxLen],by simp,by simp,fun i hi=> ?_⟩)⟩
 have e:i=0:=by simpa using hi
 subst e
 simp
theorem zqj (w:Xe):Own (w.alloc (.cells #[] 5)) w.heap.size (.slice (some ⟨w.heap.size,0,none⟩) 0 0) []:=
 ⟨zbL,World.ownsRow_lit w #[] 0 (Nat.le_refl _) (Nat.zero_le _) rfl⟩
theorem Own.alloc {w:Xe} {base:Nat} {v:Xf} {l:Xa} (h:Own w base v l) (o:Obj):Own (w.alloc o) base v l:=⟨h.1,h.2.alloc o⟩
theorem Byt.alloc {w:Xe} {v:Xf} {l:Xa} (h:Byt w v l) (o:Obj):Byt (w.alloc o) v l:=h.keep ((Below.refl _ _).alloc (Nat.le_refl _) o)
structure Frp (Mt:Nat->Obj->Prop) (a b:Xe):Prop where
 os:b.os=a.os
 tape:b.tape=a.tape
 output:b.output=a.output
 size:a.heap.size<=b.heap.size
 block:∀i o,a.heap[i]? = some o->¬ Mt i o->b.heap[i]? = some o
theorem Frp.refl (Mt:Nat->Obj->Prop) (a:Xe):Frp Mt a a:=⟨rfl,rfl,rfl,Nat.le_refl _,fun _ _ h _=>h⟩
theorem Frp.trans {Mt:Nat->Obj->Prop} {a b c:Xe} (h:Frp Mt a b) (k:Frp Mt b c):Frp Mt a c:=
 ⟨k.os.trans h.os,k.tape.trans h.tape,k.output.trans h.output,Nat.le_trans h.size k.size,fun i o hi hm=>k.block i o (h.block i o hi hm) hm⟩
theorem Frp.ofBelow {a b:Xe} (h:Below a.heap.size a b) (Mt:Nat->Obj->Prop):Frp Mt a b:=
 ⟨h.os,h.tape,h.output,h.size,fun i o hi _=>(h.block i (Array.getElem?_eq_some_iff.1 hi).1).trans hi⟩
theorem Frp.ofFrm {a b:Xe} {S:Xb} (h:Frm a b S) {Mt:Nat->Obj->Prop} (hm:∀g∈S,∀o,a.heap[g]? = some o->Mt g o):Frp Mt a b:=
 ⟨h.os,h.tape,h.output,h.size,fun i o hi hn=>(h.block i (Array.getElem?_eq_some_iff.1 hi).1 (fun e=>hn (hm i e o hi))).trans hi⟩
theorem Frp.below {Mt:Nat->Obj->Prop} {a b:Xe} {B:Nat} (h:Frp Mt a b) (hB:B<=a.heap.size) (hm:∀i o,i<B->¬ Mt i o):Below B a b:=
 ⟨h.os,h.tape,h.output,h.size,fun i hi=>by
  have hlt:i<a.heap.size:=by omega
  have:=h.block i _ (Array.getElem?_eq_getElem hlt) (hm i _ hi)
  rw [this,Array.getElem?_eq_getElem hlt]⟩
theorem Loc.frp {Mt:Nat->Obj->Prop} {w w':Xe} {g:Nat} {cs:Array Xf} {T:Xg} (h:Loc w g cs T) (f:Frp Mt w w') (hn:¬ Mt g (.cells cs T (0,0))):Loc w' g cs T:=f.block g _ h hn
theorem zeU {w:Xe} {base:Nat} {e:Xg} {size n:Nat} {v:Xf} {xs:Xd} (h:w.ownsRow base e size v n xs) {g:Nat} (hg:v.ownBlock=some g):∃cur,w.heap[g]? = some (.cells cur e (0,0)):=by
 rcases h.2 with ⟨rfl,_⟩ | ⟨g',cap,cur,rfl,_,ho,_⟩
 ·cases hg
 ·cases hg;exact⟨cur,ho⟩
def MtB (B:Nat) (i:Nat) (o:Obj):Prop:=B<=i∧∃cs,o=.cells cs 5 (0,0)
theorem Frp.ofAppend {w w':Xe} {B:Nat} {v:Xf} {l:Xa} (ho:Own w B v l) (h:w.grownBy w' v.ownBlock):Frp (MtB B) w w':=
 Frp.ofFrm (Frm.ofGrown h) (fun g hg o hob=>by
  have hg':v.ownBlock=some g:=by simpa using hg
  obtain⟨cur,hcur⟩:=zeU ho.2 hg'
  rw [hcur]at hob
  cases hob
  exact⟨(ho.lt g hg').1,cur,rfl⟩)
theorem Frp.toBelow {B:Nat} {a b:Xe} (h:Frp (MtB B) a b) (hB:B<=a.heap.size):Below B a b:=h.below hB (fun i o hi hm=>by have:=hm.1;omega)
def sayB (q:Bool) (x:Int):Xa:=if x=38 then [38,97,109,112,59] else if x=60 then [38,108,116,59] else if x=34∧q=true then [38,113,117,111,116,59] else [x]
def say (q:Bool) (l:Xa):Xa:=(l.map (sayB q)).flatten
theorem zkj (q:Bool) (l:Xa) (j:Nat) (h:j<l.length):say q (l.take (j+1))=say q (l.take j)++sayB q l[j]:=by
 unfold say
 rw [List.take_succ_eq_append_getElem h,List.map_append,List.flatten_append]
 simp
theorem zoW (q:Bool) (l:Xa) (j:Nat):(say q (l.take j)).length<=(say q l).length:=by
 have:say q l=say q (l.take j)++say q (l.drop j):=by
  unfold say
  rw [<-List.flatten_append,<-List.map_append,List.take_append_drop]
 rw [this,List.length_append]
 omega
theorem zqL (q:Bool) (x:Int):(sayB q x).length<=6:=by
 unfold sayB
 split
 ·decide
 ·split
  ·decide
  ·split
   ·decide
   ·simp
theorem zik (q:Bool):∀l:Xa,(say q l).length<=6*l.length
 | []=>by simp [say]
 | x::l=>by
  have h1:=zik q l
  have h2:=zqL q x
  unfold say at h1 ⊢
  simp only [List.map_cons,List.flatten_cons,List.length_append,List.length_cons]
  omega
theorem zdy {w:Xe} {ops:Array Oper} {rest:List Oper} {o:Oper} {a:Act} {Q:Exit->Act->Xe->Prop} (hgd:o.guard=none) (s x:Operand)
  (ho:o.op=.call { callee:=.builtin .append,args:= #[s,x],argTypes:= #[22,9] })
  (base:Nat) (v:Xf) (l:Xa) (hs:a.eval s=v) (hown:Own w base v l) (t:ByteArray) (m:Xa) (hx:a.eval x=.string t) (hm:Lib.strCells t=vals m) (hok:okB m)
  (hlen:l.length+m.length<=134217728) (hbase:base<=w.heap.size)
  (h:∀v' w',Own w' base v' (l++m)->w.grownBy w' v.ownBlock->wpList Tryz.prog ops Q rest (a.put o.dst v') w'):wpList Tryz.prog ops Q (o::rest) a w:=by
 obtain⟨i0,hi,hz0,hz1,hz2⟩:=info_parts Tryz.info5
 have hsz:t.size=m.length:=by rw [<-Lib.strCells_length,hm,zcA]
 refine Lib.wpList_append_own_string _ hgd s x 22 9 ho base 5 i0 Tryz.underlying22 Tryz.underlying9 hi hz0 hz1 hz2 v l.length (vals l) hs hown.2 t hx (by rw [hsz];unfold maxLen;omega) (by omega) hbase ?_
 intro v' w' h1 h2 _
 refine h v' w' ⟨hown.1.app hok,?_⟩ h2
 rw [zcP,List.length_append,<-hsz,<-hm];exact h1
theorem zmj:okB [38,97,109,112,59]:=fun x hx=>by simp at hx;omega
theorem zpc:okB [38,108,116,59]:=fun x hx=>by simp at hx;omega
theorem zkL:okB [38,113,117,111,116,59]:=fun x hx=>by simp at hx;omega
set_option maxHeartbeats 3200000 in
theorem zkA (w0 w:Xe) (B:Nat) (v u:Xf) (l t:Xa) (q:Bool) (hB:B<=w.heap.size) (ho:Own w B v l) (hu:Byt w0 u t) (hW:Below w0.heap.size w0 w) (h0:w0.heap.size<=B) (hlen:l.length+(say q t).length<=100000000) :
  Calls Tryz.prog 79 #[v,u,.bool q] w fun e w'=>∃v',e=.returned v'∧Own w' B v' (l++say q t)∧Frp (MtB B) w w':=by
 obtain⟨av,cv,rfl,_,_⟩:=ho.byt.shape
 obtain⟨au,cu,rfl,_,_⟩:=hu.shape
 have hml:=hu.2.1
 unfold maxLen at hml
 have hm':(t.length:Int)<=9223372036854775807:=by omega
 go_enter Tryz.func79,Tryz.ntmps79
 go_wp2_with fail
 go_loopw [0,7] (fun b i wr=>∃j:Nat,j<=t.length∧i=.int .i64 j∧Own wr B b (l++say q (t.take j))∧Frp (MtB B) w wr) (fun _ i _=>t.length-(intOf i).toNat)
 case atStart=>exact⟨0,Nat.zero_le _,rfl,by simpa [say]using ho,Frp.refl _ _⟩
 case round=>
  obtain⟨j,hj,rfl,hr,hb⟩:=hrel
  by_cases hjl:j<t.length
  ·have hst:=zkj q t j hjl
   have hle:=zoW q t (j+1)
   obtain⟨hok,_,⟨_,e⟩ | ⟨_,_,_,_,e⟩ | ⟨p,off,cap,e,h1,h2,h3,h4,h5⟩⟩:=hu
   ·subst e;simp at hjl
   ·subst e;simp at hjl
   injection e with e1 _ e3
   subst e1 e3
   have hc:=h5 j hjl
   obtain⟨x,hx⟩:∃x,x=t[j]:=⟨_,rfl⟩
   rw [zcq hjl,<-hx]at hc
   rw [<-hx]at hst
   have hx1:0<=x:=by rw [hx];exact (hok _ (List.getElem_mem hjl)).1
   have hx2:x<=255:=by rw [hx];exact (hok _ (List.getElem_mem hjl)).2
   have hW2:Below w0.heap.size w0 wr:=hW.trans ((hb.toBelow hB).mono h0)
   have hcx:wr.cell? ⟨p,off+j,none⟩=some (.int .u8 x):=(hW2.cell (p:=⟨p,off+j,none⟩) h4).trans hc
   have hBr:B<=wr.heap.size:=Nat.le_trans hB hb.size
   obtain⟨ab,cb,hbv,_,_⟩:=hr.byt.shape
   subst hbv
   have hl2:(l++say q (t.take j)).length+(sayB q x).length<=100000000:=by
    rw [hst]at hle
    simp only [List.length_append]at hle ⊢
    omega
   have hjl':(j:Int)<(t.length:Int):=by omega
   have HST:=hide hst
   obtain⟨L,hL⟩:∃L,L=l++say q (t.take j):=⟨_,rfl⟩
   have HL:=hide (show l++say q (t.take (j+1))=L++sayB q x by rw [hst,hL,List.append_assoc])
   rw [<-hL]at hr hl2 ⊢
   have hl3:L.length<=100000000:=by omega
   have HR:=hide hr
   clear hr hst hx hc hle h5 hL HST
   by_cases k1:x=38
   ·have d1:(x == 38)=true:=by simpa using k1
    have HY:=hide (show sayB q x=[38,97,109,112,59] by unfold sayB;rw [if_pos k1])
    clear k1
    go_wp2_with (at_builtin;refine zdy rfl _ _ rfl B _ L rfl (zaa HR) _ [38,97,109,112,59] rfl rfl zmj (by first | omega | (simp;omega)) (by first | exact hBr | (simp;omega)) ?_)
    intro v2 w2 ho2 hg2
    have hb2:Frp (MtB B) w w2:=hb.trans (Frp.ofAppend (zaa HR) hg2)
    have HO:=hide (show Own w2 B v2 (l++say q (t.take (j+1))) by rw [zaa HL,zaa HY];exact ho2)
    obtain⟨a2,c2,hv2,_,_⟩:=ho2.byt.shape
    subst hv2
    clear ho2 hg2
    go_wp2_with fail
    go_roundw
    case rel=>exact⟨j+1,by omega,by go_num,zaa HO,hb2⟩
    case measure=>simp [intOf];omega
   ·have d1:(x == 38)=false:=by simpa using k1
    by_cases k2:x=60
    ·have d2:(x == 60)=true:=by simpa using k2
     have HY:=hide (show sayB q x=[38,108,116,59] by unfold sayB;rw [if_neg k1,if_pos k2])
     clear k1 k2
     go_wp2_with (at_builtin;refine zdy rfl _ _ rfl B _ L rfl (zaa HR) _ [38,108,116,59] rfl rfl zpc (by first | omega | (simp;omega)) (by first | exact hBr | (simp;omega)) ?_)
     intro v2 w2 ho2 hg2
     have hb2:Frp (MtB B) w w2:=hb.trans (Frp.ofAppend (zaa HR) hg2)
     have HO:=hide (show Own w2 B v2 (l++say q (t.take (j+1))) by rw [zaa HL,zaa HY];exact ho2)
     obtain⟨a2,c2,hv2,_,_⟩:=ho2.byt.shape
     subst hv2
     clear ho2 hg2
     go_wp2_with fail
     go_roundw
     case rel=>exact⟨j+1,by omega,by go_num,zaa HO,hb2⟩
     case measure=>simp [intOf];omega
    ·have d2:(x == 60)=false:=by simpa using k2
     by_cases k3:x=34∧q=true
     ·have d3:(x == 34)=true:=by simpa using k3.1
      have HY:=hide (show sayB q x=[38,113,117,111,116,59] by unfold sayB;rw [if_neg k1,if_neg k2,if_pos k3])
      obtain⟨_,hq⟩:=k3
      subst hq
      clear k1 k2
      go_wp2_with (at_builtin;refine zdy rfl _ _ rfl B _ L rfl (zaa HR) _ [38,113,117,111,116,59] rfl rfl zkL (by first | omega | (simp;omega)) (by first | exact hBr | (simp;omega)) ?_)
      intro v2 w2 ho2 hg2
      have hb2:Frp (MtB B) w w2:=hb.trans (Frp.ofAppend (zaa HR) hg2)
      have HO:=hide (show Own w2 B v2 (l++say true (t.take (j+1))) by rw [zaa HL,zaa HY];exact ho2)
      obtain⟨a2,c2,hv2,_,_⟩:=ho2.byt.shape
      subst hv2
      clear ho2 hg2
      go_wp2_with fail
      go_roundw
      case rel=>exact⟨j+1,by omega,by go_num,zaa HO,hb2⟩
      case measure=>simp [intOf];omega
     ·have HY:=hide (show sayB q x=[x] by unfold sayB;rw [if_neg k1,if_neg k2,if_neg k3])
      have d3:((x == 34)=true∧q=false)∨(x == 34)=false:=by
       by_cases h34:x=34
       ·left
        refine⟨by simpa using h34,?_⟩
        cases q with
        | true=>exact absurd ⟨h34,rfl⟩ k3
        | false=>rfl
       ·right;simpa using h34
      clear k1 k2 k3
      rcases d3 with ⟨d3,rfl⟩ | d3
      ·go_wp2_with (at_builtin;(refine zcH rfl _ _ rfl B _ L rfl ((zaa HR).alloc _) _ [x] rfl (zcZ wr x hx1 hx2) (by first | omega | (simp;omega)) (by first | exact hBr | (simp;omega)) ?_))
       intro v2 w2 ho2 hg2
       have hb2:Frp (MtB B) w w2:=(hb.trans (Frp.ofBelow ((Below.refl _ _).alloc (Nat.le_refl _) _) _)).trans (Frp.ofAppend ((zaa HR).alloc _) hg2)
       have HO:=hide (show Own w2 B v2 (l++say false (t.take (j+1))) by rw [zaa HL,zaa HY];exact ho2)
       obtain⟨a2,c2,hv2,_,_⟩:=ho2.byt.shape
       subst hv2
       clear ho2 hg2
       go_wp2_with fail
       go_roundw
       case rel=>exact⟨j+1,by omega,by go_num,zaa HO,hb2⟩
       case measure=>simp [intOf];omega
      ·go_wp2_with (at_builtin;(refine zcH rfl _ _ rfl B _ L rfl ((zaa HR).alloc _) _ [x] rfl (zcZ wr x hx1 hx2) (by first | omega | (simp;omega)) (by first | exact hBr | (simp;omega)) ?_))
       intro v2 w2 ho2 hg2
       have hb2:Frp (MtB B) w w2:=(hb.trans (Frp.ofBelow ((Below.refl _ _).alloc (Nat.le_refl _) _) _)).trans (Frp.ofAppend ((zaa HR).alloc _) hg2)
       have HO:=hide (show Own w2 B v2 (l++say q (t.take (j+1))) by rw [zaa HL,zaa HY];exact ho2)
       obtain⟨a2,c2,hv2,_,_⟩:=ho2.byt.shape
       subst hv2
       clear ho2 hg2
       go_wp2_with fail
       go_roundw
       case rel=>exact⟨j+1,by omega,by go_num,zaa HO,hb2⟩
       case measure=>simp [intOf];omega
  ·have e:j=t.length:=by omega
   subst e
   rw [List.take_length]at hr
   obtain⟨ab,cb,hbv,_,_⟩:=hr.byt.shape
   subst hbv
   clear hu
   go_wp2_with fail
   go_ret
   exact⟨_,rfl,hr,hb⟩
end Go.Proofs.YtlpnibbdmkeklaaGreatDoor
