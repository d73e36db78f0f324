/- Own texts joined: Base, PlM, BaseZ, NameS, NameB, KeyS, IdS, OpS, To, Str, Tree, AttrS, LocB, OwnT, Sz, ToT. -/
import Derived.WalkKit
import Derived.OpenShut
import Derived.WalkSpells
import Derived.WalkSmall
import Derived.Laws.AppendOwnNone
import Derived.Laws.CopyOwn
import Derived.Test.YtlpnibbdmkeklaaGreatDoorChecked
import Derived.WalkLawsBesides
import Derived.Deep.RegionHeld3
import Derived.Deep.QuietTactic
import Derived.BigQuiet
namespace Go.Proofs.YtlpnibbdmkeklaaGreatDoor
open Go.RowKit
set_option linter.unusedVariables false
theorem hide {p:Prop} (h:p):Hid p:=h
theorem zaa {p:Prop} (h:Hid p):p:=h
def okB (l:List Int):Prop:=∀x∈l,0≤x∧x≤255
def vals (l:List Int):List Value:=l.map (Value.int .u8)
def Byt (w:World) (v:Value) (l:List Int):Prop:=
 okB l∧l.length≤maxLen∧
 ((v=.slice none 0 0∧l=[])∨
  (∃x cap,v=.slice (some x) 0 cap∧cap≤maxLen∧l=[])∨
  (∃b off cap,v=.slice (some ⟨b,off,none⟩) l.length cap∧l.length≤cap∧cap≤maxLen∧l≠[]∧b<w.heap.size∧
   ∀i,i<l.length→w.cell? ⟨b,off+i,none⟩=some (.int .u8 (l.getD i 0))))
def Own (w:World) (base:Nat) (v:Value) (l:List Int):Prop:=okB l∧w.ownsRow base 5 1 v l.length (vals l)
theorem zcF {l:List Int} {k:Nat} (h:k<l.length):l.getD k 0=l[k]:=by simp [h]
theorem zbJ:okB []:=fun _ h=>by cases h
theorem okB.app {a b:List Int} (h:okB a) (k:okB b):okB (a++b):=fun x hx=>by
 rcases List.mem_append.1 hx with h' | h'
 ·exact h x h'
 ·exact k x h'
theorem okB.take {a:List Int} (h:okB a) (n:Nat):okB (a.take n):=fun x hx=>h x (List.mem_of_mem_take hx)
theorem okB.drop {a:List Int} (h:okB a) (n:Nat):okB (a.drop n):=fun x hx=>h x (List.mem_of_mem_drop hx)
theorem okB.at {a:List Int} (h:okB a) (i:Nat):0≤a[i]?.getD 0∧a[i]?.getD 0≤255:=by
 by_cases hi:i<a.length
 ·rw [List.getElem?_eq_getElem hi];exact h _ (List.getElem_mem hi)
 ·rw [List.getElem?_eq_none (by omega)];decide
theorem okB.one {x:Int} (h0:0≤x) (h1:x≤255):okB [x]:=fun y hy=>by simp at hy;subst hy;exact⟨h0,h1⟩
theorem zcu (l:List Int):(vals l).length=l.length:=by simp [vals]
theorem zcN (a b:List Int):vals (a++b)=vals a++vals b:=by simp [vals]
theorem zjE (l:List Int):∀u∈vals l,u.oneCell'=true:=ints_oneCell _ _
theorem zdd {l:List Int} {i:Nat} (h:i<l.length):(vals l)[i]? = some (.int .u8 (l.getD i 0)):=by simp [vals,h]
theorem Own.lt {w:World} {base:Nat} {v:Value} {l:List Int} (h:Own w base v l):∀k,v.ownBlock=some k→base≤k∧k<w.heap.size:=h.2.lt
theorem Own.mono {w:World} {base base':Nat} {v:Value} {l:List Int} (h:Own w base v l) (hb:base'≤base):Own w base' v l:=by
 refine⟨h.1,h.2.1,?_⟩
 rcases h.2.2 with h' | ⟨g,cap,cur,h1,h2,h3⟩
 ·exact .inl h'
 ·exact .inr ⟨g,cap,cur,h1,by omega,h3⟩
theorem Own.byt {w:World} {base:Nat} {v:Value} {l:List Int} (h:Own w base v l):Byt w v l:=by
 obtain⟨hok,hlen,hrow⟩:=h
 have hl:=hlen
 rcases hrow with ⟨rfl,h0⟩ | ⟨g,cap,cur,rfl,hb,hg,hnc,hcm,hcs,htake⟩
 ·exact⟨hok,by omega,.inl ⟨rfl,List.eq_nil_of_length_eq_zero h0⟩⟩
 ·refine⟨hok,by omega,.inr ?_⟩
  by_cases h0:l=[]
  ·subst h0;exact .inl ⟨_,cap,rfl,hcm,rfl⟩
  ·refine .inr ⟨g,0,cap,rfl,hnc,hcm,h0,?_,fun i hi=> ?_⟩
   ·by_cases hlt:g<w.heap.size
    ·exact hlt
    ·rw [Array.getElem?_eq_none (by omega)]at hg;cases hg
   ·have:=World.ownsRow.cellAt (w:=w) (base:=base) (e:=5) (size:=1) (g:=g) (n:=l.length) (cap:=cap) (xs:=vals l) ⟨hlen,.inr ⟨g,cap,cur,rfl,hb,hg,hnc,hcm,hcs,htake⟩⟩ i (by omega)
    rw [zdd hi]at this
    simpa using this
theorem Byt.shape {w:World} {v:Value} {l:List Int} (h:Byt w v l):∃a cap,v=.slice a l.length cap∧l.length≤cap∧cap≤maxLen:=by
 obtain⟨_,hm,⟨rfl,rfl⟩ | ⟨x,cap,rfl,hc,rfl⟩ | ⟨b,off,cap,rfl,h1,h2,_⟩⟩:=h
 ·exact⟨none,0,rfl,Nat.le_refl _,hm⟩
 ·exact⟨some x,cap,rfl,Nat.zero_le _,hc⟩
 ·exact⟨_,cap,rfl,h1,h2⟩
theorem Byt.keep {w w':World} {v:Value} {l:List Int} (h:Byt w v l) (hb:Below w.heap.size w w'):Byt w' v l:=by
 obtain⟨hok,hm,h1 | h2 | ⟨b,off,cap,rfl,h1,h2,h3,h4,h5⟩⟩:=h
 ·exact⟨hok,hm,.inl h1⟩
 ·exact⟨hok,hm,.inr (.inl h2)⟩
 ·exact⟨hok,hm,.inr (.inr ⟨b,off,cap,rfl,h1,h2,h3,Nat.lt_of_lt_of_le h4 hb.size,fun i hi=>by rw [hb.cell (p:=⟨b,off+i,none⟩) h4];exact h5 i hi⟩)⟩
theorem Own.keep {w w':World} {base:Nat} {v:Value} {l:List Int} (h:Own w base v l) (hb:Below w.heap.size w w'):Own w' base v l:=
 ⟨h.1,h.2.kept (row:=none) ⟨hb.os,hb.tape,hb.output,hb.size,fun k hk _=>hb.block k hk⟩ (by cases hv:v.ownBlock<;>simp)⟩
theorem Below.ofGrown {w w':World} (h:w.grownBy w' none):Below w.heap.size w w':=⟨h.os,h.tape,h.output,h.size,fun k hk=>h.block k hk (by simp)⟩
theorem zad {a b c:World} (h:Below a.heap.size a b) (k:Below b.heap.size b c):Below a.heap.size a c:=h.trans (k.mono h.size)
theorem zdX {a b c:World} {row:Option Nat} (h:Below a.heap.size a b) (k:b.grownBy c row) (hr:∀g,row=some g→a.heap.size≤g):Below a.heap.size a c:=h.grown k h.size hr
theorem zgx {a b c:World} {row:Option Nat} (h:a.grownBy b row) (k:b.grownBy c row):a.grownBy c row:=
 ⟨k.os.trans h.os,k.tape.trans h.tape,k.output.trans h.output,Nat.le_trans h.size k.size,fun i hi hne=>(k.block i (Nat.lt_of_lt_of_le hi h.size) hne).trans (h.block i hi hne)⟩
theorem zaX (b off i:Nat):(⟨b,off,none⟩:Addr).add i=⟨b,off+i,none⟩:=by
 unfold Addr.add
 by_cases h:i=0<;>simp [h]
theorem zaI {w:World} {a:Addr} {v:Value} (h:w.cell? a=some v):a.block<w.heap.size:=by
 by_cases hlt:a.block<w.heap.size
 ·exact hlt
 ·unfold World.cell? at h
  rw [Array.getElem?_eq_none (by omega)]at h
  cases h
theorem zdG {w:World} {a:Option Addr} {len cap:Nat} {zs:List Int}
  (h:(a=none∧len=0∧cap=0∧zs=[])∨∃x,a=some x∧len≤cap∧cap≤maxLen∧zs.length=cap∧(∀i,i<zs.length→w.cell? (x.add i)=some (.int .u8 (zs.getD i 0)))∧∀n∈zs,(Lit.int .u8 n).wf=true) :
  Byt w (.slice a len cap) (zs.take len):=by
 rcases h with ⟨rfl,rfl,rfl,rfl⟩ | ⟨x,rfl,hl,hm,hz,hcell,hwz⟩
 ·exact⟨zbJ,by simp [maxLen],.inl ⟨rfl,rfl⟩⟩
 ·have hok:okB (zs.take len):=fun n hn=>bounds_u8 (hwz n (List.mem_of_mem_take hn))
  have hlen:(zs.take len).length=len:=by simp;omega
  by_cases h0:len=0
  ·subst h0
   exact⟨hok,by simp [maxLen],.inr (.inl ⟨x,cap,rfl,hm,by simp⟩)⟩
  ·obtain⟨b,off,spot⟩:=x
   have hc:=hcell 0 (by omega)
   have hspot:spot=none:=by simpa [Addr.add]using World.cell?_spot hc
   subst hspot
   refine⟨hok,by omega,.inr (.inr ⟨b,off,cap,by rw [hlen],by omega,hm,?_,?_,fun i hi=> ?_⟩)⟩
   ·intro e;rw [e]at hlen;simp at hlen;omega
   ·have:=zaI hc;simpa [Addr.add]using this
   ·have hi':=hcell i (by omega)
    rw [List.getD_eq_getElem?_getD,List.getElem?_take,if_pos (by omega),←List.getD_eq_getElem?_getD]
    rw [zaX]at hi'
    exact hi'
end Go.Proofs.YtlpnibbdmkeklaaGreatDoor
namespace Go.Proofs.YtlpnibbdmkeklaaGreatDoor
structure PlV where
 idN:Int
 idR:Int
 parN:Int
 parR:Int
 key:List Int
 kind:Int
 name:List Int
 text:List Int
 attrs:List (List Int×List Int)
end Go.Proofs.YtlpnibbdmkeklaaGreatDoor
namespace Go.Proofs.YtlpnibbdmkeklaaGreatDoor
open Go.RowKit
set_option linter.unusedVariables false
def okZ (l:List Int):Prop:=∀x∈l,-9223372036854775808≤x∧x≤9223372036854775807
def valz (l:List Int):List Value:=l.map (Value.int .i64)
def Ints (w:World) (v:Value) (l:List Int):Prop:=
 okZ l∧l.length≤maxLen∧
 ((v=.slice none 0 0∧l=[])∨
  (∃x cap,v=.slice (some x) 0 cap∧cap≤maxLen∧l=[])∨
  (∃b off cap,v=.slice (some ⟨b,off,none⟩) l.length cap∧l.length≤cap∧cap≤maxLen∧l≠[]∧b<w.heap.size∧
   ∀i,i<l.length→w.cell? ⟨b,off+i,none⟩=some (.int .i64 (l.getD i 0))))
def OwnZ (w:World) (base:Nat) (v:Value) (l:List Int):Prop:=okZ l∧w.ownsRow base 3 1 v l.length (valz l)
theorem zdc:okZ []:=fun _ h=>by cases h
theorem okZ.app {a b:List Int} (h:okZ a) (k:okZ b):okZ (a++b):=fun x hx=>by
 rcases List.mem_append.1 hx with h' | h'
 ·exact h x h'
 ·exact k x h'
theorem okZ.take {a:List Int} (h:okZ a) (n:Nat):okZ (a.take n):=fun x hx=>h x (List.mem_of_mem_take hx)
theorem okZ.drop {a:List Int} (h:okZ a) (n:Nat):okZ (a.drop n):=fun x hx=>h x (List.mem_of_mem_drop hx)
theorem okZ.at {a:List Int} (h:okZ a) (i:Nat) : -9223372036854775808≤a[i]?.getD 0∧a[i]?.getD 0≤9223372036854775807:=by
 by_cases hi:i<a.length
 ·rw [List.getElem?_eq_getElem hi];exact h _ (List.getElem_mem hi)
 ·rw [List.getElem?_eq_none (by omega)];decide
theorem okZ.one {x:Int} (h0 : -9223372036854775808≤x) (h1:x≤9223372036854775807):okZ [x]:=fun y hy=>by simp at hy;subst hy;exact⟨h0,h1⟩
theorem zjX (l:List Int):(valz l).length=l.length:=by simp [valz]
theorem zfd (a b:List Int):valz (a++b)=valz a++valz b:=by simp [valz]
theorem zpO (l:List Int):∀u∈valz l,u.oneCell'=true:=ints_oneCell _ _
theorem zeM {l:List Int} {i:Nat} (h:i<l.length):(valz l)[i]? = some (.int .i64 (l.getD i 0)):=by simp [valz,h]
theorem OwnZ.lt {w:World} {base:Nat} {v:Value} {l:List Int} (h:OwnZ w base v l):∀k,v.ownBlock=some k→base≤k∧k<w.heap.size:=h.2.lt
theorem OwnZ.mono {w:World} {base base':Nat} {v:Value} {l:List Int} (h:OwnZ w base v l) (hb:base'≤base):OwnZ w base' v l:=by
 refine⟨h.1,h.2.1,?_⟩
 rcases h.2.2 with h' | ⟨g,cap,cur,h1,h2,h3⟩
 ·exact .inl h'
 ·exact .inr ⟨g,cap,cur,h1,by omega,h3⟩
theorem OwnZ.ints {w:World} {base:Nat} {v:Value} {l:List Int} (h:OwnZ w base v l):Ints w v l:=by
 obtain⟨hok,hlen,hrow⟩:=h
 have hl:=hlen
 rcases hrow with ⟨rfl,h0⟩ | ⟨g,cap,cur,rfl,hb,hg,hnc,hcm,hcs,htake⟩
 ·exact⟨hok,by omega,.inl ⟨rfl,List.eq_nil_of_length_eq_zero h0⟩⟩
 ·refine⟨hok,by omega,.inr ?_⟩
  by_cases h0:l=[]
  ·subst h0;exact .inl ⟨_,cap,rfl,hcm,rfl⟩
  ·refine .inr ⟨g,0,cap,rfl,hnc,hcm,h0,?_,fun i hi=> ?_⟩
   ·by_cases hlt:g<w.heap.size
    ·exact hlt
    ·rw [Array.getElem?_eq_none (by omega)]at hg;cases hg
   ·have:=World.ownsRow.cellAt (w:=w) (base:=base) (e:=3) (size:=1) (g:=g) (n:=l.length) (cap:=cap) (xs:=valz l) ⟨hlen,.inr ⟨g,cap,cur,rfl,hb,hg,hnc,hcm,hcs,htake⟩⟩ i (by omega)
    rw [zeM hi]at this
    simpa using this
theorem Ints.shape {w:World} {v:Value} {l:List Int} (h:Ints w v l):∃a cap,v=.slice a l.length cap∧l.length≤cap∧cap≤maxLen:=by
 obtain⟨_,hm,⟨rfl,rfl⟩ | ⟨x,cap,rfl,hc,rfl⟩ | ⟨b,off,cap,rfl,h1,h2,_⟩⟩:=h
 ·exact⟨none,0,rfl,Nat.le_refl _,hm⟩
 ·exact⟨some x,cap,rfl,Nat.zero_le _,hc⟩
 ·exact⟨_,cap,rfl,h1,h2⟩
theorem Ints.keep {w w':World} {v:Value} {l:List Int} (h:Ints w v l) (hb:Below w.heap.size w w'):Ints w' v l:=by
 obtain⟨hok,hm,h1 | h2 | ⟨b,off,cap,rfl,h1,h2,h3,h4,h5⟩⟩:=h
 ·exact⟨hok,hm,.inl h1⟩
 ·exact⟨hok,hm,.inr (.inl h2)⟩
 ·exact⟨hok,hm,.inr (.inr ⟨b,off,cap,rfl,h1,h2,h3,Nat.lt_of_lt_of_le h4 hb.size,fun i hi=>by rw [hb.cell (p:=⟨b,off+i,none⟩) h4];exact h5 i hi⟩)⟩
theorem OwnZ.keep {w w':World} {base:Nat} {v:Value} {l:List Int} (h:OwnZ w base v l) (hb:Below w.heap.size w w'):OwnZ w' base v l:=
 ⟨h.1,h.2.kept (row:=none) ⟨hb.os,hb.tape,hb.output,hb.size,fun k hk _=>hb.block k hk⟩ (by cases hv:v.ownBlock<;>simp)⟩
theorem zgO {w:World} {a:Option Addr} {len cap:Nat} {zs:List Int}
  (h:(a=none∧len=0∧cap=0∧zs=[])∨∃x,a=some x∧len≤cap∧cap≤maxLen∧zs.length=cap∧(∀i,i<zs.length→w.cell? (x.add i)=some (.int .i64 (zs.getD i 0)))∧∀n∈zs,(Lit.int .i64 n).wf=true) :
  Ints w (.slice a len cap) (zs.take len):=by
 rcases h with ⟨rfl,rfl,rfl,rfl⟩ | ⟨x,rfl,hl,hm,hz,hcell,hwz⟩
 ·exact⟨zdc,by simp [maxLen],.inl ⟨rfl,rfl⟩⟩
 ·have hok:okZ (zs.take len):=fun n hn=>bounds_i64 (hwz n (List.mem_of_mem_take hn))
  have hlen:(zs.take len).length=len:=by simp;omega
  by_cases h0:len=0
  ·subst h0
   exact⟨hok,by simp [maxLen],.inr (.inl ⟨x,cap,rfl,hm,by simp⟩)⟩
  ·obtain⟨b,off,spot⟩:=x
   have hc:=hcell 0 (by omega)
   have hspot:spot=none:=by simpa [Addr.add]using World.cell?_spot hc
   subst hspot
   refine⟨hok,by omega,.inr (.inr ⟨b,off,cap,by rw [hlen],by omega,hm,?_,?_,fun i hi=> ?_⟩)⟩
   ·intro e;rw [e]at hlen;simp at hlen;omega
   ·have:=zaI hc;simpa [Addr.add]using this
   ·have hi':=hcell i (by omega)
    rw [List.getD_eq_getElem?_getD,List.getElem?_take,if_pos (by omega),←List.getD_eq_getElem?_getD]
    rw [zaX]at hi'
    exact hi'
def zcD (f:Nat→Int→Prop) (l:List Int) (k:Nat):Prop:=∀i,i<k→f i (l.getD i 0)
theorem zcg {f:Nat→Int→Prop} {l:List Int} {k:Nat} (h:zcD f l k) (h1:f k (l.getD k 0)):zcD f l (k+1):=fun i hi=>by
 by_cases e:i=k
 ·subst e;exact h1
 ·exact h i (by omega)
def zcI (i:Nat) (x:Int):Prop:=(97≤x∧x≤122)∨(0<i∧48≤x∧x≤57)
def zai (l:List Int):Prop:=1≤l.length∧l.length≤8∧zcD zcI l l.length
def zcl (_:Nat) (x:Int):Prop:=32≤x∧x≤126
def zat (l:List Int):Prop:=l.length≤30∧zcD zcl l l.length
theorem zli (w:World) (a:Option Addr) (n cap:Nat) (h:n<1∨8<n) :
  Calls Tryz.prog 103 #[.slice a n cap] w fun e w'=>e=.returned (.bool false)∧w'=w:=by
 by_cases h1:n<1
 ·have h1':(n:Int)<1:=by omega
  go_enter Tryz.func103,Tryz.ntmps103
  go_wp2
  go_ret
  exact⟨rfl,rfl⟩
 ·have h1':decide ((n:Int)<1)=false:=by simp;omega
  have h2:(8:Int)<(n:Int):=by omega
  go_enter Tryz.func103,Tryz.ntmps103
  go_wp2
  go_ret
  exact⟨rfl,rfl⟩
open Classical in
set_option maxHeartbeats 1600000 in
theorem znw (w:World) (b off cap:Nat) (l:List Int) (hok:okB l) (h1:1≤l.length) (h8:l.length≤8)
  (hc:∀i,i<l.length→w.cell? ⟨b,off+i,none⟩=some (.int .u8 (l.getD i 0))) :
  Calls Tryz.prog 103 #[.slice (some ⟨b,off,none⟩) l.length cap] w fun e w'=>e=.returned (.bool (decide (zai l)))∧w'=w:=by
 have d1:decide ((l.length:Int)<1)=false:=by simp;omega
 have d2:decide ((8:Int)<(l.length:Int))=false:=by simp;omega
 go_enter Tryz.func103,Tryz.ntmps103
 go_wp2
 go_loop [3] (fun i=>∃k:Nat,k≤l.length∧i=.int .i64 k∧zcD zcI l k) (fun i=>l.length-(intOf i).toNat)
 case atStart=>exact⟨0,Nat.zero_le _,rfl,fun i hi=>by omega⟩
 case round=>
  obtain⟨k,hk,rfl,ha⟩:=hrel
  have HA:=hide ha
  clear ha
  by_cases hlt:k<l.length
  ·obtain⟨x,hx⟩:∃x,x=l.getD k 0:=⟨_,rfl⟩
   have hcx:w.cell? ⟨b,off+k,none⟩=some (.int .u8 x):=by rw [hx];exact hc _ hlt
   have HX:=hide hx
   have hlt':(k:Int)<(l.length:Int):=by omega
   clear hc hx
   by_cases hn:zcI k x
   ·have HN:=hide hn
    have hcase:(decide (x<97)=false∧decide (122<x)=false)∨(decide (x<97)=true∧((k:Int) == 0)=false∧decide (x<48)=false∧decide (57<x)=false):=by
     rcases hn with ⟨a1,a2⟩ | ⟨a1,a2,a3⟩
     ·left;simp;omega
     ·right;simp;omega
    clear hn
    rcases hcase with ⟨q1,q2⟩ | ⟨q1,q2,q3,q4⟩
    all_goals
     go_wp2
     go_round
     case rel=>exact⟨k+1,by omega,by go_num,zcg (zaa HA) (by rw [←zaa HX];exact zaa HN)⟩
     case measure=>simp [intOf];omega
   ·have HF:=hide (show decide (zai l)=false by
     simp only [decide_eq_false_iff_not]
     rintro⟨_,_,h⟩
     exact hn (by rw [zaa HX];exact h k hlt))
    have hcase:(decide (x<97)=true∧(((k:Int) == 0)=true∨((k:Int) == 0)=false∧(decide (x<48)=true∨decide (x<48)=false∧decide (57<x)=true)))∨
      (decide (x<97)=false∧decide (122<x)=true∧(((k:Int) == 0)=true∨((k:Int) == 0)=false∧decide (x<48)=false∧decide (57<x)=true)):=by
     unfold zcI at hn
     simp
     omega
    clear hn
    rcases hcase with ⟨q1,q2 | ⟨q2,q3 | ⟨q3,q4⟩⟩⟩ | ⟨q1,q2,q3 | ⟨q3,q4,q5⟩⟩
    all_goals
     go_wp2
     go_ret
     exact⟨by rw [zaa HF];rfl,rfl⟩
  ·have e:k=l.length:=by omega
   subst e
   have HF:=hide (show decide (zai l)=true by simp only [decide_eq_true_eq];exact⟨h1,h8,zaa HA⟩)
   clear hc
   go_wp2
   go_ret
   exact⟨by rw [zaa HF];rfl,rfl⟩
open Classical in
theorem zjd (w:World) (v:Value) (l:List Int) (h:Byt w v l) :
  Calls Tryz.prog 103 #[v] w fun e w'=>e=.returned (.bool (decide (zai l)))∧w'=w:=by
 by_cases hl:l.length<1∨8<l.length
 ·obtain⟨a,cap,rfl,_⟩:=h.shape
  have hd:decide (zai l)=false:=by simp only [decide_eq_false_iff_not];rintro⟨_,_,_⟩;omega
  rw [hd]
  exact zli w a _ cap hl
 ·obtain⟨hok,hm,⟨rfl,rfl⟩ | ⟨x,cap,rfl,hc,rfl⟩ | ⟨b,off,cap,rfl,_,_,_,_,h5⟩⟩:=h
  ·simp at hl
  ·simp at hl
  ·exact znw w b off cap l hok (by omega) (by omega) h5
open Classical in
set_option maxHeartbeats 1600000 in
theorem zje (w:World) (v:Value) (l:List Int) (h:Byt w v l) :
  Calls Tryz.prog 102 #[v] w fun e w'=>e=.returned (.bool (decide (zat l)))∧w'=w:=by
 by_cases hl:30<l.length
 ·obtain⟨a,cap,rfl,_⟩:=h.shape
  have HD:=hide (show decide (zat l)=false by simp only [decide_eq_false_iff_not];rintro⟨_,_⟩;omega)
  have d2:(30:Int)<(l.length:Int):=by omega
  go_enter Tryz.func102,Tryz.ntmps102
  go_wp2
  go_ret
  exact⟨by rw [zaa HD];rfl,rfl⟩
 have d2:¬ (30:Int)<(l.length:Int):=by omega
 by_cases h0:l=[]
 ·obtain⟨a,cap,rfl,_⟩:=h.shape
  subst h0
  have HD:=hide (show decide (zat [])=true by simp only [decide_eq_true_eq];exact⟨by simp,fun i hi=>by simp at hi⟩)
  go_enter Tryz.func102,Tryz.ntmps102
  go_wp2
  refine wp_loop_rounds 1 ?_
  rw [rounds_succ]
  go_wp2
  go_ret
  exact⟨by rw [zaa HD];rfl,rfl⟩
 obtain⟨hok,hm,⟨_,e⟩ | ⟨_,_,_,_,e⟩ | ⟨b,off,cap,rfl,_,_,_,_,hc⟩⟩:=h
 ·exact absurd e h0
 ·exact absurd e h0
 go_enter Tryz.func102,Tryz.ntmps102
 go_wp2
 go_loop [3] (fun i=>∃k:Nat,k≤l.length∧i=.int .i64 k∧zcD zcl l k) (fun i=>l.length-(intOf i).toNat)
 case atStart=>exact⟨0,Nat.zero_le _,rfl,fun i hi=>by omega⟩
 case round=>
  obtain⟨k,hk,rfl,ha⟩:=hrel
  have HA:=hide ha
  clear ha
  by_cases hlt:k<l.length
  ·obtain⟨x,hx⟩:∃x,x=l.getD k 0:=⟨_,rfl⟩
   have hcx:w.cell? ⟨b,off+k,none⟩=some (.int .u8 x):=by rw [hx];exact hc _ hlt
   have HX:=hide hx
   have hlt':(k:Int)<(l.length:Int):=by omega
   clear hc hx
   by_cases hn:zcl k x
   ·have HN:=hide hn
    have q1:decide (x<32)=false:=by unfold zcl at hn;simp;omega
    have q2:decide (126<x)=false:=by unfold zcl at hn;simp;omega
    clear hn
    go_wp2
    go_round
    case rel=>exact⟨k+1,by omega,by go_num,zcg (zaa HA) (by rw [←zaa HX];exact zaa HN)⟩
    case measure=>simp [intOf];omega
   ·have HF:=hide (show decide (zat l)=false by
     simp only [decide_eq_false_iff_not]
     rintro⟨_,h⟩
     exact hn (by rw [zaa HX];exact h k hlt))
    have hcase:decide (x<32)=true∨(decide (x<32)=false∧decide (126<x)=true):=by
     unfold zcl at hn;simp;omega
    clear hn
    rcases hcase with q1 | ⟨q1,q2⟩
    all_goals
     go_wp2
     go_ret
     exact⟨by rw [zaa HF];rfl,rfl⟩
  ·have e:k=l.length:=by omega
   subst e
   have HF:=hide (show decide (zat l)=true by simp only [decide_eq_true_eq];exact⟨by omega,zaa HA⟩)
   clear hc
   go_wp2
   go_ret
   exact⟨by rw [zaa HF];rfl,rfl⟩
theorem zbE (w:World) (v:Value) (l:List Int) (h:Byt w v l) (hn:zai l):Calls Tryz.prog 103 #[v] w fun e w'=>e=.returned (.bool true)∧w'=w:=by
 refine (zjd w v l h).mono ?_
 rintro e w' ⟨rfl,h⟩
 exact⟨by simp [hn],h⟩
theorem zhb (w:World) (v:Value) (l:List Int) (h:Byt w v l) (hn:¬ zai l):Calls Tryz.prog 103 #[v] w fun e w'=>e=.returned (.bool false)∧w'=w:=by
 refine (zjd w v l h).mono ?_
 rintro e w' ⟨rfl,h⟩
 exact⟨by simp [hn],h⟩
theorem zdy (w:World) (v:Value) (l:List Int) (h:Byt w v l) (hn:zat l):Calls Tryz.prog 102 #[v] w fun e w'=>e=.returned (.bool true)∧w'=w:=by
 refine (zje w v l h).mono ?_
 rintro e w' ⟨rfl,h⟩
 exact⟨by simp [hn],h⟩
theorem zhg (w:World) (v:Value) (l:List Int) (h:Byt w v l) (hn:¬ zat l):Calls Tryz.prog 102 #[v] w fun e w'=>e=.returned (.bool false)∧w'=w:=by
 refine (zje w v l h).mono ?_
 rintro e w' ⟨rfl,h⟩
 exact⟨by simp [hn],h⟩
def allB (f:Nat→Int→Bool) (l:List Int):Bool:=(List.range l.length).all fun i=>f i (l.getD i 0)
theorem zgZ {f:Nat→Int→Bool} {p:Nat→Int→Prop} (h:∀i x,f i x=true↔p i x) (l:List Int):allB f l=true↔zcD p l l.length:=by
 unfold allB zcD
 rw [List.all_eq_true]
 constructor
 ·intro k i hi;exact (h _ _).1 (k i (List.mem_range.2 hi))
 ·intro k i hi;exact (h _ _).2 (k i (List.mem_range.1 hi))
def zbA (l:List Int):Bool:=decide (1≤l.length) && decide (l.length≤8) && allB (fun i x=>decide (97≤x∧x≤122) || decide (0<i∧48≤x∧x≤57)) l
theorem zbv (l:List Int):zbA l=true↔zai l:=by
 unfold zbA zai
 rw [Bool.and_eq_true,Bool.and_eq_true,decide_eq_true_eq,decide_eq_true_eq,zgZ (p:=zcI) (fun i x=>by unfold zcI;rw [Bool.or_eq_true,decide_eq_true_eq,decide_eq_true_eq]),and_assoc]
def zbo (l:List Int):Bool:=decide (l.length≤30) && allB (fun _ x=>decide (32≤x∧x≤126)) l
theorem zbB (l:List Int):zbo l=true↔zat l:=by
 unfold zbo zat
 rw [Bool.and_eq_true,decide_eq_true_eq,zgZ (p:=zcl) (fun i x=>by unfold zcl;rw [decide_eq_true_eq])]
theorem zlD (w:World) (v:Value) (l:List Int) (h:Byt w v l):Calls Tryz.prog 103 #[v] w fun e w'=>e=.returned (.bool (zbA l))∧w'=w:=by
 by_cases hn:zai l
 ·rw [(zbv l).2 hn];exact zbE w v l h hn
 ·rw [Bool.eq_false_iff.2 (fun k=>hn ((zbv l).1 k))];exact zhb w v l h hn
theorem zrx (w:World) (v:Value) (l:List Int) (h:Byt w v l):Calls Tryz.prog 102 #[v] w fun e w'=>e=.returned (.bool (zbo l))∧w'=w:=by
 by_cases hn:zat l
 ·rw [(zbB l).2 hn];exact zdy w v l h hn
 ·rw [Bool.eq_false_iff.2 (fun k=>hn ((zbB l).1 k))];exact zhg w v l h hn
def zcB (_:Nat) (x:Int):Prop:=0≤x∧x≤999
def zbI (l:List Int):Prop:=1≤l.length∧l.length≤12∧l.getD (l.length-1) 0≠0∧zcD zcB l l.length
theorem zmQ (w:World) (a:Option Addr) (n cap:Nat) (h:n<1∨12<n) :
  Calls Tryz.prog 107 #[.slice a n cap] w fun e w'=>e=.returned (.bool false)∧w'=w:=by
 by_cases h1:n<1
 ·have h1':(n:Int)<1:=by omega
  go_enter Tryz.func107,Tryz.ntmps107
  go_wp2
  go_ret
  exact⟨rfl,rfl⟩
 ·have h1':decide ((n:Int)<1)=false:=by simp;omega
  have h2:(12:Int)<(n:Int):=by omega
  go_enter Tryz.func107,Tryz.ntmps107
  go_wp2
  go_ret
  exact⟨rfl,rfl⟩
open Classical in
set_option maxHeartbeats 1600000 in
theorem zpp (w:World) (b off cap:Nat) (l:List Int) (hok:okZ l) (h1:1≤l.length) (h8:l.length≤12)
  (hc:∀i,i<l.length→w.cell? ⟨b,off+i,none⟩=some (.int .i64 (l.getD i 0))) :
  Calls Tryz.prog 107 #[.slice (some ⟨b,off,none⟩) l.length cap] w fun e w'=>e=.returned (.bool (decide (zbI l)))∧w'=w:=by
 have d1:decide ((l.length:Int)<1)=false:=by simp;omega
 have d2:decide ((12:Int)<(l.length:Int))=false:=by simp;omega
 obtain⟨n,hn⟩:∃n,l.length=n+1:=⟨l.length-1,by omega⟩
 obtain⟨z,hz⟩:∃z,z=l.getD n 0:=⟨_,rfl⟩
 have hcz:w.cell? ⟨b,off+n,none⟩=some (.int .i64 z):=by rw [hz];exact hc _ (by omega)
 have HZ:=hide hz
 have HC:=hide hc
 have HN:=hide hn
 have e1:(l.length:Int)-1=(n:Int):=by omega
 have hlt0:n<l.length:=by omega
 clear hc hz
 by_cases hz0:z=0
 ·have HF:=hide (show decide (zbI l)=false by
   simp only [decide_eq_false_iff_not]
   rintro⟨_,_,h,_⟩
   rw [zaa HN,Nat.add_sub_cancel,←zaa HZ]at h
   exact h hz0)
  subst hz0
  clear hn
  go_enter Tryz.func107,Tryz.ntmps107
  go_wp2
  go_ret
  exact⟨by rw [zaa HF];rfl,rfl⟩
 have HZ0:=hide hz0
 have dz:(z == 0)=false:=by simpa using hz0
 clear hn
 go_enter Tryz.func107,Tryz.ntmps107
 go_wp2
 go_loop [3] (fun i=>∃k:Nat,k≤l.length∧i=.int .i64 k∧zcD zcB l k) (fun i=>l.length-(intOf i).toNat)
 case atStart=>exact⟨0,Nat.zero_le _,rfl,fun i hi=>by omega⟩
 case round=>
  obtain⟨k,hk,rfl,ha⟩:=hrel
  have HA:=hide ha
  clear ha hcz
  by_cases hlt:k<l.length
  ·obtain⟨x,hx⟩:∃x,x=l.getD k 0:=⟨_,rfl⟩
   have hcx:w.cell? ⟨b,off+k,none⟩=some (.int .i64 x):=by rw [hx];exact zaa HC _ hlt
   have HX:=hide hx
   have hlt':(k:Int)<(l.length:Int):=by omega
   clear hx
   by_cases hn:zcB k x
   ·have HN:=hide hn
    have q1:decide (x<0)=false:=by unfold zcB at hn;simp;omega
    have q2:decide (999<x)=false:=by unfold zcB at hn;simp;omega
    clear hn
    go_wp2
    go_round
    case rel=>exact⟨k+1,by omega,by go_num,zcg (zaa HA) (by rw [←zaa HX];exact zaa HN)⟩
    case measure=>simp [intOf];omega
   ·have HF:=hide (show decide (zbI l)=false by
     simp only [decide_eq_false_iff_not]
     rintro⟨_,_,_,h⟩
     exact hn (by rw [zaa HX];exact h k hlt))
    have hcase:decide (x<0)=true∨(decide (x<0)=false∧decide (999<x)=true):=by
     unfold zcB at hn;simp;omega
    clear hn
    rcases hcase with q1 | ⟨q1,q2⟩
    all_goals
     go_wp2
     go_ret
     exact⟨by rw [zaa HF];rfl,rfl⟩
  ·have e:k=l.length:=by omega
   subst e
   have HF:=hide (show decide (zbI l)=true by
    simp only [decide_eq_true_eq]
    exact⟨h1,h8,by rw [zaa HN,Nat.add_sub_cancel,←zaa HZ];exact zaa HZ0,zaa HA⟩)
   go_wp2
   go_ret
   exact⟨by rw [zaa HF];rfl,rfl⟩
open Classical in
theorem zkS (w:World) (v:Value) (l:List Int) (h:Ints w v l) :
  Calls Tryz.prog 107 #[v] w fun e w'=>e=.returned (.bool (decide (zbI l)))∧w'=w:=by
 by_cases hl:l.length<1∨12<l.length
 ·obtain⟨a,cap,rfl,_⟩:=h.shape
  have hd:decide (zbI l)=false:=by simp only [decide_eq_false_iff_not];rintro⟨_,_,_⟩;omega
  rw [hd]
  exact zmQ w a _ cap hl
 ·obtain⟨hok,hm,⟨rfl,rfl⟩ | ⟨x,cap,rfl,hc,rfl⟩ | ⟨b,off,cap,rfl,_,_,_,_,h5⟩⟩:=h
  ·simp at hl
  ·simp at hl
  ·exact zpp w b off cap l hok (by omega) (by omega) h5
theorem zqg (w:World) (v:Value) (l:List Int) (h:Ints w v l) (hn:zbI l):Calls Tryz.prog 107 #[v] w fun e w'=>e=.returned (.bool true)∧w'=w:=by
 refine (zkS w v l h).mono ?_
 rintro e w' ⟨rfl,h⟩
 exact⟨by simp [hn],h⟩
theorem zrg (w:World) (v:Value) (l:List Int) (h:Ints w v l) (hn:¬ zbI l):Calls Tryz.prog 107 #[v] w fun e w'=>e=.returned (.bool false)∧w'=w:=by
 refine (zkS w v l h).mono ?_
 rintro e w' ⟨rfl,h⟩
 exact⟨by simp [hn],h⟩
def keyB (l:List Int):Bool:=decide (1≤l.length) && (decide (l.length≤12) && (decide (l.getD (l.length-1) 0≠0) && allB (fun _ x=>decide (0≤x∧x≤999)) l))
theorem zei (l:List Int):keyB l=true↔zbI l:=by
 unfold keyB zbI
 rw [Bool.and_eq_true,Bool.and_eq_true,Bool.and_eq_true,decide_eq_true_eq,decide_eq_true_eq,decide_eq_true_eq,zgZ (p:=zcB) (fun i x=>by unfold zcB;rw [decide_eq_true_eq])]
theorem znz (w:World) (v:Value) (l:List Int) (h:Ints w v l):Calls Tryz.prog 107 #[v] w fun e w'=>e=.returned (.bool (keyB l))∧w'=w:=by
 by_cases hn:zbI l
 ·rw [(zei l).2 hn];exact zqg w v l h hn
 ·rw [Bool.eq_false_iff.2 (fun k=>hn ((zei l).1 k))];exact zrg w v l h hn
def idB (n r:Int):Bool:=decide (0≤n) && (decide (n≤1000000) && (decide (0≤r) && (decide (r<8) || (decide (n=0) && decide (r<122)))))
def zbz (n r:Int):Bool:=decide (n=0) && decide (r=0)
theorem znJ (n r:Int) :
  (idB n r=false∧decide (0≤n)=false)∨
  (idB n r=false∧decide (0≤n)=true∧decide (n≤1000000)=false)∨
  (idB n r=false∧decide (0≤n)=true∧decide (n≤1000000)=true∧decide (0≤r)=false)∨
  (idB n r=true∧decide (0≤n)=true∧decide (n≤1000000)=true∧decide (0≤r)=true∧decide (r<8)=true)∨
  (idB n r=false∧decide (0≤n)=true∧decide (n≤1000000)=true∧decide (0≤r)=true∧decide (r<8)=false∧(n == 0)=false)∨
  (idB n r=true∧decide (0≤n)=true∧decide (n≤1000000)=true∧decide (0≤r)=true∧decide (r<8)=false∧(n == 0)=true∧decide (r<122)=true)∨
  (idB n r=false∧decide (0≤n)=true∧decide (n≤1000000)=true∧decide (0≤r)=true∧decide (r<8)=false∧(n == 0)=true∧decide (r<122)=false):=by
 unfold idB
 cases a:decide (0≤n)<;>cases b:decide (n≤1000000)<;>cases c:decide (0≤r)<;>cases d:decide (r<8)<;>by_cases e:n=0<;>cases f:decide (r<122)<;>simp [e]
set_option maxHeartbeats 1600000 in
theorem zgj (w:World) (n r:Int) :
  Calls Tryz.prog 106 #[.agg #[.int .i64 n,.int .i64 r]] w fun e w'=>e=.returned (.bool (idB n r))∧w'=w.alloc (.cells #[.int .i64 n,.int .i64 r] 81):=by
 rcases znJ n r with ⟨h,q1⟩ | ⟨h,q1,q2⟩ | ⟨h,q1,q2,q3⟩ | ⟨h,q1,q2,q3,q4⟩ | ⟨h,q1,q2,q3,q4,q5⟩ | ⟨h,q1,q2,q3,q4,q5,q6⟩ | ⟨h,q1,q2,q3,q4,q5,q6⟩
 all_goals
  have HE:=hide h
  clear h
  go_enter Tryz.func106,Tryz.ntmps106
  go_wp2
  go_ret
  exact⟨by rw [zaa HE];rfl,rfl⟩
set_option maxHeartbeats 1600000 in
theorem ziE (w:World) (n r:Int) :
  Calls Tryz.prog 105 #[.agg #[.int .i64 n,.int .i64 r]] w fun e w'=>e=.returned (.bool (zbz n r))∧w'=w.alloc (.cells #[.int .i64 n,.int .i64 r] 81):=by
 go_enter Tryz.func105,Tryz.ntmps105
 go_wp2
 ·have e0:n=0:=by assumption
  have e1:r=0:=by assumption
  go_ret
  exact⟨by unfold zbz;simp [e0,e1],by rw [e0,e1]⟩
 ·have e0:n=0:=by assumption
  have e1:¬ r=0:=by assumption
  go_ret
  exact⟨by unfold zbz;simp [e0,e1],by rw [e0]⟩
 ·have e0:¬ n=0:=by assumption
  go_ret
  exact⟨by unfold zbz;simp [e0],rfl⟩
structure OpV where
 kind:Int
 atN:Int
 atR:Int
 nodeN:Int
 nodeR:Int
 parN:Int
 parR:Int
 key:List Int
 elem:Int
 name:List Int
 text:List Int
 gone:Bool
def zaU (o:OpV) (k n t:Value):Value:=.agg #[.int .i64 o.kind,.int .i64 o.atN,.int .i64 o.atR,.int .i64 o.nodeN,.int .i64 o.nodeR,.int .i64 o.parN,.int .i64 o.parR,k,.int .i64 o.elem,n,t,.bool o.gone]
def RdOp (w:World) (v:Value) (o:OpV):Prop:=∃k n t,v=zaU o k n t∧Ints w k o.key∧Byt w n o.name∧Byt w t o.text
def zgb (o:OpV):Bool:=if !zbz o.nodeN o.nodeR || (!idB o.parN o.parR || (!keyB o.key || o.gone)) then false else if o.elem == 1 then (o.name.length:Int) == 0 else o.elem == 0 && (zbA o.name && (o.text.length:Int) == 0)
def zdY (o:OpV):Bool:=idB o.nodeN o.nodeR && (idB o.parN o.parR && (keyB o.key && (o.elem == 0 && ((o.name.length:Int) == 0 && ((o.text.length:Int) == 0 && !o.gone)))))
def zeb (o:OpV):Bool:=if !idB o.nodeN o.nodeR || (!zbz o.parN o.parR || (decide (0<(o.key.length:Int)) || !(o.elem == 0))) then false else if o.kind == 2 then (o.name.length:Int) == 0 && !o.gone else zbA o.name && (!o.gone || (o.text.length:Int) == 0)
def zbK (o:OpV):Bool:=decide (o.kind<0) || (decide (3<o.kind) || (decide (o.atN<1) || (decide (1000000<o.atN) || (decide (o.atR<0) || (decide (8≤o.atR) || !zbo o.text)))))
def opB (o:OpV):Bool:=if zbK o then false else if o.kind == 0 then zgb o else if o.kind == 1 then zdY o else zeb o
set_option maxRecDepth 8000 in
set_option maxHeartbeats 3200000 in
theorem zqJ (w:World) (v:Value) (o:OpV) (h:RdOp w v o) :
  Calls Tryz.prog 74 #[v] w fun e w'=>e=.returned (.bool (opB o))∧Below w.heap.size w w':=by
 obtain⟨k,n,t,rfl,hk,hn,ht⟩:=h
 obtain⟨ak,ck,rfl,_,_⟩:=hk.shape
 obtain⟨an,cn,rfl,_,_⟩:=hn.shape
 obtain⟨at',ct,rfl,_,_⟩:=ht.shape
 generalize hnK:o.key.length=nK at *
 have hA:=(Below.refl w.heap.size w).alloc (Nat.le_refl _) (.cells #[.int .i64 o.kind,.int .i64 o.atN,.int .i64 o.atR,.int .i64 o.nodeN,.int .i64 o.nodeR,.int .i64 o.parN,.int .i64 o.parR,.slice ak nK ck,.int .i64 o.elem,.slice an o.name.length cn,.slice at' o.text.length ct,.bool o.gone] 83)
 have HA:=hide hA
 have HT:=hide (ht.keep hA)
 have HN:=hide (hn.keep hA)
 have HK:=hide (hk.keep hA)
 clear hA ht hn hk
 unfold zaU
 have hcase:(decide (o.kind<0)=true∧zbK o=true)∨(decide (o.kind<0)=false∧((decide (3<o.kind)=true∧zbK o=true)∨(decide (3<o.kind)=false∧((decide (o.atN<1)=true∧zbK o=true)∨(decide (o.atN<1)=false∧((decide (1000000<o.atN)=true∧zbK o=true)∨(decide (1000000<o.atN)=false∧((decide (o.atR<0)=true∧zbK o=true)∨(decide (o.atR<0)=false∧((decide (8≤o.atR)=true∧zbK o=true)∨(decide (8≤o.atR)=false∧zbK o = !zbo o.text))))))))))):=by
  unfold zbK
  cases decide (o.kind<0)<;>cases decide (3<o.kind)<;>cases decide (o.atN<1)<;>cases decide (1000000<o.atN)<;>cases decide (o.atR<0)<;>cases decide (8≤o.atR)<;>simp
 rcases hcase with ⟨q1,hd⟩ | ⟨q1,⟨q2,hd⟩ | ⟨q2,⟨q3,hd⟩ | ⟨q3,⟨q4,hd⟩ | ⟨q4,⟨q5,hd⟩ | ⟨q5,⟨q6,hd⟩ | ⟨q6,hd⟩⟩⟩⟩⟩⟩
 iterate 6
  ·have HE:=hide (show opB o=false by unfold opB;rw [if_pos hd])
   clear hd
   go_enter Tryz.func74,Tryz.ntmps74
   go_wp2_with fail
   go_ret
   exact⟨by rw [zaa HE];rfl,zaa HA⟩
 go_enter Tryz.func74,Tryz.ntmps74
 go_wp2_with fail
 refine (zrx _ _ o.text (zaa HT)).mono ?_
 rintro e w1 ⟨rfl,rfl⟩
 cases hx:zbo o.text
 ·have HE:=hide (show opB o=false by unfold opB;rw [if_pos (by rw [hd,hx];rfl)])
  clear hd hx
  go_wp2_with fail
  go_ret
  exact⟨by rw [zaa HE];rfl,zaa HA⟩
 have HD:=hide (show zbK o=false by rw [hd,hx];rfl)
 clear hd hx
 cases k0:(o.kind == 0)
 ·cases k1:(o.kind == 1)
  ·have hB:opB o=zeb o:=by unfold opB;rw [zaa HD,k0,k1];rfl
   go_wp2_with fail
   refine (zgj _ o.nodeN o.nodeR).mono ?_
   rintro e w1 ⟨rfl,rfl⟩
   have HA1:=hide ((zaa HA).alloc (zaa HA).size (.cells #[.int .i64 o.nodeN,.int .i64 o.nodeR] 81))
   replace hB:=hB.trans (show zeb o=_ by unfold zeb;rfl)
   cases x1:idB o.nodeN o.nodeR
   ·have HE:=hide (show opB o=false by rw [hB,x1];rfl)
    clear hB x1
    go_wp2_with fail
    go_ret
    exact⟨by rw [zaa HE];rfl,zaa HA1⟩
   rw [x1]at hB
   clear x1
   go_wp2_with fail
   refine (ziE _ o.parN o.parR).mono ?_
   rintro e w1 ⟨rfl,rfl⟩
   have HA2:=hide ((zaa HA1).alloc (zaa HA1).size (.cells #[.int .i64 o.parN,.int .i64 o.parR] 81))
   cases x1:zbz o.parN o.parR
   ·have HE:=hide (show opB o=false by rw [hB,x1];rfl)
    clear hB x1
    go_wp2_with fail
    go_ret
    exact⟨by rw [zaa HE];rfl,zaa HA2⟩
   rw [x1]at hB
   clear x1
   by_cases x1:0<nK
   ·have e1:decide (0<(o.key.length:Int))=true:=by rw [hnK];simp;omega
    have e2:decide (0<nK)=true:=by simp;omega
    have HE:=hide (show opB o=false by rw [hB,e1];rfl)
    clear hB e1
    go_wp2_with fail
    go_ret
    exact⟨by rw [zaa HE];rfl,zaa HA2⟩
   have e1:decide (0<(o.key.length:Int))=false:=by rw [hnK];simp;omega
   rw [e1]at hB
   have z1:nK=0:=by omega
   clear e1 x1
   subst z1
   clear hnK
   cases x2:(o.elem == 0)
   ·have HE:=hide (show opB o=false by rw [hB,x2];rfl)
    clear hB
    go_wp2_with fail
    go_ret
    exact⟨by rw [zaa HE];rfl,zaa HA2⟩
   rw [x2]at hB
   cases x3:(o.kind == 2)
   ·rw [x3]at hB
    replace hB:opB o=(zbA o.name && (!o.gone || (o.text.length:Int) == 0)):=hB
    go_wp2_with fail
    have HN2:=hide ((((zaa HN).keep ((Below.refl _ _).alloc (Nat.le_refl _) (.cells #[.int .i64 o.nodeN,.int .i64 o.nodeR] 81)))).keep ((Below.refl _ _).alloc (Nat.le_refl _) (.cells #[.int .i64 o.parN,.int .i64 o.parR] 81)))
    refine (zlD _ _ o.name (zaa HN2)).mono ?_
    rintro e w1 ⟨rfl,rfl⟩
    cases x4:zbA o.name
    ·have HE:=hide (show opB o=false by rw [hB,x4];rfl)
     clear hB x4
     go_wp2_with fail
     go_ret
     exact⟨by rw [zaa HE];rfl,zaa HA2⟩
    rw [x4,Bool.true_and]at hB
    clear x4
    rcases Bool.eq_false_or_eq_true o.gone with hg | hg
    ·rw [hg]at hB HA2
     replace hB:opB o=((o.text.length:Int) == 0):=hB
     have HE:=hide hB
     clear hB
     go_wp2_with fail
     go_ret
     exact⟨by rw [zaa HE];rfl,zaa HA2⟩
    ·rw [hg]at hB HA2
     replace hB:opB o=true:=hB
     have HE:=hide hB
     clear hB
     go_wp2_with fail
     go_ret
     exact⟨by rw [zaa HE];rfl,zaa HA2⟩
   ·rw [x3]at hB
    replace hB:opB o=((o.name.length:Int) == 0 && !o.gone):=hB
    cases x4:((o.name.length:Int) == 0)
    ·have HE:=hide (show opB o=false by rw [hB,x4];rfl)
     clear hB
     go_wp2_with fail
     go_ret
     exact⟨by rw [zaa HE];rfl,zaa HA2⟩
    rw [x4,Bool.true_and]at hB
    have HE:=hide hB
    clear hB
    go_wp2_with fail
    go_ret
    exact⟨by rw [zaa HE];rfl,zaa HA2⟩
  ·have hB:opB o=zdY o:=by unfold opB;rw [zaa HD,k0,k1];rfl
   go_wp2_with fail
   refine (zgj _ o.nodeN o.nodeR).mono ?_
   rintro e w1 ⟨rfl,rfl⟩
   have HA1:=hide ((zaa HA).alloc (zaa HA).size (.cells #[.int .i64 o.nodeN,.int .i64 o.nodeR] 81))
   cases x1:idB o.nodeN o.nodeR
   ·have HE:=hide (show opB o=false by rw [hB];unfold zdY;rw [x1];rfl)
    clear hB x1
    go_wp2_with fail
    go_ret
    exact⟨by rw [zaa HE];rfl,zaa HA1⟩
   replace hB:=hB.trans (show zdY o=_ by unfold zdY;rw [x1,Bool.true_and])
   clear x1
   go_wp2_with fail
   refine (zgj _ o.parN o.parR).mono ?_
   rintro e w1 ⟨rfl,rfl⟩
   have HA2:=hide ((zaa HA1).alloc (zaa HA1).size (.cells #[.int .i64 o.parN,.int .i64 o.parR] 81))
   cases x1:idB o.parN o.parR
   ·have HE:=hide (show opB o=false by rw [hB,x1];rfl)
    clear hB x1
    go_wp2_with fail
    go_ret
    exact⟨by rw [zaa HE];rfl,zaa HA2⟩
   rw [x1,Bool.true_and]at hB
   clear x1
   go_wp2_with fail
   have HK2:=hide ((((zaa HK).keep ((Below.refl _ _).alloc (Nat.le_refl _) (.cells #[.int .i64 o.nodeN,.int .i64 o.nodeR] 81)))).keep ((Below.refl _ _).alloc (Nat.le_refl _) (.cells #[.int .i64 o.parN,.int .i64 o.parR] 81)))
   refine (znz _ _ o.key (zaa HK2)).mono ?_
   rintro e w1 ⟨rfl,rfl⟩
   cases x1:keyB o.key
   ·have HE:=hide (show opB o=false by rw [hB,x1];rfl)
    clear hB x1
    go_wp2_with fail
    go_ret
    exact⟨by rw [zaa HE];rfl,zaa HA2⟩
   rw [x1,Bool.true_and]at hB
   clear x1
   cases x1:(o.elem == 0)
   ·have HE:=hide (show opB o=false by rw [hB,x1];rfl)
    clear hB
    go_wp2_with fail
    go_ret
    exact⟨by rw [zaa HE];rfl,zaa HA2⟩
   rw [x1,Bool.true_and]at hB
   cases x2:((o.name.length:Int) == 0)
   ·have HE:=hide (show opB o=false by rw [hB,x2];rfl)
    clear hB
    go_wp2_with fail
    go_ret
    exact⟨by rw [zaa HE];rfl,zaa HA2⟩
   rw [x2,Bool.true_and]at hB
   cases x3:((o.text.length:Int) == 0)
   ·have HE:=hide (show opB o=false by rw [hB,x3];rfl)
    clear hB
    go_wp2_with fail
    go_ret
    exact⟨by rw [zaa HE];rfl,zaa HA2⟩
   rw [x3,Bool.true_and]at hB
   have HE:=hide hB
   clear hB
   go_wp2_with fail
   go_ret
   exact⟨by rw [zaa HE];rfl,zaa HA2⟩
 ·have hB:opB o=zgb o:=by unfold opB;rw [zaa HD,k0];rfl
  replace hB:=hB.trans (show zgb o=_ by unfold zgb;rfl)
  go_wp2_with fail
  refine (ziE _ o.nodeN o.nodeR).mono ?_
  rintro e w1 ⟨rfl,rfl⟩
  have HA1:=hide ((zaa HA).alloc (zaa HA).size (.cells #[.int .i64 o.nodeN,.int .i64 o.nodeR] 81))
  cases x1:zbz o.nodeN o.nodeR
  ·have HE:=hide (show opB o=false by rw [hB,x1];rfl)
   clear hB x1
   go_wp2_with fail
   go_ret
   exact⟨by rw [zaa HE];rfl,zaa HA1⟩
  rw [x1]at hB
  clear x1
  go_wp2_with fail
  refine (zgj _ o.parN o.parR).mono ?_
  rintro e w1 ⟨rfl,rfl⟩
  have HA2:=hide ((zaa HA1).alloc (zaa HA1).size (.cells #[.int .i64 o.parN,.int .i64 o.parR] 81))
  cases x1:idB o.parN o.parR
  ·have HE:=hide (show opB o=false by rw [hB,x1];rfl)
   clear hB x1
   go_wp2_with fail
   go_ret
   exact⟨by rw [zaa HE];rfl,zaa HA2⟩
  rw [x1]at hB
  clear x1
  go_wp2_with fail
  have HK2:=hide ((((zaa HK).keep ((Below.refl _ _).alloc (Nat.le_refl _) (.cells #[.int .i64 o.nodeN,.int .i64 o.nodeR] 81)))).keep ((Below.refl _ _).alloc (Nat.le_refl _) (.cells #[.int .i64 o.parN,.int .i64 o.parR] 81)))
  refine (znz _ _ o.key (zaa HK2)).mono ?_
  rintro e w1 ⟨rfl,rfl⟩
  cases x1:keyB o.key
  ·have HE:=hide (show opB o=false by rw [hB,x1];rfl)
   clear hB x1
   go_wp2_with fail
   go_ret
   exact⟨by rw [zaa HE];rfl,zaa HA2⟩
  rw [x1]at hB
  clear x1
  rcases Bool.eq_false_or_eq_true o.gone with hg | hg
  ·have HE:=hide (show opB o=false by rw [hB,hg];rfl)
   clear hB
   rw [hg]at HA2
   go_wp2_with fail
   go_ret
   exact⟨by rw [zaa HE];rfl,zaa HA2⟩
  rw [hg]at hB HA2 HN
  rcases Bool.eq_false_or_eq_true (o.elem == 1)with x1 | x1
  ·rw [x1]at hB
   replace hB:opB o=((o.name.length:Int) == 0):=hB
   have HE:=hide hB
   clear hB
   go_wp2_with fail
   go_ret
   exact⟨by rw [zaa HE];rfl,zaa HA2⟩
  rw [x1]at hB
  replace hB:opB o=(o.elem == 0 && (zbA o.name && (o.text.length:Int) == 0)):=hB
  cases x2:(o.elem == 0)
  ·have HE:=hide (show opB o=false by rw [hB,x2];rfl)
   clear hB
   go_wp2_with fail
   go_ret
   exact⟨by rw [zaa HE];rfl,zaa HA2⟩
  rw [x2,Bool.true_and]at hB
  go_wp2_with fail
  have HN2:=hide ((((zaa HN).keep ((Below.refl _ _).alloc (Nat.le_refl _) (.cells #[.int .i64 o.nodeN,.int .i64 o.nodeR] 81)))).keep ((Below.refl _ _).alloc (Nat.le_refl _) (.cells #[.int .i64 o.parN,.int .i64 o.parR] 81)))
  refine (zlD _ _ o.name (zaa HN2)).mono ?_
  rintro e w1 ⟨rfl,rfl⟩
  cases x4:zbA o.name
  ·have HE:=hide (show opB o=false by rw [hB,x4];rfl)
   clear hB x4
   go_wp2_with fail
   go_ret
   exact⟨by rw [zaa HE];rfl,zaa HA2⟩
  rw [x4,Bool.true_and]at hB
  clear x4
  have HE:=hide hB
  clear hB
  go_wp2_with fail
  go_ret
  exact⟨by rw [zaa HE];rfl,zaa HA2⟩
theorem Tryz.info5:(Tryz.prog.info? 5).map (fun i=>(i.zero,i.size,i.bytes))=some (some (.int .u8 0),1,1):=by kernel_rfl
def half (l:List Int) (k:Nat):List Int:=l.take k++List.replicate (l.length-k) 0
theorem zks (l:List Int) (k:Nat) (h:k≤l.length):(half l k).length=l.length:=by simp [half];omega
theorem zfU (l:List Int):vals (half l 0)=(madeCells #[Value.int .u8 0] l.length).toList:=by
 rw [toList_madeCells_one]
 simp [half,vals]
theorem zpY (l:List Int):half l l.length=l:=by simp [half]
theorem zlP (l:List Int) (k i:Nat) (hk:k≤l.length):(half l k)[i]? = if i<k then l[i]? else if i<l.length then some 0 else none:=by
 have hm:min k l.length=k:=by omega
 unfold half
 rw [List.getElem?_append,List.length_take,hm]
 by_cases h:i<k
 ·simp [h]
 ·rw [if_neg h,if_neg h,List.getElem?_replicate]
  by_cases h2:i<l.length
  ·rw [if_pos h2,if_pos (by omega)]
  ·rw [if_neg h2,if_neg (by omega)]
theorem znL (l:List Int) (k:Nat) (h:k<l.length):(vals (half l k)).set k (.int .u8 (l.getD k 0))=vals (half l (k+1)):=by
 apply List.ext_getElem?
 intro i
 unfold vals
 rw [List.getElem?_set,List.getElem?_map,List.getElem?_map,zlP l k i (by omega),zlP l (k+1) i (by omega),List.length_map,zks l k (by omega)]
 by_cases hk:k=i
 ·subst hk;rw [if_pos rfl,if_pos h,if_pos (by omega)];simp [h]
 ·rw [if_neg hk]
  by_cases h2:i<k
  ·rw [if_pos h2,if_pos (by omega)]
  ·rw [if_neg h2,if_neg (show ¬ i<k+1 by omega)]
set_option maxHeartbeats 1600000 in
set_option maxRecDepth 1000000 in
theorem zea (w:World) (v:Value) (l:List Int) (h:Byt w v l) (hs:l.length≤2097152) :
  Calls Tryz.prog 42 #[v] w fun e w'=>∃v',e=.returned v'∧Own w' w.heap.size v' l∧v'≠.slice none 0 0∧Below w.heap.size w w':=by
 obtain⟨i0,hi,hz0,hz1,hz2⟩:=info_parts Tryz.info5
 obtain⟨hok,hm,⟨rfl,rfl⟩ | ⟨x,cap,rfl,hc,rfl⟩ | ⟨b,off,cap,rfl,h1,h2,h3,h4,h5⟩⟩:=h
 ·go_enter Tryz.func42,Tryz.ntmps42
  go_wp2_with (at_make;refine wpList_make_full _ rfl _ _ 22 rfl w.heap.size 5 i0 (.int .u8 0) 1 Tryz.underlying22 hi hz0 hz1 .i64 .i64 _ _ 0 rfl rfl rfl rfl ?c1 ?c2 ?c3 ?_)
  case c1=>omega
  case c2=>exact hm
  case c3=>exact Nat.le_refl _
  intro w1 hown hgrow
  have hB1:=Below.ofGrown hgrow
  have hown1:w1.ownsRow w.heap.size 5 1 (.slice (some ⟨w.heap.size,0,none⟩) 0 0) 0 (vals []):=by have e:=zfU [];rw [show half [] 0=[] from rfl]at e;rw [e];exact hown
  clear hown hgrow
  go_wp2
  refine wp_loop_rounds 1 ?_
  rw [rounds_succ]
  go_wp2
  go_ret
  exact⟨_,rfl,⟨zbJ,hown1⟩,by simp,hB1⟩
 ·go_enter Tryz.func42,Tryz.ntmps42
  go_wp2_with (at_make;refine wpList_make_full _ rfl _ _ 22 rfl w.heap.size 5 i0 (.int .u8 0) 1 Tryz.underlying22 hi hz0 hz1 .i64 .i64 _ _ 0 rfl rfl rfl rfl ?c1 ?c2 ?c3 ?_)
  case c1=>omega
  case c2=>exact hm
  case c3=>exact Nat.le_refl _
  intro w1 hown hgrow
  have hB1:=Below.ofGrown hgrow
  have hown1:w1.ownsRow w.heap.size 5 1 (.slice (some ⟨w.heap.size,0,none⟩) 0 0) 0 (vals []):=by have e:=zfU [];rw [show half [] 0=[] from rfl]at e;rw [e];exact hown
  clear hown hgrow
  go_wp2
  refine wp_loop_rounds 1 ?_
  rw [rounds_succ]
  go_wp2
  go_ret
  exact⟨_,rfl,⟨zbJ,hown1⟩,by simp,hB1⟩
 ·go_enter Tryz.func42,Tryz.ntmps42
  go_wp2_with (at_make;refine wpList_make_full _ rfl _ _ 22 rfl w.heap.size 5 i0 (.int .u8 0) 1 Tryz.underlying22 hi hz0 hz1 .i64 .i64 _ _ l.length rfl rfl rfl rfl ?c1 ?c2 ?c3 ?_)
  case c1=>rw [hz2];omega
  case c2=>exact hm
  case c3=>exact Nat.le_refl _
  intro w1 hown hgrow
  have hB1:=Below.ofGrown hgrow
  have hown1:w1.ownsRow w.heap.size 5 1 (.slice (some ⟨w.heap.size,0,none⟩) l.length l.length) l.length (vals (half l 0)):=by rw [zfU];exact hown
  clear hown hgrow
  go_wp2
  go_loopw [4] (fun i wr=>∃k:Nat,k≤l.length∧i=.int .i64 k∧wr.ownsRow w.heap.size 5 1 (.slice (some ⟨w.heap.size,0,none⟩) l.length l.length) l.length (vals (half l k))∧Below w.heap.size w wr) (fun i _=>l.length-(intOf i).toNat)
  case atStart=>exact⟨0,Nat.zero_le _,rfl,hown1,hB1⟩
  case round=>
   obtain⟨k,hk,rfl,hw,hB⟩:=hrel
   clear hown1 hB1
   have hcx:k<l.length→wr.cell? ⟨b,off+k,none⟩=some (.int .u8 (l.getD k 0)):=fun hlt=>(hB.cell (p:=⟨b,off+k,none⟩) h4).trans (h5 k hlt)
   have hcy:k<l.length→wr.cell? ⟨w.heap.size,k,none⟩=some (.int .u8 ((half l k).getD k 0)):=fun hlt=>by
    rw [hw.cellAt k (by omega),zdd (by rw [zks l k hk];exact hlt)]
   have hfr:=hw.frozenAt k
   have hst:=hw.stored k (.int .u8 (l.getD k 0))
   have R:k<l.length→(wr.setCell ⟨w.heap.size,k,none⟩ (.int .u8 (l.getD k 0))).ownsRow w.heap.size 5 1 (.slice (some ⟨w.heap.size,0,none⟩) l.length l.length) l.length (vals (half l (k+1)))∧Below w.heap.size w (wr.setCell ⟨w.heap.size,k,none⟩ (.int .u8 (l.getD k 0))):=fun hlt=>by
    rw [←znL l k hlt]
    exact⟨hst.1,hB.setCell (p:=⟨w.heap.size,k,none⟩) (Nat.le_refl _) _⟩
   have HR:=hide R
   clear R hst
   go_wp2
   ·have hlt:k<l.length:=by assumption
    have R:=zaa HR hlt
    rw [zcF hlt]at R
    go_roundw
    case rel=>exact⟨k+1,by omega,by go_num,R.1,R.2⟩
    case measure=>simp [intOf];omega
   ·have e:k=l.length:=by omega
    subst e
    go_ret
    rw [zpY]at hw
    exact⟨_,rfl,⟨hok,hw⟩,by simp,hB⟩
def str (l:List Int):ByteArray:=l.foldl (fun r n=>r.push (UInt8.ofNat n.toNat)) ByteArray.empty
theorem zrU (l:List Int) (s:ByteArray):(l.foldl (fun r n=>r.push (UInt8.ofNat n.toNat)) s).data.toList=s.data.toList++l.map (fun n=>UInt8.ofNat n.toNat):=by
 induction l generalizing s with
 | nil=>simp
 | cons x l ih=>rw [List.foldl_cons,ih];simp [ByteArray.push]
theorem zci (l:List Int):(str l).data.toList=l.map (fun n=>UInt8.ofNat n.toNat):=by
 unfold str;rw [zrU];rfl
theorem zbC (s:ByteArray):s.toList=s.data.toList:=Go.ByteArray.toList_eq s
theorem zmf {a b:List Int} (ha:okB a) (hb:okB b) (h:(str a).toList=(str b).toList):a=b:=by
 rw [zbC,zbC,zci,zci]at h
 have hg:∀l:List Int,okB l→(l.map (fun n=>UInt8.ofNat n.toNat)).map (fun u=>(u.toNat:Int))=l:=by
  intro l hl
  induction l with
  | nil=>rfl
  | cons x l ih=>
   have hx:=hl x (by simp)
   have e:((UInt8.ofNat x.toNat).toNat:Int)=x:=by
    rw [UInt8.toNat_ofNat'];omega
   rw [List.map_cons,List.map_cons,ih (fun y hy=>hl y (by simp [hy])),e]
 rw [←hg a ha,←hg b hb,h]
theorem zgh {a b:List Int} (ha:okB a) (hb:okB b):((str a).toList == (str b).toList)=decide (a=b):=by
 by_cases h:a=b
 ·subst h;simp
 ·have:¬ (str a).toList=(str b).toList:=fun e=>h (zmf ha hb e)
  rw [decide_eq_false h,beq_eq_false_iff_ne];exact this
theorem zbG (w:World) (u:Value) (a:List Int) (hu:Byt w u a):(convert 22 9 u).run Tryz.prog w=.ok (.string (str a)) w:=by
 have hfull:∀(x:Addr) (c:Nat),(∀j,j<a.length→w.cell? (x.add j)=some (.int .u8 (a.getD j 0)))→(convert 22 9 (.slice (some x) a.length c)).run Tryz.prog w=.ok (.string (str a)) w:=by
  intro x c hc
  rw [run_convert_bytes_string w 22 9 5 (some x) a.length c Tryz.underlying22 Tryz.underlying5 Tryz.underlying9]
  refine run_bytesToString w x a.length c a ?_
  have h:=run_loadCells_list (P:=Tryz.prog) (w:=w) x (vals a) (fun j v hj=>by
   have hlt:j<a.length:=by
    by_cases hlt:j<a.length
    ·exact hlt
    ·rw [List.getElem?_eq_none (by rw [zcu];omega)]at hj;cases hj
   rw [zdd hlt]at hj
   rw [hc j hlt];exact hj)
  rw [zcu]at h
  exact h
 obtain⟨hoka,_,⟨rfl,rfl⟩ | ⟨x,cap,rfl,hc,rfl⟩ | ⟨p,off,cap,rfl,h1,h2,h3,h4,h5⟩⟩:=hu
 ·rw [run_convert_bytes_string w 22 9 5 none 0 0 Tryz.underlying22 Tryz.underlying5 Tryz.underlying9]
  simp [Conv.bytesToString,str]
 ·exact hfull x cap (fun j hj=>by simp at hj)
 ·exact hfull _ cap (fun j hj=>by rw [zaX];exact h5 j hj)
structure Nd (α:Type) where
 kind:Int
 name:List Int
 text:List Int
 attrs:List (List Int×List Int)
 kids:List α
def Tr:Nat→Type
 | 0=>Empty
 | n+1=>Nd (Tr n)
def Elems {α:Type} (w:World) (size:Nat) (v:Value) (l:List α) (R:List Value→α→Prop):Prop:=
 l.length≤maxLen∧
 ((v=.slice none 0 0∧l=[])∨
  (∃x cap,v=.slice (some x) 0 cap∧cap≤maxLen∧l=[])∨
  (∃b off cap,v=.slice (some ⟨b,off,none⟩) l.length cap∧l.length≤cap∧cap≤maxLen∧l≠[]∧b<w.heap.size∧
   ∀i (hi:i<l.length),∃C:List Value,C.length=size∧(∀j,j<size→w.cell? ⟨b,off+i*size+j,none⟩=C[j]?)∧R C l[i]))
theorem Elems.shape {α:Type} {w:World} {size:Nat} {v:Value} {l:List α} {R:List Value→α→Prop} (h:Elems w size v l R):∃a cap,v=.slice a l.length cap∧l.length≤cap∧cap≤maxLen:=by
 obtain⟨hm,⟨rfl,rfl⟩ | ⟨x,cap,rfl,hc,rfl⟩ | ⟨b,off,cap,rfl,h1,h2,_⟩⟩:=h
 ·exact⟨none,0,rfl,Nat.le_refl _,hm⟩
 ·exact⟨some x,cap,rfl,Nat.zero_le _,hc⟩
 ·exact⟨_,cap,rfl,h1,h2⟩
theorem Elems.keep {α:Type} {w w':World} {size:Nat} {v:Value} {l:List α} {R R':List Value→α→Prop} (h:Elems w size v l R) (hb:Below w.heap.size w w') (hR:∀C x,x∈l→R C x→R' C x):Elems w' size v l R':=by
 obtain⟨hm,h1 | h2 | ⟨b,off,cap,rfl,h1,h2,h3,h4,h5⟩⟩:=h
 ·exact⟨hm,.inl h1⟩
 ·exact⟨hm,.inr (.inl h2)⟩
 ·refine⟨hm,.inr (.inr ⟨b,off,cap,rfl,h1,h2,h3,Nat.lt_of_lt_of_le h4 hb.size,fun i hi=> ?_⟩)⟩
  obtain⟨C,hC,hc,hr⟩:=h5 i hi
  exact⟨C,hC,fun j hj=>(hb.cell (p:=⟨b,off+i*size+j,none⟩) h4).trans (hc j hj),hR C _ (List.getElem_mem hi) hr⟩
theorem zeL {α:Type} {w:World} {b off k:Nat} {x:α} {R:List Value→α→Prop} (h:∃C:List Value,C.length=5∧(∀j,j<5→w.cell? ⟨b,off+k*5+j,none⟩=C[j]?)∧R C x) :
  ∃c0 c1 c2 c3 c4,w.cell? ⟨b,off+k*5,none⟩=some c0∧w.cell? ⟨b,off+k*5+1,none⟩=some c1∧w.cell? ⟨b,off+k*5+2,none⟩=some c2∧w.cell? ⟨b,off+k*5+3,none⟩=some c3∧w.cell? ⟨b,off+k*5+4,none⟩=some c4∧R [c0,c1,c2,c3,c4] x:=by
 obtain⟨C,hC,hcell,hr⟩:=h
 match C,hC with
 | [c0,c1,c2,c3,c4],_=>exact⟨c0,c1,c2,c3,c4,hcell 0 (by omega),hcell 1 (by omega),hcell 2 (by omega),hcell 3 (by omega),hcell 4 (by omega),hr⟩
theorem zeP {α:Type} {w:World} {b off k:Nat} {x:α} {R:List Value→α→Prop} (h:∃C:List Value,C.length=2∧(∀j,j<2→w.cell? ⟨b,off+k*2+j,none⟩=C[j]?)∧R C x) :
  ∃c0 c1,w.cell? ⟨b,off+k*2,none⟩=some c0∧w.cell? ⟨b,off+k*2+1,none⟩=some c1∧R [c0,c1] x:=by
 obtain⟨C,hC,hcell,hr⟩:=h
 match C,hC with
 | [c0,c1],_=>exact⟨c0,c1,hcell 0 (by omega),hcell 1 (by omega),hr⟩
def zoK (w:World) (C:List Value) (x:List Int×List Int):Prop:=∃a b,C=[a,b]∧Byt w a x.1∧Byt w b x.2
def RdAttrs (w:World) (v:Value) (l:List (List Int×List Int)):Prop:=Elems w 2 v l (zoK w)
def RdNode:(n:Nat)→World→List Value→Tr n→Prop
 | 0=>fun _ _ _=>False
 | n+1=>fun w C t=>∃a b c d,C=[.int .i64 t.kind,a,b,c,d]∧-9223372036854775808≤t.kind∧t.kind≤9223372036854775807∧Byt w a t.name∧Byt w b t.text∧RdAttrs w c t.attrs∧Elems w 5 d t.kids (RdNode n w)
def RdKids (n:Nat) (w:World) (v:Value) (l:List (Tr n)):Prop:=Elems w 5 v l (RdNode n w)
theorem RdAttrs.keep {w w':World} {v:Value} {l:List (List Int×List Int)} (h:RdAttrs w v l) (hb:Below w.heap.size w w'):RdAttrs w' v l:=
 Elems.keep h hb (fun C x _ ⟨a,b,e,h1,h2⟩=>⟨a,b,e,h1.keep hb,h2.keep hb⟩)
theorem RdNode.keep {n:Nat} {w w':World} {C:List Value} {t:Tr n} (h:RdNode n w C t) (hb:Below w.heap.size w w'):RdNode n w' C t:=by
 induction n generalizing C with
 | zero=>exact h
 | succ n ih=>
  obtain⟨a,b,c,d,e,k1,k2,h1,h2,h3,h4⟩:=h
  exact⟨a,b,c,d,e,k1,k2,h1.keep hb,h2.keep hb,h3.keep hb,Elems.keep h4 hb (fun C x _ hr=>ih hr)⟩
theorem RdKids.keep {n:Nat} {w w':World} {v:Value} {l:List (Tr n)} (h:RdKids n w v l) (hb:Below w.heap.size w w'):RdKids n w' v l:=
 Elems.keep h hb (fun C x _ hr=>RdNode.keep hr hb)
def szA (l:List (List Int×List Int)):Nat:=l.length+(l.map fun x=>x.1.length+x.2.length).sum
def szT:(n:Nat)→Tr n→Nat
 | 0=>fun _=>0
 | n+1=>fun t=>t.name.length+t.text.length+szA t.attrs+(t.kids.length+(t.kids.map (szT n)).sum)
def szK (n:Nat) (l:List (Tr n)):Nat:=l.length+(l.map (szT n)).sum
def rest (m:Nat) (left:Int):Int:=if (m:Int)≤left then left-(m:Int) else -1
theorem zaB {m:Nat} {left:Int} (h:(m:Int)≤left):rest m left=left-(m:Int):=by rw [rest,if_pos h]
theorem zaA {m:Nat} {left:Int} (h:¬ (m:Int)≤left):rest m left = -1:=by rw [rest,if_neg h]
theorem zcr {a b:Nat} {left:Int} (h:(a:Int)≤left):rest (a+b) left=rest b (left-(a:Int)):=by
 by_cases h1:((a+b:Nat):Int)≤left
 ·rw [zaB h1,zaB (by omega)];omega
 ·rw [zaA h1,zaA (by omega)]
theorem zcO {a b:Nat} {left:Int} (h:¬ (a:Int)≤left):rest (a+b) left = -1:=zaA (by omega)
def Void (l:List Int):Prop:=l=[98,114]∨l=[104,114]
theorem zse:(str [98,114]).toList=[98,114]:=by rw [zbC,zci];rfl
theorem zsm:(str [104,114]).toList=[104,114]:=by rw [zbC,zci];rfl
theorem zou:okB [98,114]:=fun x hx=>by simp at hx;omega
theorem zoi:okB [104,114]:=fun x hx=>by simp at hx;omega
open Classical in
set_option maxHeartbeats 1600000 in
theorem ziQ (w:World) (v:Value) (l:List Int) (h:Byt w v l) :
  Calls Tryz.prog 36 #[v] w fun e w'=>e=.returned (.bool (decide (Void l)))∧w'=w:=by
 have c1:=zbG w v l h
 have b1:((str l).toList == [98,114])=decide (l=[98,114]):=by rw [←zse];exact zgh h.1 zou
 have b2:((str l).toList == [104,114])=decide (l=[104,114]):=by rw [←zsm];exact zgh h.1 zoi
 obtain⟨a1,k1,rfl,_⟩:=h.shape
 generalize str l=s at *
 by_cases h1:l=[98,114]
 ·have HD:=hide (show decide (Void l)=true by simp [Void,h1])
  have d1:(s.toList == [98,114])=true:=by rw [b1];simp [h1]
  clear b1 b2 h1
  go_enter Tryz.func36,Tryz.ntmps36
  go_wp2
  go_ret
  exact⟨by rw [zaa HD];rfl,rfl⟩
 ·have d1:(s.toList == [98,114])=false:=by rw [b1];simp [h1]
  by_cases h2:l=[104,114]
  ·have HD:=hide (show decide (Void l)=true by simp [Void,h2])
   have d2:(s.toList == [104,114])=true:=by rw [b2];simp [h2]
   clear b1 b2 h1 h2
   go_enter Tryz.func36,Tryz.ntmps36
   go_wp2
   go_ret
   exact⟨by rw [zaa HD];rfl,rfl⟩
  ·have HD:=hide (show decide (Void l)=false by simp [Void,h1,h2])
   have d2:(s.toList == [104,114])=false:=by rw [b2];simp [h2]
   clear b1 b2 h1 h2
   go_enter Tryz.func36,Tryz.ntmps36
   go_wp2
   go_ret
   exact⟨by rw [zaa HD];rfl,rfl⟩
def zdP (a b:List Int):Bool:=Op.bytesLess (str a).toList (str b).toList
def zbY (l:List (List Int×List Int)) (i:Nat):Prop:=zai (l.getD i ([],[])).1∧zat (l.getD i ([],[])).2∧(0<i→zdP (l.getD (i-1) ([],[])).1 (l.getD i ([],[])).1=true)
def zal (l:List (List Int×List Int)):Prop:=l.length≤4∧∀i,i<l.length→zbY l i
theorem zku {p:Nat→Prop} {k:Nat} (h:∀i,i<k→p i) (h1:p k) (i:Nat) (hi:i<k+1):p i:=by
 by_cases e:i=k
 ·subst e;exact h1
 ·exact h i (by omega)
open Classical in
set_option maxHeartbeats 3200000 in
theorem zhw (w:World) (v:Value) (l:List (List Int×List Int)) (h:RdAttrs w v l) :
  Calls Tryz.prog 104 #[v] w fun e w'=>e=.returned (.bool (decide (zal l)))∧Below w.heap.size w w':=by
 by_cases hl:4<l.length
 ·obtain⟨a,cap,rfl,_⟩:=Elems.shape h
  have HD:=hide (show decide (zal l)=false by simp only [decide_eq_false_iff_not];rintro⟨_,_⟩;omega)
  have d2:(4:Int)<(l.length:Int):=by omega
  go_enter Tryz.func104,Tryz.ntmps104
  go_wp2_with fail
  go_ret
  exact⟨by rw [zaa HD];rfl,Below.refl _ _⟩
 have d2:¬ (4:Int)<(l.length:Int):=by omega
 by_cases h0:l=[]
 ·obtain⟨a,cap,rfl,_⟩:=Elems.shape h
  subst h0
  have HD:=hide (show decide (zal [])=true by simp only [decide_eq_true_eq];exact⟨by simp,fun i hi=>by simp at hi⟩)
  go_enter Tryz.func104,Tryz.ntmps104
  go_wp2_with fail
  refine wp_loop_rounds 1 ?_
  rw [rounds_succ]
  go_wp2_with fail
  go_ret
  exact⟨by rw [zaa HD];rfl,Below.refl _ _⟩
 obtain⟨_,⟨_,e⟩ | ⟨_,_,_,_,e⟩ | ⟨b,off,cap,rfl,g1,g2,g3,g4,g5⟩⟩:=h
 ·exact absurd e h0
 ·exact absurd e h0
 go_enter Tryz.func104,Tryz.ntmps104
 go_wp2_with fail
 go_loopw [3] (fun i wr=>∃k:Nat,k≤l.length∧i=.int .i64 k∧(∀i,i<k→zbY l i)∧Below w.heap.size w wr) (fun i _=>l.length-(intOf i).toNat)
 case atStart=>exact⟨0,Nat.zero_le _,rfl,fun i hi=>by omega,Below.refl _ _⟩
 case round=>
  obtain⟨k,hk,rfl,ha,hB⟩:=hrel
  have HA:=hide ha
  clear ha
  by_cases hlt:k<l.length
  ·obtain⟨c0,c1,e0,e1,hc⟩:=zeP (g5 k hlt)
   obtain⟨_,_,ee,hc0,hc1⟩:=hc
   simp only [List.cons.injEq,and_true]at ee
   obtain⟨rfl,rfl⟩:=ee
   replace e0:=(hB.cell (p:=⟨b,off+k*2,none⟩) g4).trans e0
   replace e1:=(hB.cell (p:=⟨b,off+k*2+1,none⟩) g4).trans e1
   replace hc0:=hc0.keep hB
   replace hc1:=hc1.keep hB
   have hlt':(k:Int)<(l.length:Int):=by omega
   have hk0:(0:Int)≤(k:Int):=by omega
   obtain⟨x,hx⟩:∃x,x=l[k]:=⟨_,rfl⟩
   rw [←hx]at hc0 hc1
   have hgd:l.getD k ([],[])=x:=by rw [hx];simp [hlt]
   obtain⟨a0,n0,hv0,_,_⟩:=hc0.shape
   obtain⟨a1,n1,hv1,_,_⟩:=hc1.shape
   subst hv0 hv1
   by_cases hn:zai x.1
   ·by_cases ht:zat x.2
    ·by_cases hkz:k=0
     ·have HT:=hide (show zbY l k from ⟨by rw [hgd];exact hn,by rw [hgd];exact ht,fun h=>by omega⟩)
      have HN:=hide hn
      have HX:=hide ht
      subst hkz
      have dk:decide ((0:Int)<((0:Nat):Int))=false:=by simp
      simp only [Nat.zero_mul,Nat.add_zero]at e0 e1
      clear g5 hn ht hgd hx
      go_wp2_with fail
      go_quiet (first | (go_at_call 103;exact Calls.quiet_of_same (zbE _ _ x.1 (hc0.keep (below_drewN (Below.refl _ _) _)) (zaa HN))) | (go_at_call 102;exact Calls.quiet_of_same (zdy _ _ x.2 (hc1.keep (below_drewN (Below.refl _ _) _)) (zaa HX))))
      go_wp2_with fail
      go_roundw
      case rel=>exact⟨1,by omega,by go_num,fun i hi=>by obtain rfl:i=0:=(by omega);exact zaa HT,below_drewN hB _⟩
      case measure=>simp [intOf];omega
     ·obtain⟨p0,p1,u0,u1,hp⟩:=zeP (g5 (k-1) (by omega))
      obtain⟨_,_,ee,hp0,hp1⟩:=hp
      simp only [List.cons.injEq,and_true]at ee
      obtain⟨rfl,rfl⟩:=ee
      replace u0:=(hB.cell (p:=⟨b,off+(k-1)*2,none⟩) g4).trans u0
      replace hp0:=hp0.keep hB
      obtain⟨y,hy⟩:∃y,y=l[k-1]:=⟨_,rfl⟩
      rw [←hy]at hp0
      have hgy:l.getD (k-1) ([],[])=y:=by rw [hy];simp [show k-1<l.length by omega]
      obtain⟨a2,n2,hv2,_,_⟩:=hp0.shape
      subst hv2
      have cx:=fun q=>zbG (wr.drewN q) _ x.1 (hc0.keep (below_drewN (Below.refl _ _) q))
      have cy:=fun q=>zbG (wr.drewN q) _ y.1 (hp0.keep (below_drewN (Below.refl _ _) q))
      have hkp:0<k:=by omega
      have hkd:decide (0<k)=true:=by simp;omega
      have hk1:(0:Int)≤(k:Int)-1:=by omega
      have hk2:(k:Int)-1<(l.length:Int):=by omega
      have hk3:((k:Int)-1).toNat=k-1:=by omega
      have HN:=hide hn
      have HX:=hide ht
      by_cases hl2:zdP y.1 x.1=true
      ·have HT:=hide (show zbY l k from ⟨by rw [hgd];exact hn,by rw [hgd];exact ht,fun _=>by rw [hgd,hgy];exact hl2⟩)
       unfold zdP at hl2
       clear g5 hn ht hgd hx hy hgy
       go_wp2_with fail
       go_quiet (first | (go_at_call 103;exact Calls.quiet_of_same (zbE _ _ x.1 (hc0.keep (below_drewN (Below.refl _ _) _)) (zaa HN))) | (go_at_call 102;exact Calls.quiet_of_same (zdy _ _ x.2 (hc1.keep (below_drewN (Below.refl _ _) _)) (zaa HX))))
       go_wp2_with fail
       go_roundw
       case rel=>exact⟨k+1,by omega,by go_num,fun i hi=>zku (zaa HA) (zaa HT) i hi,below_drewN hB _⟩
       case measure=>simp [intOf];omega
      ·have HF:=hide (show decide (zal l)=false by
        simp only [decide_eq_false_iff_not]
        rintro⟨_,h⟩
        exact hl2 (by have:=(h k hlt).2.2 (by omega);rwa [hgd,hgy]at this))
       have hl3:Op.bytesLess (str y.1).toList (str x.1).toList=false:=by unfold zdP at hl2;simpa using hl2
       clear g5 hn ht hgd hx hy hgy hl2
       go_wp2_with fail
       go_quiet (first | (go_at_call 103;exact Calls.quiet_of_same (zbE _ _ x.1 (hc0.keep (below_drewN (Below.refl _ _) _)) (zaa HN))) | (go_at_call 102;exact Calls.quiet_of_same (zdy _ _ x.2 (hc1.keep (below_drewN (Below.refl _ _) _)) (zaa HX))))
       go_wp2_with fail
       go_ret
       exact⟨by rw [zaa HF];rfl,below_drewN hB _⟩
    ·have HF:=hide (show decide (zal l)=false by
      simp only [decide_eq_false_iff_not]
      rintro⟨_,h⟩
      exact ht (by have:=(h k hlt).2.1;rwa [hgd]at this))
     have HN:=hide hn
     have HX:=hide ht
     clear g5 hn ht hgd hx
     go_wp2_with fail
     go_quiet (first | (go_at_call 103;exact Calls.quiet_of_same (zbE _ _ x.1 (hc0.keep (below_drewN (Below.refl _ _) _)) (zaa HN))) | (go_at_call 102;exact Calls.quiet_of_same (zhg _ _ x.2 (hc1.keep (below_drewN (Below.refl _ _) _)) (zaa HX))))
     go_wp2_with fail
     go_ret
     exact⟨by rw [zaa HF];rfl,below_drewN hB _⟩
   ·have HF:=hide (show decide (zal l)=false by
     simp only [decide_eq_false_iff_not]
     rintro⟨_,h⟩
     exact hn (by have:=(h k hlt).1;rwa [hgd]at this))
    have HN:=hide hn
    clear g5 hn hgd hx
    go_wp2_with fail
    go_quiet ((go_at_call 103;exact Calls.quiet_of_same (zhb _ _ x.1 (hc0.keep (below_drewN (Below.refl _ _) _)) (zaa HN))))
    go_wp2_with fail
    go_ret
    exact⟨by rw [zaa HF];rfl,below_drewN hB _⟩
  ·have e:k=l.length:=by omega
   subst e
   have HF:=hide (show decide (zal l)=true by simp only [decide_eq_true_eq];exact⟨by omega,zaa HA⟩)
   clear g5
   go_wp2_with fail
   go_ret
   exact⟨by rw [zaa HF];rfl,hB⟩
def FB (v:Value):List Nat:=v.ownBlock.toList
structure Frm (w w':World) (S:List Nat):Prop where
 os:w'.os=w.os
 tape:w'.tape=w.tape
 output:w'.output=w.output
 size:w.heap.size≤w'.heap.size
 block:∀k,k<w.heap.size→k∉S→w'.heap[k]? = w.heap[k]?
theorem Frm.refl (w:World) (S:List Nat):Frm w w S:=⟨rfl,rfl,rfl,Nat.le_refl _,fun _ _ _=>rfl⟩
theorem Frm.trans {a b c:World} {S:List Nat} (h:Frm a b S) (k:Frm b c S):Frm a c S:=
 ⟨k.os.trans h.os,k.tape.trans h.tape,k.output.trans h.output,Nat.le_trans h.size k.size,fun i hi hn=>(k.block i (Nat.lt_of_lt_of_le hi h.size) hn).trans (h.block i hi hn)⟩
theorem Frm.mono {a b:World} {S S':List Nat} (h:Frm a b S) (hs:∀g∈S,g∈S'):Frm a b S':=⟨h.os,h.tape,h.output,h.size,fun i hi hn=>h.block i hi (fun e=>hn (hs i e))⟩
theorem Frm.ofBelow {a b:World} (h:Below a.heap.size a b) (S:List Nat):Frm a b S:=⟨h.os,h.tape,h.output,h.size,fun i hi _=>h.block i hi⟩
theorem Frm.ofGrown {a b:World} {row:Option Nat} (h:a.grownBy b row):Frm a b row.toList:=⟨h.os,h.tape,h.output,h.size,fun i hi hn=>h.block i hi (fun e=>hn (by rw [←e];simp))⟩
theorem Frm.below {a b:World} {S:List Nat} {B:Nat} (h:Frm a b S) (hB:B≤a.heap.size) (hs:∀g∈S,B≤g):Below B a b:=⟨h.os,h.tape,h.output,h.size,fun i hi=>h.block i (by omega) (fun e=>by have:=hs i e;omega)⟩
theorem Frm.new {a b c:World} {S S':List Nat} (h:Frm a b S) (k:Frm b c S') (hs:∀g∈S',a.heap.size≤g):Frm a c S:=
 ⟨k.os.trans h.os,k.tape.trans h.tape,k.output.trans h.output,Nat.le_trans h.size k.size,fun i hi hn=>(k.block i (Nat.lt_of_lt_of_le hi h.size) (fun e=>by have:=hs i e;omega)).trans (h.block i hi hn)⟩
theorem zah {w w':World} {base:Nat} {e:TypeId} {size:Nat} {v:Value} {n:Nat} {xs:List Value} {S:List Nat} (h:w.ownsRow base e size v n xs) (f:Frm w w' S) (hd:∀g∈FB v,g∉S):w'.ownsRow base e size v n xs:=by
 refine⟨h.1,?_⟩
 rcases h.2 with h' | ⟨g,cap,cur,rfl,hb,hg,hr⟩
 ·exact .inl h'
 ·have hlt:g<w.heap.size:=by
   by_cases hlt:g<w.heap.size
   ·exact hlt
   ·rw [Array.getElem?_eq_none (by omega)]at hg;cases hg
  exact .inr ⟨g,cap,cur,rfl,hb,(f.block g hlt (hd g (by simp [FB,Value.ownBlock]))).trans hg,hr⟩
theorem Own.frm {w w':World} {base:Nat} {v:Value} {l:List Int} {S:List Nat} (h:Own w base v l) (f:Frm w w' S) (hd:∀g∈FB v,g∉S):Own w' base v l:=⟨h.1,zah h.2 f hd⟩
theorem zbk {w:World} {base:Nat} {e:TypeId} {size:Nat} {v:Value} {n:Nat} {xs:List Value} (h:w.ownsRow base e size v n xs) (b:Nat) (hb:b≤base):w.ownsRow b e size v n xs:=by
 refine⟨h.1,?_⟩
 rcases h.2 with h' | ⟨g,cap,cur,e1,h1,h2⟩
 ·exact .inl h'
 ·exact .inr ⟨g,cap,cur,e1,by omega,h2⟩
def Rng (F:List Nat) (lo hi:Nat):Prop:=∀g∈F,lo≤g∧g<hi
theorem Rng.mono {F:List Nat} {lo hi lo' hi':Nat} (h:Rng F lo hi) (h1:lo'≤lo) (h2:hi≤hi'):Rng F lo' hi':=fun g hg=>by have:=h g hg;omega
theorem Rng.app {F G:List Nat} {lo hi:Nat} (h:Rng F lo hi) (k:Rng G lo hi):Rng (F++G) lo hi:=fun g hg=>by
 rcases List.mem_append.1 hg with h' | h'
 ·exact h g h'
 ·exact k g h'
theorem Rng.nil (lo hi:Nat):Rng [] lo hi:=fun g hg=>by cases hg
theorem zbS {F G:List Nat} {lo mid hi:Nat} (hF:F.Nodup) (hG:G.Nodup) (h:Rng F lo mid) (k:Rng G mid hi):(F++G).Nodup:=by
 rw [List.nodup_append]
 exact⟨hF,hG,fun a ha b hb e=>by have:=h a ha;have:=k b hb;omega⟩
theorem zaE (v:Value):(FB v).Nodup:=by unfold FB;cases v.ownBlock<;>simp
theorem Own.rng {w:World} {base:Nat} {v:Value} {l:List Int} (h:Own w base v l):Rng (FB v) base w.heap.size:=fun g hg=>h.lt g (by simpa [FB]using hg)
def Loc (w:World) (g:Nat) (cs:Array Value) (T:TypeId):Prop:=w.heap[g]? = some (.cells cs T (0,0))
theorem Loc.lt {w:World} {g:Nat} {cs:Array Value} {T:TypeId} (h:Loc w g cs T):g<w.heap.size:=by
 by_cases hlt:g<w.heap.size
 ·exact hlt
 ·unfold Loc at h;rw [Array.getElem?_eq_none (by omega)]at h;cases h
theorem Loc.cell {w:World} {g:Nat} {cs:Array Value} {T:TypeId} (h:Loc w g cs T) (j:Nat):w.cell? ⟨g,j,none⟩=cs[j]? :=cell_of_row w g j cs T (0,0) h
theorem Loc.frozen {w:World} {g:Nat} {cs:Array Value} {T:TypeId} (h:Loc w g cs T) (j:Nat):w.frozen? ⟨g,j,none⟩=false:=frozen_of_row w g j cs T h
theorem Loc.keep {w w':World} {g:Nat} {cs:Array Value} {T:TypeId} {B:Nat} (h:Loc w g cs T) (hb:Below B w w') (hB:g<B):Loc w' g cs T:=(hb.block g hB).trans h
theorem Loc.all {w w':World} {g:Nat} {cs:Array Value} {T:TypeId} (h:Loc w g cs T) (hb:Below w.heap.size w w'):Loc w' g cs T:=h.keep hb h.lt
theorem Loc.frm {w w':World} {g:Nat} {cs:Array Value} {T:TypeId} {S:List Nat} (h:Loc w g cs T) (f:Frm w w' S) (hn:g∉S):Loc w' g cs T:=(f.block g h.lt hn).trans h
theorem Loc.set {w:World} {g:Nat} {cs:Array Value} {T:TypeId} (h:Loc w g cs T) (j:Nat) (v:Value):Loc (w.setCell ⟨g,j,none⟩ v) g (cs.setIfInBounds j v) T:=heap_setCell_same w g j cs T v h
theorem Loc.other {w:World} {g:Nat} {cs:Array Value} {T:TypeId} (h:Loc w g cs T) (q j:Nat) (v:Value) (hn:g≠q):Loc (w.setCell ⟨q,j,none⟩ v) g cs T:=(heap_setCell_other w ⟨q,j,none⟩ g v hn).trans h
theorem Loc.alloc {w:World} {g:Nat} {cs:Array Value} {T:TypeId} (h:Loc w g cs T) (o:Obj):Loc (w.alloc o) g cs T:=(heap_alloc_old w o h.lt).trans h
theorem Loc.made (w:World) (cs:Array Value) (T:TypeId):Loc (w.alloc (.cells cs T)) w.heap.size cs T:=heap_alloc_new w _
theorem zab (w:World) (g j:Nat) (v:Value):Frm w (w.setCell ⟨g,j,none⟩ v) [g]:=
 ⟨rfl,rfl,rfl,by simp,fun k _ hk=>heap_setCell_other w ⟨g,j,none⟩ k v (fun e=>hk (by simp [e]))⟩
def OwElems {α:Type} (w:World) (e:TypeId) (size:Nat) (v:Value) (l:List α) (R:List Value→α→List Nat→Prop) (F:List Nat):Prop:=
 ∃(Cs:List (List Value)) (Fs:List (List Nat)),Cs.length=l.length∧Fs.length=l.length∧(∀i (hi:i<l.length),(Cs.getD i []).length=size∧R (Cs.getD i []) l[i] (Fs.getD i []))∧
  w.ownsRow 0 e size v l.length Cs.flatten∧F=FB v++Fs.flatten
def OwAttr (w:World) (C:List Value) (x:List Int×List Int) (F:List Nat):Prop:=∃a b,C=[a,b]∧Own w 0 a x.1∧Own w 0 b x.2∧F=FB a++FB b
def OwAttrs (w:World) (v:Value) (l:List (List Int×List Int)) (F:List Nat):Prop:=OwElems w 144 2 v l (OwAttr w) F
def OwNode:(n:Nat)→World→List Value→Tr n→List Nat→Prop
 | 0=>fun _ _ _ _=>False
 | n+1=>fun w C t F=>∃a b c d Fc Fd,C=[.int .i64 t.kind,a,b,c,d]∧-9223372036854775808≤t.kind∧t.kind≤9223372036854775807∧Own w 0 a t.name∧Own w 0 b t.text∧
   OwAttrs w c t.attrs Fc∧OwElems w 37 5 d t.kids (OwNode n w) Fd∧F=FB a++FB b++Fc++Fd
def OwKids (n:Nat) (w:World) (v:Value) (l:List (Tr n)) (F:List Nat):Prop:=OwElems w 37 5 v l (OwNode n w) F
theorem zau {Fs:List (List Nat)} {i g:Nat} (h:g∈Fs.getD i []):g∈Fs.flatten:=by
 by_cases hi:i<Fs.length
 ·rw [List.getD_eq_getElem?_getD,List.getElem?_eq_getElem hi]at h
  exact List.mem_flatten.2 ⟨_,List.getElem_mem hi,h⟩
 ·rw [List.getD_eq_getElem?_getD,List.getElem?_eq_none (by omega)]at h;simp at h
theorem OwElems.frm {α:Type} {w w':World} {e:TypeId} {size:Nat} {v:Value} {l:List α} {R R':List Value→α→List Nat→Prop} {F S:List Nat} (h:OwElems w e size v l R F) (f:Frm w w' S) (hd:∀g∈F,g∉S)
  (hR:∀C x G,R C x G→(∀g∈G,g∉S)→R' C x G):OwElems w' e size v l R' F:=by
 obtain⟨Cs,Fs,h1,h2,h3,h4,rfl⟩:=h
 refine⟨Cs,Fs,h1,h2,fun i hi=>⟨(h3 i hi).1,hR _ _ _ (h3 i hi).2 (fun g hg=>hd g (List.mem_append_right _ (zau hg)))⟩,zah h4 f (fun g hg=>hd g (List.mem_append_left _ hg)),rfl⟩
theorem OwAttrs.frm {w w':World} {v:Value} {l:List (List Int×List Int)} {F S:List Nat} (h:OwAttrs w v l F) (f:Frm w w' S) (hd:∀g∈F,g∉S):OwAttrs w' v l F:=
 OwElems.frm h f hd (fun C x G ⟨a,b,e,h1,h2,h3⟩ hG=>by
  subst h3
  exact⟨a,b,e,h1.frm f (fun g hg=>hG g (by simp [hg])),h2.frm f (fun g hg=>hG g (by simp [hg])),rfl⟩)
theorem OwNode.frm {n:Nat} {w w':World} {C:List Value} {t:Tr n} {F S:List Nat} (h:OwNode n w C t F) (f:Frm w w' S) (hd:∀g∈F,g∉S):OwNode n w' C t F:=by
 induction n generalizing C F with
 | zero=>exact h
 | succ n ih=>
  obtain⟨a,b,c,d,Fc,Fd,e,k1,k2,h1,h2,h3,h4,rfl⟩:=h
  exact⟨a,b,c,d,Fc,Fd,e,k1,k2,h1.frm f (fun g hg=>hd g (by simp [hg])),h2.frm f (fun g hg=>hd g (by simp [hg])),h3.frm f (fun g hg=>hd g (by simp [hg])),
   OwElems.frm h4 f (fun g hg=>hd g (by simp [hg])) (fun C x G hr hG=>ih hr hG),rfl⟩
theorem OwNode.keep {n:Nat} {w w':World} {C:List Value} {t:Tr n} {F:List Nat} (h:OwNode n w C t F) (hb:Below w.heap.size w w'):OwNode n w' C t F:=h.frm (Frm.ofBelow hb []) (fun _ _=>by simp)
theorem OwKids.frm {n:Nat} {w w':World} {v:Value} {l:List (Tr n)} {F S:List Nat} (h:OwKids n w v l F) (f:Frm w w' S) (hd:∀g∈F,g∉S):OwKids n w' v l F:=OwElems.frm h f hd (fun C x G hr hG=>OwNode.frm hr f hG)
theorem zhZ (Cs:List (List Value)) (size:Nat) (h:∀i,i<Cs.length→(Cs.getD i []).length=size) (i j:Nat) (hi:i<Cs.length) (hj:j<size):Cs.flatten[i*size+j]? = (Cs.getD i [])[j]? :=by
 induction Cs generalizing i with
 | nil=>simp at hi
 | cons C Cs ih=>
  have h0:C.length=size:=by simpa using h 0 (by simp)
  cases i with
  | zero=>simp [List.getElem?_append,h0,hj]
  | succ i=>
   have e:(i+1)*size+j=C.length+(i*size+j):=by rw [h0,Nat.succ_mul];omega
   rw [List.flatten_cons,e,List.getElem?_append_right (by omega),Nat.add_sub_cancel_left]
   have:=ih (fun k hk=>by simpa using h (k+1) (by simpa using hk)) i (by simpa using hi)
   simpa using this
theorem OwElems.rd {α:Type} {w:World} {e:TypeId} {size:Nat} {v:Value} {l:List α} {R:List Value→α→List Nat→Prop} {R':List Value→α→Prop} {F:List Nat} (h:OwElems w e size v l R F) (hm:l.length≤maxLen)
  (hR:∀C x G,R C x G→R' C x):Elems w size v l R':=by
 obtain⟨Cs,Fs,h1,h2,h3,h4,rfl⟩:=h
 have h4':=h4
 refine⟨hm,?_⟩
 rcases h4.2 with ⟨rfl,h0⟩ | ⟨g,cap,cur,rfl,hb,hg,hnc,hcm,hcs,htake⟩
 ·exact .inl ⟨rfl,List.eq_nil_of_length_eq_zero h0⟩
 ·by_cases h0:l=[]
  ·subst h0
   exact .inr (.inl ⟨_,cap,rfl,hcm,rfl⟩)
  ·refine .inr (.inr ⟨g,0,cap,rfl,hnc,hcm,h0,(h4'.lt g rfl).2,fun i hi=>⟨Cs.getD i [],(h3 i hi).1,fun j hj=> ?_,hR _ _ _ (h3 i hi).2⟩⟩)
   have hlt:i*size+j<l.length*size:=by
    have:(i+1)*size≤l.length*size:=Nat.mul_le_mul_right _ hi
    rw [Nat.succ_mul]at this;omega
   rw [Nat.zero_add,h4'.cellAt (i*size+j) hlt]
   exact zhZ Cs size (fun k hk=>(h3 k (by omega)).1) i j (by omega) hj
theorem OwElems.len {α:Type} {w:World} {e:TypeId} {size:Nat} {v:Value} {l:List α} {R:List Value→α→List Nat→Prop} {F:List Nat} (h:OwElems w e size v l R F):l.length≤maxLen:=by
 obtain⟨Cs,Fs,h1,h2,h3,h4,rfl⟩:=h
 rcases h4.2 with ⟨_,h0⟩ | ⟨g,cap,cur,rfl,hb,hg,hnc,hcm,_⟩
 ·rw [h0];exact Nat.zero_le _
 ·omega
theorem OwAttrs.rd {w:World} {v:Value} {l:List (List Int×List Int)} {F:List Nat} (h:OwAttrs w v l F):RdAttrs w v l:=OwElems.rd h (OwElems.len h) (fun C x G ⟨a,b,e,h1,h2,_⟩=>⟨a,b,e,h1.byt,h2.byt⟩)
theorem OwNode.rd {n:Nat} {w:World} {C:List Value} {t:Tr n} {F:List Nat} (h:OwNode n w C t F):RdNode n w C t:=by
 induction n generalizing C F with
 | zero=>exact h
 | succ n ih=>
  obtain⟨a,b,c,d,Fc,Fd,e,k1,k2,h1,h2,h3,h4,rfl⟩:=h
  exact⟨a,b,c,d,e,k1,k2,h1.byt,h2.byt,h3.rd,OwElems.rd h4 (OwElems.len h4) (fun C x G hr=>ih hr)⟩
theorem OwKids.rd {n:Nat} {w:World} {v:Value} {l:List (Tr n)} {F:List Nat} (h:OwKids n w v l F):RdKids n w v l:=OwElems.rd h (OwElems.len h) (fun C x G hr=>OwNode.rd hr)
theorem zeN {a b:Int} (h:a=b):Ending.returned (.int .i64 a)=.returned (.int .i64 b):=by rw [h]
theorem zeO (w:World) (a:Option Addr) (n cap:Nat) (left:Int) (hn:n≤maxLen) (h0:0≤left) (h1:left≤1000000000) :
  Calls Tryz.prog 31 #[.slice a n cap,.int .i64 left] w fun e w'=>e=.returned (.int .i64 (rest n left))∧w'=w:=by
 unfold maxLen at hn
 by_cases h:(n:Int)≤left
 ·have HR:=hide (zaB h)
  have hd:¬ left-(n:Int)<0:=by omega
  go_enter Tryz.func31,Tryz.ntmps31
  go_wp2
  go_ret
  exact⟨by rw [zaa HR];rfl,rfl⟩
 ·have HR:=hide (zaA h)
  have hd:left-(n:Int)<0:=by omega
  go_enter Tryz.func31,Tryz.ntmps31
  go_wp2
  go_ret
  exact⟨by rw [zaa HR];rfl,rfl⟩
set_option maxHeartbeats 1600000 in
theorem zna (w:World) (a b:Value) (x:List Int×List Int) (left:Int) (ha:Byt w a x.1) (hb:Byt w b x.2) (h0:0≤left) (h1:left≤1000000000) :
  Calls Tryz.prog 71 #[.agg #[a,b],.int .i64 left] w fun e w'=>e=.returned (.int .i64 (rest (x.1.length+x.2.length) left))∧Below w.heap.size w w':=by
 obtain⟨a1,c1,rfl,_,_⟩:=ha.shape
 obtain⟨a2,c2,rfl,_,_⟩:=hb.shape
 have m1:=ha.2.1
 have m2:=hb.2.1
 by_cases h2:((x.1.length:Nat):Int)≤left
 ·have HR:=hide (zcr (b:=x.2.length) h2)
  go_enter Tryz.func71,Tryz.ntmps71
  go_wp2_with fail
  refine (zeO _ _ _ _ left m1 h0 h1).mono ?_
  rintro e w1 ⟨rfl,rfl⟩
  rw [zaB h2]
  have hd:¬ left-(x.1.length:Int)<0:=by omega
  go_wp2_with fail
  refine (zeO _ _ _ _ (left-(x.1.length:Int)) m2 (by omega) (by omega)).mono ?_
  rintro e w2 ⟨rfl,rfl⟩
  by_cases h3:((x.2.length:Nat):Int)≤left-(x.1.length:Int)
  ·rw [zaB h3]at HR ⊢
   have hd2:¬ left-(x.1.length:Int)-(x.2.length:Int)<0:=by omega
   go_wp2
   go_ret
   exact⟨by rw [zaa HR];rfl,(Below.refl _ _).alloc (Nat.le_refl _) _⟩
  ·rw [zaA h3]at HR ⊢
   go_wp2
   go_ret
   exact⟨by rw [zaa HR];rfl,(Below.refl _ _).alloc (Nat.le_refl _) _⟩
 ·have HR:=hide (zcO (b:=x.2.length) h2)
  go_enter Tryz.func71,Tryz.ntmps71
  go_wp2_with fail
  refine (zeO _ _ _ _ left m1 h0 h1).mono ?_
  rintro e w1 ⟨rfl,rfl⟩
  rw [zaA (by omega)]
  go_wp2
  go_ret
  exact⟨by rw [zaa HR];rfl,(Below.refl _ _).alloc (Nat.le_refl _) _⟩
def zbH {α:Type} (f:α→Nat) (l:List α) (k:Nat):Nat:=((l.take k).map f).sum
theorem zdR {α:Type} (f:α→Nat) (l:List α) (k:Nat) (h:k<l.length):zbH f l (k+1)=zbH f l k+f l[k]:=by
 unfold zbH
 rw [List.take_succ_eq_append_getElem h]
 simp only [List.map_append,List.sum_append,List.map_cons,List.map_nil,List.sum_cons,List.sum_nil,Nat.add_zero]
theorem ziK {α:Type} (f:α→Nat) (l:List α):zbH f l l.length=(l.map f).sum:=by simp [zbH]
theorem zfq {α:Type} (f:α→Nat) (l:List α) (k:Nat):zbH f l k≤(l.map f).sum:=by
 have h:(l.map f).sum=zbH f l k+((l.drop k).map f).sum:=by
  unfold zbH
  rw [←List.sum_append,←List.map_append,List.take_append_drop]
 omega
set_option maxHeartbeats 1600000 in
theorem zlo (w:World) (v:Value) (l:List (List Int×List Int)) (left:Int) (h:RdAttrs w v l) (h0:0≤left) (h1:left≤1000000000) :
  Calls Tryz.prog 32 #[v,.int .i64 left] w fun e w'=>e=.returned (.int .i64 (rest (szA l) left))∧Below w.heap.size w w':=by
 have hm:=h.1
 unfold maxLen at hm
 by_cases h2:(l.length:Int)≤left
 ·have hd:¬ left-(l.length:Int)<0:=by omega
  obtain⟨_,⟨rfl,rfl⟩ | ⟨x,cap,rfl,hc,rfl⟩ | ⟨b,off,cap,rfl,g1,g2,g3,g4,g5⟩⟩:=h
  ·go_enter Tryz.func32,Tryz.ntmps32
   go_wp2
   refine wp_loop_rounds 1 ?_
   rw [rounds_succ]
   go_wp2
   go_ret
   exact⟨zeN (by rw [zaB (by simpa [szA]using h0)];simp [szA]),Below.refl _ _⟩
  ·go_enter Tryz.func32,Tryz.ntmps32
   go_wp2
   refine wp_loop_rounds 1 ?_
   rw [rounds_succ]
   go_wp2
   go_ret
   exact⟨zeN (by rw [zaB (by simpa [szA]using h0)];simp [szA]),Below.refl _ _⟩
  ·have HE:=hide (zcr (b:=(l.map fun x=>x.1.length+x.2.length).sum) h2)
   go_enter Tryz.func32,Tryz.ntmps32
   go_wp2
   go_loopw [1,5] (fun q i wr=>∃k:Nat,k≤l.length∧i=.int .i64 k∧((zbH (fun x:List Int×List Int=>x.1.length+x.2.length) l k:Nat):Int)≤left-(l.length:Int)∧q=.int .i64 (left-(l.length:Int)-(zbH (fun x:List Int×List Int=>x.1.length+x.2.length) l k:Nat))∧Below w.heap.size w wr) (fun _ i _=>l.length-(intOf i).toNat)
   case atStart=>exact⟨0,Nat.zero_le _,rfl,by simp [zbH];omega,by simp [zbH],Below.refl _ _⟩
   case round=>
    obtain⟨k,hk,rfl,hs,rfl,hB⟩:=hrel
    by_cases hlt:k<l.length
    ·obtain⟨C,hC,hcell,c0,c1,rfl,hc0,hc1⟩:=g5 k hlt
     have e0:=(hB.cell (p:=⟨b,off+k*2,none⟩) g4).trans (hcell 0 (by omega))
     have e1:=(hB.cell (p:=⟨b,off+k*2+1,none⟩) g4).trans (hcell 1 (by omega))
     simp only [List.getElem?_cons_zero,List.getElem?_cons_succ]at e0 e1
     have hlt':(k:Int)<(l.length:Int):=by omega
     obtain⟨a1,k1,hsh1,_,_⟩:=hc0.shape
     obtain⟨a2,k2,hsh2,_,_⟩:=hc1.shape
     subst hsh1 hsh2
     generalize hq:zbH (fun x:List Int×List Int=>x.1.length+x.2.length) l k=q at *
     have HQ:=hide hq
     clear hcell g5 hq
     have hst:=zdR (fun x:List Int×List Int=>x.1.length+x.2.length) l k hlt
     have hle:=zfq (fun x:List Int×List Int=>x.1.length+x.2.length) l (k+1)
     rw [hst]at hle
     rw [HQ.out]at hst hle
     have HST:=hide hst
     clear hst
     go_wp2_with fail
     refine (zna wr _ _ l[k] (left-(l.length:Int)-(q:Int)) (hc0.keep hB) (hc1.keep hB) (by omega) (by omega)).mono ?_
     rintro e w2 ⟨rfl,hB2⟩
     have hB3:=hB.trans (hB2.mono hB.size)
     clear hc0 hc1 hC e0 e1
     generalize l[k].fst.length+l[k].snd.length=m at *
     by_cases h3:(m:Int)≤left-(l.length:Int)-(q:Int)
     ·rw [zaB h3]
      have hd3:¬ left-(l.length:Int)-(q:Int)-(m:Int)<0:=by omega
      go_wp2
      go_roundw
      case rel=>exact⟨k+1,by omega,by go_num,by rw [zaa HST];omega,by rw [zaa HST];exact congrArg (Value.int .i64) (by omega),hB3⟩
      case measure=>simp [intOf];omega
     ·rw [zaA h3]
      have HF:=hide (show rest (szA l) left = -1 by unfold szA;rw [zaa HE,zaA (by omega)])
      go_wp2
      go_ret
      exact⟨by rw [zaa HF];rfl,hB3⟩
    ·have e:k=l.length:=by omega
     subst e
     rw [ziK]at hs ⊢
     have HF:=hide (show rest (szA l) left=left-(l.length:Int)-((l.map fun x=>x.1.length+x.2.length).sum:Nat) by unfold szA;rw [zaa HE,zaB hs])
     go_wp2
     go_ret
     exact⟨by rw [zaa HF];rfl,hB⟩
 ·have HF:=hide (show rest (szA l) left = -1 from zcO h2)
  obtain⟨a,cap,rfl,_,_⟩:=h.shape
  have hd:left-(l.length:Int)<0:=by omega
  go_enter Tryz.func32,Tryz.ntmps32
  go_wp2
  go_ret
  exact⟨by rw [zaa HF];rfl,Below.refl _ _⟩
def zcV (n:Nat):Prop:=∀(w:World) (a b c d e:Value) (t:Tr n) (left:Int),RdNode n w [a,b,c,d,e] t→0≤left→left≤1000000000→
  Calls Tryz.prog 13 #[.agg #[a,b,c,d,e],.int .i64 left] w fun e w'=>e=.returned (.int .i64 (rest (szT n t) left))∧Below w.heap.size w w'
set_option maxHeartbeats 1600000 in
theorem zln (n:Nat) (H:zcV n) (w:World) (v:Value) (l:List (Tr n)) (left:Int) (h:RdKids n w v l) (h0:0≤left) (h1:left≤1000000000) :
  Calls Tryz.prog 33 #[v,.int .i64 left] w fun e w'=>e=.returned (.int .i64 (rest (szK n l) left))∧Below w.heap.size w w':=by
 have hm:=h.1
 unfold maxLen at hm
 by_cases h2:(l.length:Int)≤left
 ·have hd:¬ left-(l.length:Int)<0:=by omega
  obtain⟨_,⟨rfl,rfl⟩ | ⟨x,cap,rfl,hc,rfl⟩ | ⟨b,off,cap,rfl,g1,g2,g3,g4,g5⟩⟩:=h
  ·go_enter Tryz.func33,Tryz.ntmps33
   go_wp2_with fail
   refine wp_loop_rounds 1 ?_
   rw [rounds_succ]
   go_wp2_with fail
   go_ret
   exact⟨zeN (by rw [zaB (by simpa [szK]using h0)];simp [szK]),Below.refl _ _⟩
  ·go_enter Tryz.func33,Tryz.ntmps33
   go_wp2_with fail
   refine wp_loop_rounds 1 ?_
   rw [rounds_succ]
   go_wp2_with fail
   go_ret
   exact⟨zeN (by rw [zaB (by simpa [szK]using h0)];simp [szK]),Below.refl _ _⟩
  ·have HE:=hide (zcr (b:=(l.map (szT n)).sum) h2)
   go_enter Tryz.func33,Tryz.ntmps33
   go_wp2_with fail
   go_loopw [1,5] (fun q i wr=>∃k:Nat,k≤l.length∧i=.int .i64 k∧((zbH (szT n) l k:Nat):Int)≤left-(l.length:Int)∧q=.int .i64 (left-(l.length:Int)-(zbH (szT n) l k:Nat))∧Below w.heap.size w wr) (fun _ i _=>l.length-(intOf i).toNat)
   case atStart=>exact⟨0,Nat.zero_le _,rfl,by simp [zbH];omega,by simp [zbH],Below.refl _ _⟩
   case round=>
    obtain⟨k,hk,rfl,hs,rfl,hB⟩:=hrel
    by_cases hlt:k<l.length
    ·obtain⟨C,hC,hcell,hr⟩:=g5 k hlt
     obtain⟨c0,c1,c2,c3,c4,rfl⟩:∃c0 c1 c2 c3 c4,C=[c0,c1,c2,c3,c4]:=by
      match C,hC with
      | [c0,c1,c2,c3,c4],_=>exact⟨c0,c1,c2,c3,c4,rfl⟩
     have e0:=(hB.cell (p:=⟨b,off+k*5,none⟩) g4).trans (hcell 0 (by omega))
     have e1:=(hB.cell (p:=⟨b,off+k*5+1,none⟩) g4).trans (hcell 1 (by omega))
     have e2:=(hB.cell (p:=⟨b,off+k*5+2,none⟩) g4).trans (hcell 2 (by omega))
     have e3:=(hB.cell (p:=⟨b,off+k*5+3,none⟩) g4).trans (hcell 3 (by omega))
     have e4:=(hB.cell (p:=⟨b,off+k*5+4,none⟩) g4).trans (hcell 4 (by omega))
     simp only [List.getElem?_cons_zero,List.getElem?_cons_succ]at e0 e1 e2 e3 e4
     have hlt':(k:Int)<(l.length:Int):=by omega
     have hst:=zdR (szT n) l k hlt
     have hle:=zfq (szT n) l (k+1)
     rw [hst]at hle
     generalize hq:zbH (szT n) l k=q at *
     have HQ:=hide hq
     have HST:=hide hst
     clear hcell g5 hq hst
     go_wp2_with fail
     refine (H wr _ _ _ _ _ l[k] (left-(l.length:Int)-(q:Int)) (hr.keep hB) (by omega) (by omega)).mono ?_
     rintro e w2 ⟨rfl,hB2⟩
     have hB3:=hB.trans (hB2.mono hB.size)
     clear hC e0 e1 e2 e3 e4 hr
     generalize szT n l[k]=m at *
     by_cases h3:(m:Int)≤left-(l.length:Int)-(q:Int)
     ·rw [zaB h3]
      have hd3:¬ left-(l.length:Int)-(q:Int)-(m:Int)<0:=by omega
      go_wp2_with fail
      go_roundw
      case rel=>exact⟨k+1,by omega,by go_num,by rw [zaa HST];omega,by rw [zaa HST];exact congrArg (Value.int .i64) (by omega),hB3⟩
      case measure=>simp [intOf];omega
     ·rw [zaA h3]
      have HF:=hide (show rest (szK n l) left = -1 by unfold szK;rw [zaa HE,zaA (by omega)])
      go_wp2_with fail
      go_ret
      exact⟨by rw [zaa HF];rfl,hB3⟩
    ·have e:k=l.length:=by omega
     subst e
     rw [ziK]at hs ⊢
     have HF:=hide (show rest (szK n l) left=left-(l.length:Int)-((l.map (szT n)).sum:Nat) by unfold szK;rw [zaa HE,zaB hs])
     go_wp2_with fail
     go_ret
     exact⟨by rw [zaa HF];rfl,hB⟩
 ·have HF:=hide (show rest (szK n l) left = -1 from zcO h2)
  obtain⟨a,cap,rfl,_,_⟩:=Elems.shape h
  have hd:left-(l.length:Int)<0:=by omega
  go_enter Tryz.func33,Tryz.ntmps33
  go_wp2_with fail
  go_ret
  exact⟨by rw [zaa HF];rfl,Below.refl _ _⟩
theorem zla:zcV 0:=fun _ _ _ _ _ _ t=>t.elim
set_option maxHeartbeats 3200000 in
theorem zkW (n:Nat) (H:zcV n):zcV (n+1):=by
 intro w a b c d e t left hr h0 h1
 obtain⟨a',b',c',d',e0,k1,k2,hb,hc,hd,he⟩:=hr
 simp only [List.cons.injEq,and_true]at e0
 obtain⟨rfl,rfl,rfl,rfl,rfl⟩:=e0
 obtain⟨ab,cb,rfl,_,_⟩:=hb.shape
 obtain⟨ac,cc,rfl,_,_⟩:=hc.shape
 obtain⟨ad,cd,rfl,_,_⟩:=Elems.shape hd
 obtain⟨ae,ce,rfl,_,_⟩:=Elems.shape he
 have mb:=hb.2.1
 have mc:=hc.2.1
 have hz:szT (n+1) t=t.name.length+(t.text.length+(szA t.attrs+szK n t.kids)):=by show t.name.length+t.text.length+szA t.attrs+(t.kids.length+(t.kids.map (szT n)).sum)=_;unfold szK;omega
 rw [hz]
 have hA:Below w.heap.size w (w.alloc (.cells #[.int .i64 t.kind,.slice ab t.name.length cb,.slice ac t.text.length cc,.slice ad t.attrs.length cd,.slice ae t.kids.length ce] 26)):=(Below.refl _ _).alloc (Nat.le_refl _) _
 go_enter Tryz.func13,Tryz.ntmps13
 go_wp2_with fail
 refine (zeO _ _ _ _ left mb h0 h1).mono ?_
 rintro e w1 ⟨rfl,rfl⟩
 by_cases h2:(t.name.length:Int)≤left
 ·have H2:=hide (zcr (b:=t.text.length+(szA t.attrs+szK n t.kids)) h2)
  rw [zaB h2]
  have hd2:¬ left-(t.name.length:Int)<0:=by omega
  go_wp2_with fail
  refine (zeO _ _ _ _ (left-(t.name.length:Int)) mc (by omega) (by omega)).mono ?_
  rintro e w1 ⟨rfl,rfl⟩
  by_cases h3:(t.text.length:Int)≤left-(t.name.length:Int)
  ·have H3:=hide (zcr (b:=szA t.attrs+szK n t.kids) h3)
   rw [zaB h3]
   have hd3:¬ left-(t.name.length:Int)-(t.text.length:Int)<0:=by omega
   go_wp2_with fail
   refine (zlo _ _ t.attrs (left-(t.name.length:Int)-(t.text.length:Int)) (hd.keep hA) (by omega) (by omega)).mono ?_
   rintro e w2 ⟨rfl,hB2⟩
   have hA2:=zad hA hB2
   by_cases h4:(szA t.attrs:Int)≤left-(t.name.length:Int)-(t.text.length:Int)
   ·have H4:=hide (zcr (b:=szK n t.kids) h4)
    rw [zaB h4]
    have hd4:¬ left-(t.name.length:Int)-(t.text.length:Int)-(szA t.attrs:Int)<0:=by omega
    have hc4:=cell_later hB2 (show (w.alloc (.cells #[.int .i64 t.kind,.slice ab t.name.length cb,.slice ac t.text.length cc,.slice ad t.attrs.length cd,.slice ae t.kids.length ce] 26)).cell? ⟨w.heap.size,4,none⟩=some (.slice ae t.kids.length ce) by simp)
    go_wp2_with fail
    refine (zln n H w2 _ t.kids (left-(t.name.length:Int)-(t.text.length:Int)-(szA t.attrs:Int)) (RdKids.keep he hA2) (by omega) (by omega)).mono ?_
    rintro e w3 ⟨rfl,hB3⟩
    have hA3:=zad hA2 hB3
    clear hB2 hB3 hA hA2 hc4
    by_cases h5:(szK n t.kids:Int)≤left-(t.name.length:Int)-(t.text.length:Int)-(szA t.attrs:Int)
    ·have H5:=hide (zaB h5)
     rw [zaB h5]
     have hd5:¬ left-(t.name.length:Int)-(t.text.length:Int)-(szA t.attrs:Int)-(szK n t.kids:Int)<0:=by omega
     go_wp2_with fail
     go_ret
     exact⟨by rw [zaa H2,zaa H3,zaa H4,zaa H5];rfl,hA3⟩
    ·have H5:=hide (zaA h5)
     rw [zaA h5]
     go_wp2_with fail
     go_ret
     exact⟨by rw [zaa H2,zaa H3,zaa H4,zaa H5];rfl,hA3⟩
   ·have H4:=hide (zcO (b:=szK n t.kids) h4)
    rw [zaA h4]
    clear hB2 hA
    go_wp2_with fail
    go_ret
    exact⟨by rw [zaa H2,zaa H3,zaa H4];rfl,hA2⟩
  ·have H3:=hide (zcO (b:=szA t.attrs+szK n t.kids) h3)
   rw [zaA h3]
   have HA:=hide hA
   clear hA
   go_wp2_with fail
   go_ret
   exact⟨by rw [zaa H2,zaa H3];rfl,zaa HA⟩
 ·have H2:=hide (zcO (b:=t.text.length+(szA t.attrs+szK n t.kids)) h2)
  rw [zaA h2]
  have HA:=hide hA
  clear hA
  go_wp2_with fail
  go_ret
  exact⟨by rw [zaa H2];rfl,zaa HA⟩
theorem zni (n:Nat):zcV n:=by
 induction n with
 | zero=>exact zla
 | succ n ih=>exact zkW n ih
set_option maxHeartbeats 1600000 in
theorem zmR (w:World) (a b:Value) (x:List Int×List Int) (ha:Byt w a x.1) (hb:Byt w b x.2) (hs:x.1.length+x.2.length≤2097152) :
  Calls Tryz.prog 81 #[.agg #[a,b]] w fun e w'=>∃a1 c1 a2 c2,e=.returned (.agg #[.slice a1 x.1.length c1,.slice a2 x.2.length c2])∧∃F,OwAttr w' [.slice a1 x.1.length c1,.slice a2 x.2.length c2] x F∧F.Nodup∧Rng F w.heap.size w'.heap.size∧Below w.heap.size w w':=by
 obtain⟨p1,k1,rfl,_,_⟩:=ha.shape
 obtain⟨p2,k2,rfl,_,_⟩:=hb.shape
 go_enter Tryz.func81,Tryz.ntmps81
 go_wp2_with fail
 have l0:=(((Loc.made w #[.slice p1 x.1.length k1,.slice p2 x.2.length k2] 137).alloc (.cells #[.slice none 0 0,.slice none 0 0] 144)).alloc (.cells #[.slice none 0 0,.slice none 0 0] 144))
 have l1:=(Loc.made (w.alloc (.cells #[.slice p1 x.1.length k1,.slice p2 x.2.length k2] 137)) #[.slice none 0 0,.slice none 0 0] 144).alloc (.cells #[.slice none 0 0,.slice none 0 0] 144)
 have l2:=Loc.made ((w.alloc (.cells #[.slice p1 x.1.length k1,.slice p2 x.2.length k2] 137)).alloc (.cells #[.slice none 0 0,.slice none 0 0] 144)) #[.slice none 0 0,.slice none 0 0] 144
 have hA:Below w.heap.size w (((w.alloc (.cells #[.slice p1 x.1.length k1,.slice p2 x.2.length k2] 137)).alloc (.cells #[.slice none 0 0,.slice none 0 0] 144)).alloc (.cells #[.slice none 0 0,.slice none 0 0] 144)):=(((Below.refl _ _).alloc (Nat.le_refl _) _).alloc (by simp) _).alloc (by simp;omega) _
 simp only [World.size_alloc]at l1 l2
 generalize hW:(((w.alloc (.cells #[.slice p1 x.1.length k1,.slice p2 x.2.length k2] 137)).alloc (.cells #[.slice none 0 0,.slice none 0 0] 144)).alloc (.cells #[.slice none 0 0,.slice none 0 0] 144))=W at *
 have hWs:W.heap.size=w.heap.size+3:=by rw [←hW];simp
 clear hW
 have HWs:=hide hWs
 clear hWs
 refine (zea W _ x.1 (ha.keep hA) (by omega)).mono ?_
 rintro e w1 ⟨v1,rfl,ho1,_,hB1⟩
 obtain⟨a1,c1,hv1,_,_⟩:=ho1.byt.shape
 subst hv1
 have r1:=ho1.rng
 replace l0:=l0.all hB1
 replace l1:=l1.all hB1
 replace l2:=l2.all hB1
 have e0:=l0.cell 1
 have e2:=l2.cell 0
 have f2:=l2.frozen 0
 simp at e0 e2
 have hA1:=zad hA hB1
 have m0:=l0.other (w.heap.size+1+1) 0 (.slice a1 x.1.length c1) (by omega)
 have m1:=l1.other (w.heap.size+1+1) 0 (.slice a1 x.1.length c1) (by omega)
 have m2:=l2.set 0 (.slice a1 x.1.length c1)
 have hf1:=zab w1 (w.heap.size+1+1) 0 (.slice a1 x.1.length c1)
 have ho2:=ho1.frm hf1 (fun g hg=>by have:=r1 g hg;have:=zaa HWs;simp;omega)
 have hA2:Below w.heap.size w (w1.setCell ⟨w.heap.size+1+1,0,none⟩ (.slice a1 x.1.length c1)):=hA1.setCell (by simp;omega) _
 have hs1:=hB1.size
 have M:=hide (And.intro m0 (And.intro m1 m2))
 have HO:=hide ho2
 have HA2:=hide hA2
 clear hB1 l0 l1 l2 m0 m1 m2 hf1 ho1 ho2 hA2 hA hA1
 go_wp2_with fail
 refine (zea _ _ x.2 (hb.keep (zaa HA2)) (by omega)).mono ?_
 rintro e w2 ⟨v2,rfl,ho3,_,hB2⟩
 obtain⟨a2,c2,hv2,_,_⟩:=ho3.byt.shape
 subst hv2
 have r2:=ho3.rng
 have n1:=(zaa M).2.1.all hB2
 have n2:=(zaa M).2.2.all hB2
 have hA3:=zad (zaa HA2) hB2
 have ho4:=(zaa HO).keep hB2
 have hs2:=hB2.size
 have g0:=n1.cell 0
 have g1:=n1.cell 1
 have g2:=n2.cell 0
 have g3:=n2.cell 1
 have g4:=n1.frozen 0
 have g5:=n1.frozen 1
 have g6:=n2.frozen 1
 simp at g0 g1 g2 g3 hs2
 clear M HO HA2 hB2
 simp only [World.size_setCell]at r2 ho3
 have hsz:=zaa HWs
 have hf:Frm w2 (((w2.setCell ⟨w.heap.size+1+1,1,none⟩ (.slice a2 x.2.length c2)).setCell ⟨w.heap.size+1,0,none⟩ (.slice a1 x.1.length c1)).setCell ⟨w.heap.size+1,1,none⟩ (.slice a2 x.2.length c2)) [w.heap.size+1+1,w.heap.size+1]:=
  (((zab w2 _ _ _).mono (by simp)).trans ((zab _ _ _ _).mono (by simp))).trans ((zab _ _ _ _).mono (by simp))
 have ho5:=(ho4.frm hf (fun g hg=>by have:=r1 g hg;simp;omega)).mono (Nat.zero_le _)
 have ho6:=(ho3.frm hf (fun g hg=>by have:=r2 g hg;simp;omega)).mono (Nat.zero_le _)
 have hA4:=hA3.trans (hf.below hA3.size (fun g hg=>by simp at hg;omega))
 have hrng:Rng (FB (.slice a1 x.1.length c1)++FB (.slice a2 x.2.length c2)) w.heap.size w2.heap.size:=(r1.mono (by omega) (by omega)).app (r2.mono (by omega) (by omega))
 have hnd:=zbS (zaE (.slice a1 x.1.length c1)) (zaE (.slice a2 x.2.length c2)) r1 r2
 have HP:=hide (And.intro ho5 (And.intro ho6 (And.intro hA4 (And.intro hrng hnd))))
 clear ho5 ho6 hA4 hrng hnd hf ho3 ho4 hA3 n1 n2 r1 r2 hsz
 go_wp2_with fail
 obtain⟨ho5,ho6,hA4,hrng,hnd⟩:=zaa HP
 exact bodyPost_ret (v:=.agg #[.slice a1 x.1.length c1,.slice a2 x.2.length c2]) (by simp [results,Tryz.results81,go_sem,g0,g1]) rfl ⟨a1,c1,a2,c2,rfl,_,⟨_,_,rfl,ho5,ho6,rfl⟩,hnd,hrng.mono (Nat.le_refl _) (by simp),hA4⟩
end Go.Proofs.YtlpnibbdmkeklaaGreatDoor
