/- Own texts joined: RdK, RdL, OnceR, RdA, RdB, RdC, RdD, RdE, RdM0, RdM, RdN, RdO, RdP, RdQ, InA. -/
import Derived.Test.YtgjolijncmkkhaaGreatDoorQa
import Derived.Test.YtgjolijncmkkhaaGreatDoorQc
import Derived.Test.YtgjolijncmkkhaaGreatDoorQm
import Derived.Test.YtgjolijncmkkhaaGreatDoorQp
import Derived.Test.YtgjolijncmkkhaaGreatDoorQq
import Derived.Shelf.Abstract
import Derived.Deep.RegionHeld3
import Derived.Deep.CutBlock
import Derived.Lib.AppendZerosOnto
import Derived.Lib.Overlaps
import Derived.Lib.Walk
import Derived.Laws.Externs
import Derived.Laws.NewBlocks
import Derived.Deep.RegionLaw
import Derived.Deep.AppendLies
namespace Go.Proofs.YtgjolijncmkkhaaGreatDoor
open Go.RowKit
set_option linter.unusedVariables false
set_option maxRecDepth 100000
def zeQ (x:Int):Bool:=decide (65<=x) && decide (x<=90)
theorem zig (x:Int) (w:Xk):Calls Tryz.prog 168 #[.int .u8 x] w fun e w'=>e=.returned (.bool (zeQ x))∧w'=w:=by
 unfold zeQ
 by_cases h1:65<=x
 ·by_cases h2:x<=90
  ·rw [decide_eq_true h1,decide_eq_true h2]
   go_enter Tryz.func168,Tryz.ntmps168
   go_wp2
   go_ret
   exact⟨rfl,rfl⟩
  ·have d2:decide (x<=90)=false:=decide_eq_false h2
   rw [decide_eq_true h1,d2]
   clear h2
   go_enter Tryz.func168,Tryz.ntmps168
   go_wp2
   go_ret
   exact⟨rfl,rfl⟩
 ·have d1:decide (65<=x)=false:=decide_eq_false h1
  rw [d1]
  clear h1
  go_enter Tryz.func168,Tryz.ntmps168
  go_wp2
  go_ret
  exact⟨rfl,rfl⟩
theorem zBa (x:Int):zbe x=(zeM x || zeQ x):=by
 unfold zbe zeM zeQ
 first | rfl | simp
theorem zmL (x:Int) (w:Xk):Calls Tryz.prog 140 #[.int .u8 x] w fun e w'=>e=.returned (.bool (zbe x))∧w'=w:=by
 rw [zBa]
 go_enter Tryz.func140,Tryz.ntmps140
 go_wp2_with fail
 refine (zdH x w).mono ?_
 rintro e w1 ⟨rfl,rfl⟩
 cases hb:zeM x with
 | true=>
  have HB:=hide hb
  clear hb
  go_wp2_with fail
  go_ret
  exact⟨by rw [zaa HB];rfl,rfl⟩
 | false=>
  have HB:=hide hb
  clear hb
  go_wp2_with fail
  refine (zig x w1).mono ?_
  rintro e w2 ⟨rfl,rfl⟩
  go_wp2_with fail
  go_ret
  exact⟨by rw [zaa HB];rfl,rfl⟩
theorem zvk (x:Int) (w:Xk):Calls Tryz.prog 170 #[.int .u8 x] w fun e w'=>e=.returned (.bool (!(zbe x || digB x)))∧w'=w:=by
 go_enter Tryz.func170,Tryz.ntmps170
 go_wp2_with fail
 refine (zmL x w).mono ?_
 rintro e w1 ⟨rfl,rfl⟩
 cases hb:zbe x with
 | true=>
  have HB:=hide hb
  clear hb
  go_wp2_with fail
  go_ret
  exact⟨by rw [zaa HB];rfl,rfl⟩
 | false=>
  have HB:=hide hb
  clear hb
  go_wp2_with fail
  refine (zmM x w1).mono ?_
  rintro e w2 ⟨rfl,rfl⟩
  cases hd:digB x with
  | true=>
   have HD:=hide hd
   clear hd
   go_wp2_with fail
   go_ret
   exact⟨by rw [zaa HB,zaa HD];rfl,rfl⟩
  | false=>
   have HD:=hide hd
   clear hd
   go_wp2_with fail
   go_ret
   exact⟨by rw [zaa HB,zaa HD];rfl,rfl⟩
theorem zAz (x:Int) (h0:0<=x) (h1:x<=255) (w:Xk):Calls Tryz.prog 171 #[.int .u8 x] w fun e w'=>e=.returned (.int .u8 (lowC x))∧w'=w:=by
 by_cases h:65<=x∧x<=90
 ·have e1:zeQ x=true:=by unfold zeQ;simpa using h
  have HL:=hide (show lowC x=x+32 by unfold lowC;rw [if_pos h])
  have HG:=zig x w
  rw [e1]at HG
  have HG:=hide HG
  have e3:IntKind.u8.wrap (x+97)=x+97:=IntWalk.u8_in _ ⟨by omega,by omega⟩
  have e4:IntKind.u8.wrap (x+97-65)=x+97-65:=IntWalk.u8_in _ ⟨by omega,by omega⟩
  clear e1
  go_enter Tryz.func171,Tryz.ntmps171
  go_wp2_with fail
  refine (zaa HG).mono ?_
  rintro e w1 ⟨rfl,rfl⟩
  go_wp2_with fail
  go_ret
  refine⟨?_,rfl⟩
  rw [zaa HL]
  first
   | rfl
   | exact congrArg (fun z=>Ending.returned (Value.int .u8 z)) (by omega)
 ·have e1:zeQ x=false:=by
   unfold zeQ
   rw [Bool.and_eq_false_iff]
   simp only [decide_eq_false_iff_not]
   omega
  have HL:=hide (show lowC x=x by unfold lowC;rw [if_neg h])
  have HG:=zig x w
  rw [e1]at HG
  have HG:=hide HG
  clear e1
  go_enter Tryz.func171,Tryz.ntmps171
  go_wp2_with fail
  refine (zaa HG).mono ?_
  rintro e w1 ⟨rfl,rfl⟩
  go_wp2_with fail
  go_ret
  exact⟨by rw [zaa HL];rfl,rfl⟩
end Go.Proofs.YtgjolijncmkkhaaGreatDoor
namespace Go.Proofs.YtgjolijncmkkhaaGreatDoor
open Go.RowKit Go.Shelf
set_option linter.unusedVariables false
set_option maxRecDepth 100000
theorem zsw (x:Int) (w:Xk):Calls Tryz.prog 146 #[.int .u8 x] w fun e w'=>e=.returned (.bool (zbQ x))∧w'=w:=by
 by_cases h1:x=32
 ·subst h1
  go_enter Tryz.func146,Tryz.ntmps146
  go_wp2_with fail
  go_ret
  exact⟨rfl,rfl⟩
 by_cases h2:x=9
 ·subst h2
  go_enter Tryz.func146,Tryz.ntmps146
  go_wp2_with fail
  go_ret
  exact⟨rfl,rfl⟩
 by_cases h3:x=10
 ·subst h3
  go_enter Tryz.func146,Tryz.ntmps146
  go_wp2_with fail
  go_ret
  exact⟨rfl,rfl⟩
 have d1:(x == 32)=false:=by simpa using h1
 have d2:(x == 9)=false:=by simpa using h2
 have d3:(x == 10)=false:=by simpa using h3
 have e0:zbQ x=(x == 13):=by unfold zbQ;simp [h1,h2,h3];rfl
 rw [e0]
 clear h1 h2 h3 e0
 go_enter Tryz.func146,Tryz.ntmps146
 go_wp2_with fail
 go_ret
 exact⟨rfl,rfl⟩
theorem zwA (x:Int) (w:Xk):Calls Tryz.prog 198 #[.int .u8 x] w fun e w'=>e=.returned (.bool (zbQ x || decide (x=62)))∧w'=w:=by
 go_enter Tryz.func198,Tryz.ntmps198
 go_wp2_with fail
 refine (zsw x w).mono ?_
 rintro e w1 ⟨rfl,rfl⟩
 cases hb:zbQ x with
 | true=>
  have HB:=hide hb
  clear hb
  go_wp2_with fail
  go_ret
  exact⟨by rw [zaa HB];rfl,rfl⟩
 | false=>
  have HB:=hide hb
  clear hb
  go_wp2_with fail
  go_ret
  exact⟨by rw [zaa HB];rfl,rfl⟩
theorem znt (x q:Int) (b:Nat) (w:Xk) (hc:w.cell? ⟨b,0,none⟩=some (.int .u8 q)):Calls Tryz.prog 197 #[.int .u8 x,.pointer (some ⟨b,0,none⟩)] w fun e w'=>e=.returned (.bool (decide (x=q)))∧w'=w:=by
 go_enter Tryz.func197,Tryz.ntmps197
 go_wp2_with fail
 go_ret
 exact⟨rfl,rfl⟩
theorem zzt {α:Type} {q:α->Bool} {l:List α} {i:Nat} (hi:i<=l.length) (h1:∀k (hk:k<l.length),k<i->q l[k]=true) (h2:∀hk:i<l.length,q l[i]=false):(l.takeWhile q).length=i:=by
 induction l generalizing i with
 | nil=>simp at hi;subst hi;rfl
 | cons p l ih=>
  cases i with
  | zero=>
   have:=h2 (by simp)
   simp only [List.getElem_cons_zero]at this
   rw [List.takeWhile_cons,if_neg (by rw [this];decide)]
   rfl
  | succ i=>
   have h0:=h1 0 (by simp) (by omega)
   simp only [List.getElem_cons_zero]at h0
   rw [List.takeWhile_cons,if_pos h0,List.length_cons]
   rw [ih (i:=i) (by simpa using hi) (fun k hk Aa=>by have:=h1 (k+1) (by simpa using hk) (by omega);simpa using this) (fun hk=>by have:=h2 (by simpa using hk);simpa using this)]
def ixV (p:Int->Bool) (l:Xg):Int:=if (upL p l).1.length=l.length then -1 else ((upL p l).1.length:Int)
theorem zwI {p:Int->Bool} {l:Xg} {j:Nat} (hj:j<l.length) (h:∀k,k<j->p (l.getD k 0)=false) (hp:p (l.getD j 0)=true):ixV p l=(j:Int):=by
 have e:(upL p l).1.length=j:=zzt (by omega) (fun k hk Aa=>by have:=h k Aa;rw [zdC hk]at this;simp [this]) (fun hk=>by rw [zdC hk]at hp;simp [hp])
 unfold ixV
 rw [e,if_neg (by omega)]
theorem zzA {p:Int->Bool} {l:Xg} (h:∀k,k<l.length->p (l.getD k 0)=false):ixV p l = -1:=by
 have e:(upL p l).1.length=l.length:=zzt (Nat.le_refl _) (fun k hk Aa=>by have:=h k Aa;rw [zdC hk]at this;simp [this]) (fun hk=>by omega)
 unfold ixV
 rw [e,if_pos rfl]
theorem zwl (w:Xk) (a:Xi) (c:Nat) (fv:Xl) (p:Int->Bool):Calls Tryz.prog 196 #[.slice a 0 c,fv] w fun e w'=>e=.returned (.int .i64 (ixV p []))∧w'=w:=by
 go_enter Tryz.func196,Tryz.ntmps196
 go_wp2_with fail
 refine wp_loop_rounds 1 ?_
 rw [rounds_succ]
 go_wp2_with fail
 go_ret
 exact⟨rfl,rfl⟩
set_option maxHeartbeats 1600000 in
theorem zAi (F:FuncId) (hE:∀args w,(callFunc F args).run Tryz.prog w=.ok (.enter F args) w) (p:Int->Bool) (w:Xk) (b off cap:Nat) (l:Xg) (hok:okB l) (hl:l.length<=1500)
  (hcell:∀k,k<l.length->w.cell? ⟨b,off+k,none⟩=some (.int .u8 (l.getD k 0))) (hc:∀x,Calls Tryz.prog F #[.int .u8 x] w fun e w'=>e=.returned (.bool (p x))∧w'=w) :
  Calls Tryz.prog 196 #[.slice (some ⟨b,off,none⟩) l.length cap,.func (.func F) #[] #[]] w fun e w'=>e=.returned (.int .i64 (ixV p l))∧w'=w:=by
 refine zaw ?_
 intro Q HQ
 have HC:=hide hc
 have HL:=hide hcell
 clear hc hcell
 go_enter Tryz.func196,Tryz.ntmps196
 go_wp2_with fail
 go_loop [8] (fun i=>∃k:Nat,k<=l.length∧i=.int .i64 k∧Hid (∀j,j<k->p (l.getD j 0)=false)) (fun i=>l.length-(intOf i).toNat)
 case atStart=>exact⟨0,Nat.zero_le _,rfl,hide (fun j hj=>by omega)⟩
 case round=>
  obtain⟨k,hk,rfl,HA⟩:=hrel
  by_cases hlt:k<l.length
  ·have hx:=zaa HL k hlt
   obtain⟨x,ex⟩:∃x,x=l.getD k 0:=⟨_,rfl⟩
   rw [<-ex]at hx
   have HX:=hide ex
   have HP:=hide (zaa HC x)
   have Aa:(k:Int)<(l.length:Int):=by omega
   clear ex
   cases hp:p x with
   | true=>
    have HE:=hide (zaa HQ (.returned (.int .i64 k)) w ⟨by rw [zwI hlt (zaa HA) (by rw [<-zaa HX];exact hp)],rfl⟩)
    rw [hp]at HP
    clear hp HQ HC HL HA HX
    go_wp2_with fail
    refine (zaa HP).mono ?_
    rintro e w1 ⟨rfl,rfl⟩
    go_wp2_with fail
    exact zaa HE
   | false=>
    have Ba:=hide (show ∀j,j<k+1->p (l.getD j 0)=false from fun j hj=>by
     rcases Nat.lt_or_eq_of_le (Nat.le_of_lt_succ hj)with h | h
     ·exact zaa HA j h
     ·rw [h,<-zaa HX];exact hp)
    rw [hp]at HP
    clear hp HC HL HA HX
    go_wp2_with fail
    refine (zaa HP).mono ?_
    rintro e w1 ⟨rfl,rfl⟩
    go_wp2_with fail
    go_round
    case rel=>exact⟨k+1,by omega,by go_num,Ba⟩
    case measure=>simp [intOf];omega
  ·have e:k=l.length:=by omega
   subst e
   have HE:=hide (zaa HQ (.returned (.int .i64 (-1))) w ⟨by rw [zzA (zaa HA)],rfl⟩)
   have Aa:¬ (l.length:Int)<(l.length:Int):=by omega
   clear HQ HC HL HA
   go_wp2_with fail
   exact zaa HE
set_option maxHeartbeats 1600000 in
theorem zAL (F:FuncId) (pv:Xl) (hE:∀args w,(callFunc F args).run Tryz.prog w=.ok (.enter F args) w) (p:Int->Bool) (w:Xk) (b off cap:Nat) (l:Xg) (hok:okB l) (hl:l.length<=1500)
  (hcell:∀k,k<l.length->w.cell? ⟨b,off+k,none⟩=some (.int .u8 (l.getD k 0))) (hc:∀x,Calls Tryz.prog F #[.int .u8 x,pv] w fun e w'=>e=.returned (.bool (p x))∧w'=w) :
  Calls Tryz.prog 196 #[.slice (some ⟨b,off,none⟩) l.length cap,.func (.func F) #[] #[pv]] w fun e w'=>e=.returned (.int .i64 (ixV p l))∧w'=w:=by
 refine zaw ?_
 intro Q HQ
 have HC:=hide hc
 have HL:=hide hcell
 clear hc hcell
 go_enter Tryz.func196,Tryz.ntmps196
 go_wp2_with fail
 go_loop [8] (fun i=>∃k:Nat,k<=l.length∧i=.int .i64 k∧Hid (∀j,j<k->p (l.getD j 0)=false)) (fun i=>l.length-(intOf i).toNat)
 case atStart=>exact⟨0,Nat.zero_le _,rfl,hide (fun j hj=>by omega)⟩
 case round=>
  obtain⟨k,hk,rfl,HA⟩:=hrel
  by_cases hlt:k<l.length
  ·have hx:=zaa HL k hlt
   obtain⟨x,ex⟩:∃x,x=l.getD k 0:=⟨_,rfl⟩
   rw [<-ex]at hx
   have HX:=hide ex
   have HP:=hide (zaa HC x)
   have Aa:(k:Int)<(l.length:Int):=by omega
   clear ex
   cases hp:p x with
   | true=>
    have HE:=hide (zaa HQ (.returned (.int .i64 k)) w ⟨by rw [zwI hlt (zaa HA) (by rw [<-zaa HX];exact hp)],rfl⟩)
    rw [hp]at HP
    clear hp HQ HC HL HA HX
    go_wp2_with fail
    refine (zaa HP).mono ?_
    rintro e w1 ⟨rfl,rfl⟩
    go_wp2_with fail
    exact zaa HE
   | false=>
    have Ba:=hide (show ∀j,j<k+1->p (l.getD j 0)=false from fun j hj=>by
     rcases Nat.lt_or_eq_of_le (Nat.le_of_lt_succ hj)with h | h
     ·exact zaa HA j h
     ·rw [h,<-zaa HX];exact hp)
    rw [hp]at HP
    clear hp HC HL HA HX
    go_wp2_with fail
    refine (zaa HP).mono ?_
    rintro e w1 ⟨rfl,rfl⟩
    go_wp2_with fail
    go_round
    case rel=>exact⟨k+1,by omega,by go_num,Ba⟩
    case measure=>simp [intOf];omega
  ·have e:k=l.length:=by omega
   subst e
   have HE:=hide (zaa HQ (.returned (.int .i64 (-1))) w ⟨by rw [zzA (zaa HA)],rfl⟩)
   have Aa:¬ (l.length:Int)<(l.length:Int):=by omega
   clear HQ HC HL HA
   go_wp2_with fail
   exact zaa HE
end Go.Proofs.YtgjolijncmkkhaaGreatDoor
namespace Go.Proofs.YtgjolijncmkkhaaGreatDoor
open Go.RowKit
set_option linter.unusedVariables false
set_option maxRecDepth 100000
def rs0 (o1 o2 o3 o4 o5 o6 o7 o8:Xl):Array Xl:= #[o1,o2,o3,o4,o5,o6,o7,o8,.int .u32 0,.int .i32 0,.int .u32 0,.map none]
def rs1 (o1 o2 o3 o4 o5 o6 o7 o8:Xl) (m:Nat):Array Xl:= #[o1,o2,o3,o4,o5,o6,o7,o8,.int .u32 1,.int .i32 0,.int .u32 0,.map (some m)]
def zuW (B:Nat) (o1 o2 o3 o4 o5 o6 o7 o8:Xl) (w:Xk) (g:Nat):Prop:=∃m,B<=m∧Loc w g (rs1 o1 o2 o3 o4 o5 o6 o7 o8 m) 84∧w.heap[m]? = some zaK
def RSet (B:Nat) (o1 o2 o3 o4 o5 o6 o7 o8:Xl) (w:Xk) (g:Nat):Prop:=Loc w g (rs0 o1 o2 o3 o4 o5 o6 o7 o8) 84∨zuW B o1 o2 o3 o4 o5 o6 o7 o8 w g
theorem zvJ (o1 o2 o3 o4 o5 o6 o7 o8:Xl) (g:Nat) (w:Xk) (cs:Array Xl) (hl:Loc w g cs 84) (c3:Xl) (h3:w.cell? ⟨g,11,none⟩=some c3) :
  Calls Tryz.prog 108 #[.pointer (some ⟨g,8,none⟩)] w fun e w'=>e=.returned (.tuple #[])∧w'=(w.setCell ⟨g,11,none⟩ (.map (some w.heap.size))).alloc zaK:=by
 have Aa:= @run_makeMap Tryz.prog
 have h1:=zuc w
 have h2:=zun w
 have hg:=hl.lt
 have f3:=hl.frozen 11
 go_enter Tryz.func108,Tryz.ntmps108
 go_wp2
 go_end0
 exact⟨rfl,rfl⟩
set_option maxHeartbeats 1600000 in
theorem zwS (o1 o2 o3 o4 o5 o6 o7 o8:Xl) (g:Nat) (w:Xk) (hl:Loc w g (rs0 o1 o2 o3 o4 o5 o6 o7 o8) 84) :
  Calls Tryz.prog 149 #[.pointer (some ⟨g,8,none⟩),.func (.func 108) #[.pointer (some ⟨g,8,none⟩)] #[]] w fun e w'=>e=.returned (.tuple #[])∧∃m,w.heap.size<=m∧Loc w' g (rs1 o1 o2 o3 o4 o5 o6 o7 o8 m) 84∧w'.heap[m]? = some zaK∧Frm w w' [g]:=by
 have h1:w.cell? ⟨g,9,none⟩=some (.int .i32 0):=hl.cell 9
 have f1:=hl.frozen 9
 have l1:Loc (w.setCell ⟨g,9,none⟩ (.int .i32 1)) g #[o1,o2,o3,o4,o5,o6,o7,o8,.int .u32 0,.int .i32 1,.int .u32 0,.map none] 84:=hl.set 9 (.int .i32 1)
 have F1:=Frm.set w g 9 (.int .i32 1)
 have Ia:∀(x:Bool) (w:Xk),(Op.unary .not (.bool x)).run Tryz.prog w=.ok (.bool (!x)) w:=fun _ _=>rfl
 go_enter_defers Tryz.func149,Tryz.ntmps149
 go_wp2_with (go_at_call 178;refine (zid ⟨g,9,none⟩ _ (by go_simp) (by go_simp)).mono ?_;rintro e w' ⟨rfl,rfl⟩)
 generalize w.setCell ⟨g,9,none⟩ (.int .i32 1)=w1 at *
 refine (zcr ⟨g,8,none⟩ 0 w1 (l1.cell 8) false (by simp)).mono ?_
 rintro e w1 ⟨rfl,rfl⟩
 go_wp2_with fail
 refine (zvJ o1 o2 o3 o4 o5 o6 o7 o8 g w1 _ l1 _ (l1.cell 11)).mono ?_
 rintro e w2 ⟨rfl,Aa⟩
 have l2:Loc w2 g #[o1,o2,o3,o4,o5,o6,o7,o8,.int .u32 0,.int .i32 1,.int .u32 0,.map (some w1.heap.size)] 84:=by rw [Aa];exact (l1.set 11 (.map (some w1.heap.size))).alloc _
 have m2:w2.heap[w1.heap.size]? = some zaK:=by rw [Aa];have:=heap_alloc_new (w1.setCell ⟨g,11,none⟩ (.map (some w1.heap.size))) zaK;rwa [show (w1.setCell ⟨g,11,none⟩ (.map (some w1.heap.size))).heap.size=w1.heap.size by simp]at this
 have F2:Frm w1 w2 [g]:=by rw [Aa];exact (Frm.set w1 g 11 _).trans (Frm.alloc _ _ _)
 have Fa:w1.heap.size≠g:=by have:=l1.lt;omega
 have Ga:=F1.trans F2
 have Ha:=F1.size
 clear Aa
 generalize w1.heap.size=m at *
 go_wp2_with fail
 refine leaves_cons (f:=180) (args:= #[.pointer (some ⟨g,8,none⟩),.bool true]) (by simp) (by simp [go_sem]) ?_
 refine (zeg ⟨g,8,none⟩ (.int .u32 0) .returning _ (l2.cell 8) (l2.frozen 8)).mono ?_
 rintro e u' w3 ⟨rfl,rfl,Ba⟩
 have ld:Loc w2.drew g #[o1,o2,o3,o4,o5,o6,o7,o8,.int .u32 0,.int .i32 1,.int .u32 0,.map (some m)] 84:=l2.frm (Frm.drew w2 []) (by simp)
 have l3:Loc w3 g #[o1,o2,o3,o4,o5,o6,o7,o8,.int .u32 1,.int .i32 1,.int .u32 0,.map (some m)] 84:=by rw [Ba];exact ld.set 8 (.int .u32 1)
 have F3:Frm w2 w3 [g]:=by rw [Ba];exact (Frm.drew w2 _).trans (Frm.set _ g 8 _)
 clear Ba
 refine leaves_cons (f:=179) (args:= #[.pointer (some ⟨g,9,none⟩)]) (by simp [settle]) (by simp [go_sem]) ?_
 refine (zef ⟨g,9,none⟩ _ _ (l3.cell 9) (l3.frozen 9)).mono ?_
 rintro e u' w4 ⟨rfl,rfl,Ca⟩
 have l4:Loc w4 g (rs1 o1 o2 o3 o4 o5 o6 o7 o8 m) 84:=by rw [Ca];exact l3.set 9 (.int .i32 0)
 have F4:Frm w3 w4 [g]:=by rw [Ca];exact Frm.set _ g 9 _
 have hm:m<w2.heap.size:=by
  by_cases h:m<w2.heap.size
  ·exact h
  ·rw [Array.getElem?_eq_none (by omega)]at m2;cases m2
 have Da:=F3.trans F4
 have m4:w4.heap[m]? = some zaK:=(Da.block m hm (by simpa using Fa)).trans m2
 simp [Leaves,settle,results,Tryz.results149]
 exact⟨m,Ha,l4,m4,Ga.trans Da⟩
theorem zAl (B:Nat) (o1 o2 o3 o4 o5 o6 o7 o8:Xl) (g:Nat) (w:Xk) (h:RSet B o1 o2 o3 o4 o5 o6 o7 o8 w g) (hB:B<=w.heap.size) :
  Calls Tryz.prog 107 #[.pointer (some ⟨g,8,none⟩),.func (.func 108) #[.pointer (some ⟨g,8,none⟩)] #[]] w fun e w'=>e=.returned (.tuple #[])∧zuW B o1 o2 o3 o4 o5 o6 o7 o8 w' g∧Frm w w' [g]:=by
 have Ba:∀(x:Bool) (w:Xk),(Op.unary .not (.bool x)).run Tryz.prog w=.ok (.bool (!x)) w:=fun _ _=>rfl
 rcases h with hl | ⟨m,Aa,hl,hm⟩
 ·have h0:w.cell? ⟨g,8,none⟩=some (.int .u32 0):=hl.cell 8
  go_enter Tryz.func107,Tryz.ntmps107
  go_wp2_with fail
  refine (zcr ⟨g,8,none⟩ 0 w h0 false (by simp)).mono ?_
  rintro e w ⟨rfl,rfl⟩
  go_wp2_with fail
  refine (zwS o1 o2 o3 o4 o5 o6 o7 o8 g w hl).mono ?_
  rintro e w' ⟨rfl,m,Aa,l',m',F'⟩
  go_wp2_with fail
  go_end0
  exact⟨rfl,⟨m,Nat.le_trans hB Aa,l',m'⟩,F'⟩
 ·have h0:w.cell? ⟨g,8,none⟩=some (.int .u32 1):=hl.cell 8
  go_enter Tryz.func107,Tryz.ntmps107
  go_wp2_with fail
  refine (zcr ⟨g,8,none⟩ 1 w h0 true (by simp)).mono ?_
  rintro e w ⟨rfl,rfl⟩
  go_wp2_with fail
  go_end0
  exact⟨rfl,⟨m,Aa,hl,hm⟩,Frm.refl _ _⟩
open Classical in
set_option maxHeartbeats 1600000 in
theorem zyj (B:Nat) (o1 o2 o3 o4 o5 o6 o7 o8:Xl) (g:Nat) (w:Xk) (v:Xl) (l:Xg) (h:RSet B o1 o2 o3 o4 o5 o6 o7 o8 w g) (hBB:B<=w.heap.size) (hv:∀w',Frm w w' [g]->Byt w' v l) :
  Calls Tryz.prog 60 #[.pointer (some ⟨g,8,none⟩),v] w fun e w'=>e=.returned (.bool (decide (Void l)))∧zuW B o1 o2 o3 o4 o5 o6 o7 o8 w' g∧Frm w w' [g]:=by
 have Da:∀(fn:Fn) (first cap:Array Xl) (w:Xk),(Instr.makeFunc fn first cap).run Tryz.prog w=.ok (.func fn first cap) w:=fun _ _ _ _=>rfl
 have hg:g<w.heap.size:=by
  rcases h with h | ⟨m,_,h,_⟩
  ·exact h.lt
  ·exact h.lt
 obtain⟨a1,k1,rfl,_⟩:=(hv w (Frm.refl _ _)).shape
 have HV:=hide hv
 clear hv
 go_enter Tryz.func60,Tryz.ntmps60
 go_wp2_with fail
 refine (zAl B o1 o2 o3 o4 o5 o6 o7 o8 g w h hBB).mono ?_
 rintro e w1 ⟨rfl,⟨m,Ca,l1,m1⟩,F1⟩
 have h3:w1.cell? ⟨g,11,none⟩=some (.map (some m)):=l1.cell 11
 have Ga:w1.drew.cell? ⟨g,11,none⟩=some (.map (some m)):=l1.cell 11
 have Fa:(w1.alloc (.cells #[] 68)).cell? ⟨g,11,none⟩=some (.map (some m)):=(l1.alloc _).cell 11
 have Ba:m<w1.heap.size:=by
  by_cases h:m<w1.heap.size
  ·exact h
  ·rw [Array.getElem?_eq_none (by omega)]at m1;cases m1
 have Aa:Byt w1 _ l:=zaa HV w1 F1
 have c1:=zbf w1.drew _ l (Aa.keep ((Below.refl _ _).drew))
 have c2:=zbf (w1.alloc (.cells #[] 68)).drew _ l (Aa.keep (((Below.refl _ _).alloc (Nat.le_refl _) _).drew))
 have q1:=fun s=>zdI w1.drew m s m1
 have q2:=fun s=>zdI (w1.alloc (.cells #[] 68)).drew m s ((heap_alloc_old w1 _ Ba).trans m1)
 have HS:=hide (ziR l Aa.1)
 generalize str l=s at *
 generalize l.length=n at *
 go_wp2_with fail
 go_region
 all_goals
  go_wp2_with fail
  go_ret
  exact⟨by rw [<-zaa HS];rfl,⟨m,Ca,(l1.alloc _).all ((Below.refl _ _).drew),(heap_alloc_old w1 _ Ba).trans m1⟩,F1.trans ((Frm.alloc w1 _ _).trans (Frm.drew _ _))⟩
end Go.Proofs.YtgjolijncmkkhaaGreatDoor
namespace Go.Proofs.YtgjolijncmkkhaaGreatDoor
open Go.RowKit Go.Maps
set_option linter.unusedVariables false
set_option maxRecDepth 100000
theorem RSet.loc {B:Nat} {o1 o2 o3 o4 o5 o6 o7 o8:Xl} {w:Xk} {g:Nat} (h:RSet B o1 o2 o3 o4 o5 o6 o7 o8 w g):∃c1 c2 c3 c4,Loc w g #[o1,o2,o3,o4,o5,o6,o7,o8,c1,c2,c3,c4] 84:=by
 rcases h with h | ⟨m,_,h,_⟩
 ·exact⟨_,_,_,_,h⟩
 ·exact⟨_,_,_,_,h⟩
theorem RSet.frm {B:Nat} {o1 o2 o3 o4 o5 o6 o7 o8:Xl} {w w':Xk} {g:Nat} {S:Xh} (h:RSet B o1 o2 o3 o4 o5 o6 o7 o8 w g) (f:Frm w w' S) (hg:g∉S) (hS:∀q∈S,q<B∨Cells w q):RSet B o1 o2 o3 o4 o5 o6 o7 o8 w' g:=by
 rcases h with h | ⟨m,hm,h,hv⟩
 ·exact .inl (h.frm f hg)
 ·have Aa:m<w.heap.size:=by
   by_cases e:m<w.heap.size
   ·exact e
   ·rw [Array.getElem?_eq_none (by omega)]at hv;cases hv
  refine .inr ⟨m,hm,h.frm f hg,(f.block m Aa (fun e=> ?_)).trans hv⟩
  rcases hS m e with e' | ⟨cs,T,fz,e'⟩
  ·omega
  ·obtain⟨es,c,ev⟩:=zro
   rw [hv,ev]at e'
   cases e'
theorem RSet.keep {B:Nat} {o1 o2 o3 o4 o5 o6 o7 o8:Xl} {w w':Xk} {g:Nat} (h:RSet B o1 o2 o3 o4 o5 o6 o7 o8 w g) (hb:Below w.heap.size w w'):RSet B o1 o2 o3 o4 o5 o6 o7 o8 w' g:=h.frm (Frm.ofBelow hb []) (by simp) (fun q hq=>by cases hq)
theorem RSet.put {B:Nat} {o1 o2 o3 o4 o5 o6 o7 o8:Xl} {w:Xk} {g:Nat} (h:RSet B o1 o2 o3 o4 o5 o6 o7 o8 w g) (v:Xl) :
  RSet B o1 v o3 o4 o5 o6 o7 o8 (w.setCell ⟨g,1,none⟩ v) g∧RSet B o1 o2 v o4 o5 o6 o7 o8 (w.setCell ⟨g,2,none⟩ v) g∧RSet B o1 o2 o3 v o5 o6 o7 o8 (w.setCell ⟨g,3,none⟩ v) g∧RSet B o1 o2 o3 o4 v o6 o7 o8 (w.setCell ⟨g,4,none⟩ v) g∧RSet B o1 o2 o3 o4 o5 v o7 o8 (w.setCell ⟨g,5,none⟩ v) g∧RSet B o1 o2 o3 o4 o5 o6 v o8 (w.setCell ⟨g,6,none⟩ v) g∧RSet B o1 o2 o3 o4 o5 o6 o7 v (w.setCell ⟨g,7,none⟩ v) g:=by
 rcases h with h | ⟨m,hm,h,hv⟩
 ·exact⟨.inl (h.set 1 v),.inl (h.set 2 v),.inl (h.set 3 v),.inl (h.set 4 v),.inl (h.set 5 v),.inl (h.set 6 v),.inl (h.set 7 v)⟩
 ·have Aa:m≠g:=fun e=>by
   unfold Loc at h
   obtain⟨es,c,ev⟩:=zro
   rw [<-e,hv,ev]at h
   cases h
  have hk:∀j,(w.setCell ⟨g,j,none⟩ v).heap[m]? = some zaK:=fun j=>(heap_setCell_other w ⟨g,j,none⟩ m v Aa).trans hv
  exact⟨.inr ⟨m,hm,h.set 1 v,hk 1⟩,.inr ⟨m,hm,h.set 2 v,hk 2⟩,.inr ⟨m,hm,h.set 3 v,hk 3⟩,.inr ⟨m,hm,h.set 4 v,hk 4⟩,.inr ⟨m,hm,h.set 5 v,hk 5⟩,.inr ⟨m,hm,h.set 6 v,hk 6⟩,.inr ⟨m,hm,h.set 7 v,hk 7⟩⟩
theorem RSet.cells {B:Nat} {o1 o2 o3 o4 o5 o6 o7 o8:Xl} {w:Xk} {g:Nat} (h:RSet B o1 o2 o3 o4 o5 o6 o7 o8 w g):w.cell? ⟨g,0,none⟩=some o1∧w.cell? ⟨g,1,none⟩=some o2∧w.cell? ⟨g,2,none⟩=some o3∧w.cell? ⟨g,3,none⟩=some o4∧w.cell? ⟨g,4,none⟩=some o5∧w.cell? ⟨g,5,none⟩=some o6∧w.cell? ⟨g,6,none⟩=some o7∧w.cell? ⟨g,7,none⟩=some o8∧∀j,w.frozen? ⟨g,j,none⟩=false:=by
 obtain⟨_,_,_,_,l⟩:=h.loc
 exact⟨l.cell 0,l.cell 1,l.cell 2,l.cell 3,l.cell 4,l.cell 5,l.cell 6,l.cell 7,l.frozen⟩
end Go.Proofs.YtgjolijncmkkhaaGreatDoor
namespace Go.Proofs.YtgjolijncmkkhaaGreatDoor
open Go.RowKit
set_option linter.unusedVariables false
set_option maxRecDepth 100000
theorem zot {w:Xk} {b off cap:Nat} {l:Xg} (h:Byt w (.slice (some ⟨b,off,none⟩) l.length cap) l) (h0:l≠[]) (j:Nat) (hj:j<=l.length):Byt w (.slice (some ⟨b,off,none⟩) j cap) (l.take j):=by
 have hl:(l.take j).length=j:=by simp;omega
 obtain⟨Ca,hm,⟨e,_⟩ | ⟨x,c,e,hc,e2⟩ | ⟨b',Aa,Ba,e,h1,h2,h3,h4,h5⟩⟩:=h
 ·cases e
 ·exact absurd e2 h0
 simp only [Value.slice.injEq,Option.some.injEq,Addr.mk.injEq,true_and,and_true]at e
 obtain⟨⟨rfl,rfl⟩,rfl⟩:=e
 by_cases hz:j=0
 ·subst hz
  exact⟨by simpa using zaI,by simp [maxLen],.inr (.inl ⟨_,cap,rfl,h2,by simp⟩)⟩
 ·refine⟨Ca.take j,by omega,.inr (.inr ⟨b,off,cap,by rw [hl],by omega,h2,fun e=>by rw [e]at hl;simp at hl;omega,h4,fun i hi=> ?_⟩)⟩
  rw [h5 i (by omega),List.getD_eq_getElem?_getD,List.getD_eq_getElem?_getD,List.getElem?_take,if_pos (by omega)]
set_option maxHeartbeats 1600000 in
theorem zhu (w:Xk) (b off cap:Nat) (l:Xg) (hu:Byt w (.slice (some ⟨b,off,none⟩) l.length cap) l) (h0:l≠[]) (hc:l.length<=cap) (a:Xi) (c:Nat) (p:Xg) (hv:Byt w (.slice a p.length c) p) (hl:l.length<=1500) (hp:p.length<=100) :
  Calls Tryz.prog 145 #[.slice (some ⟨b,off,none⟩) l.length cap,.slice a p.length c] w fun e w'=>e=.returned (.bool (decide (p.length<=l.length∧l.take p.length=p)))∧w'=w:=by
 by_cases e:p.length<=l.length
 ·have q1:(p.length:Int)<=(l.length:Int):=by omega
  have q2:(p.length:Int)<=(cap:Int):=by omega
  have q3:(0:Int)<=(p.length:Int):=by omega
  have HC:=hide (zdd w _ _ _ _ (zot hu h0 p.length e) hv)
  have e':decide (p.length<=l.length∧l.take p.length=p)=decide (l.take p.length=p):=by simp [e]
  rw [e']
  clear hu hv e' e
  generalize l.take p.length=z at *
  go_enter Tryz.func145,Tryz.ntmps145
  go_wp2_with fail
  refine (zaa HC).mono ?_
  rintro e w1 ⟨rfl,rfl⟩
  go_wp2_with fail
  go_ret
  exact⟨rfl,rfl⟩
 ·have q1:¬ (p.length:Int)<=(l.length:Int):=by omega
  have e':decide (p.length<=l.length∧l.take p.length=p)=false:=by simp [e]
  rw [e']
  clear hu hv e' e
  go_enter Tryz.func145,Tryz.ntmps145
  go_wp2_with fail
  go_ret
  exact⟨rfl,rfl⟩
theorem Byt.row {w:Xk} {b off cap:Nat} {l:Xg} (h:Byt w (.slice (some ⟨b,off,none⟩) l.length cap) l) (h0:l≠[]):l.length<=cap∧cap<=maxLen∧b<w.heap.size∧∀k,k<l.length->w.cell? ⟨b,off+k,none⟩=some (.int .u8 (l.getD k 0)):=by
 obtain⟨Ca,hm,⟨e,_⟩ | ⟨x,c,e,hc,e2⟩ | ⟨b',Aa,Ba,e,h1,h2,h3,h4,h5⟩⟩:=h
 ·cases e
 ·exact absurd e2 h0
 simp only [Value.slice.injEq,Option.some.injEq,Addr.mk.injEq,true_and,and_true]at e
 obtain⟨⟨rfl,rfl⟩,rfl⟩:=e
 exact⟨h1,h2,h4,h5⟩
theorem Byt.at' {w:Xk} {b off cap:Nat} {l:Xg} (h:Byt w (.slice (some ⟨b,off,none⟩) l.length cap) l) (h0:l≠[]) (k:Nat) (hk:k<l.length):w.cell? ⟨b,off+k,none⟩=some (.int .u8 (l.getD k 0)):=(h.row h0).2.2.2 k hk
theorem Byt.dropR {w:Xk} {b off cap:Nat} {l:Xg} (h:Byt w (.slice (some ⟨b,off,none⟩) l.length cap) l) (h0:l≠[]) (hc:l.length<=cap) (k:Nat) (hk:k<l.length):Byt w (.slice (some ⟨b,off+k,none⟩) (l.drop k).length (cap-k)) (l.drop k):=by
 obtain⟨h1,h2,h3,h4⟩:=h.row h0
 refine⟨fun x hx=>h.1 x (List.mem_of_mem_drop hx),by have:=h.2.1;simp;omega,.inr (.inr ⟨b,off+k,cap-k,rfl,by simp;omega,by omega,fun e=>by have:=congrArg List.length e;simp at this;omega,h3,fun i hi=> ?_⟩)⟩
 have Aa:k+i<l.length:=by simp at hi;omega
 rw [Nat.add_assoc,h4 (k+i) Aa]
 simp [List.getD_eq_getElem?_getD]
theorem zdA (w:Xk) (l:Xg) (hok:okB l) (h0:l≠[]) (hl:l.length<=100):∃w',(convert 22 22 (.slice (some ⟨w.heap.size,0,none⟩) l.length l.length)).run Tryz.prog (w.alloc (.cells (vals l).toArray 5))=.ok (.slice (some ⟨w.heap.size,0,none⟩) l.length l.length) w'∧Below w.heap.size w w'∧Byt w' (.slice (some ⟨w.heap.size,0,none⟩) l.length l.length) l:=by
 have h:=Loc.made w (vals l).toArray 5
 have Aa:(w.alloc (.cells (vals l).toArray 5)).shape? w.heap.size=some (5,l.length):=by unfold World.shape?;unfold Loc at h;rw [h];simp [zbu]
 have Ba:((w.alloc (.cells (vals l).toArray 5)).freeze ⟨w.heap.size,l.length,none⟩ 1).heap.size=w.heap.size+1:=by
  unfold World.freeze
  rw [if_neg (by decide)]
  simp
 refine⟨(w.alloc (.cells (vals l).toArray 5)).freeze ⟨w.heap.size,l.length,none⟩ 1,?_,?_,?_⟩
 ·simp [convert,run_underlying Tryz.underlying22,run_underlying Tryz.underlying5,markStringish,Aa]
 ·refine⟨?_,?_,?_,by omega,fun k hk=> ?_⟩
  ·unfold World.freeze
   rw [if_neg (by decide)]
   rfl
  ·unfold World.freeze
   rw [if_neg (by decide)]
   rfl
  ·unfold World.freeze
   rw [if_neg (by decide)]
   rfl
  ·refine Eq.trans ?_ (heap_alloc_old w (.cells (vals l).toArray 5) hk)
   unfold World.freeze
   rw [if_neg (by decide)]
   show (Array.modify _ w.heap.size _)[k]? = _
   rw [Array.getElem?_modify,if_neg (by omega)]
 ·refine⟨hok,by unfold maxLen;omega,.inr (.inr ⟨_,0,l.length,rfl,Nat.le_refl _,by unfold maxLen;omega,h0,by omega,fun k hk=> ?_⟩)⟩
  have hr:((w.alloc (.cells (vals l).toArray 5)).freeze ⟨w.heap.size,l.length,none⟩ 1).heap[w.heap.size]? = some (.cells (vals l).toArray 5 (l.length,l.length+1)):=by
   unfold World.freeze
   rw [if_neg (by decide)]
   show (Array.modify _ w.heap.size _)[w.heap.size]? = _
   unfold Loc at h
   rw [Array.getElem?_modify,if_pos rfl,h]
   rfl
  rw [cell_of_row _ _ _ _ _ _ hr]
  simp [vals,List.getD_eq_getElem?_getD,hk]
end Go.Proofs.YtgjolijncmkkhaaGreatDoor
namespace Go.Proofs.YtgjolijncmkkhaaGreatDoor
open Go.RowKit Go.Maps
set_option linter.unusedVariables false
set_option maxRecDepth 100000
theorem Byt.some' {w:Xk} {a:Xi} {n cap:Nat} {l:Xg} (h:Byt w (.slice a n cap) l) (h0:l≠[]):∃b off,a=some ⟨b,off,none⟩:=by
 obtain⟨Ca,hm,⟨e,e2⟩ | ⟨y,c,e,hc,e2⟩ | ⟨b',Aa,Ba,e,h1,h2,h3,h4,h5⟩⟩:=h
 ·exact absurd e2 h0
 ·exact absurd e2 h0
 ·injection e with e _ _
  exact⟨_,_,e⟩
theorem zwj {l:Xg} {k:Nat} (hk:k<l.length):(l.drop k).head? = some (l.getD k 0):=by
 rw [List.head?_drop,zdC hk,List.getElem?_eq_getElem hk]
theorem zem {l:Xg} {k:Nat} (hk:k=l.length):l.drop k=[]:=List.drop_eq_nil_iff.2 (by omega)
def toK (k:Nat) (b:Bool):Nat:=if b=true then k+1 else k
set_option maxHeartbeats 3200000 in
theorem zve {B:Nat} {o3 o4 o5 o6 o7 o8:Xl} {w:Xk} {g k cap:Nat} {a:Xi} {l:Xg} (h:RSet B (.slice a l.length cap) (.int .i64 k) o3 o4 o5 o6 o7 o8 w g) (hb:Byt w (.slice a l.length cap) l) (hk:k<=l.length) (hn:l.length<=1500) (x:Int) :
  Calls Tryz.prog 141 #[.pointer (some ⟨g,0,none⟩),.int .u8 x] w fun e w'=>e=.returned (.bool (decide ((l.drop k).head? = some x)))∧RSet B (.slice a l.length cap) (.int .i64 (toK k (decide ((l.drop k).head? = some x)):Nat)) o3 o4 o5 o6 o7 o8 w' g∧Frm w w' [g]:=by
 refine zaw ?_
 intro Q HQ
 have hd:=fun n_=>below_drewN (Below.refl w.heap.size w) n_
 obtain⟨c0,c1,_,_,_,_,_,_,fz⟩:=h.cells
 have f1:=fz 1
 by_cases hlt:k<l.length
 ·have h0:l≠[]:=by intro e;rw [e]at hlt;simp at hlt
  obtain⟨b',Ca,rfl⟩:=hb.some' h0
  have hy:=hb.at' h0 k hlt
  have Fa:(0:Int)<=(k:Int):=by omega
  have Da:(k:Int)<(l.length:Int):=by omega
  have Ba:((k:Int) == (l.length:Int))=false:=by simp;omega
  have e0:decide ((l.drop k).head? = some x)=decide (l.getD k 0=x):=by rw [zwj hlt];simp
  rw [e0]at HQ
  generalize l.getD k 0=y at *
  by_cases e:y=x
  ·subst e
   have q:(y != y)=false:=by simp
   have HE:=hide (fun n_=>zaa HQ (.returned (.bool true)) ((w.drewN n_).setCell ⟨g,1,none⟩ (.int .i64 ((k:Int)+1))) ⟨by simp,by rw [decide_eq_true rfl];exact ((h.keep (hd n_)).put _).1,(Frm.ofBelow (hd n_) _).trans (Frm.set _ g 1 _)⟩)
   clear HQ h fz hd hb
   go_enter Tryz.func141,Tryz.ntmps141
   go_upto_region 1 with fail
   go_quiet (fail)
   go_wp2_with fail
   exact zaa HE _
  ·have q:(y != x)=true:=by simpa using e
   have HE:=hide (fun n_=>zaa HQ (.returned (.bool false)) (w.drewN n_) ⟨by simp [e],by rw [decide_eq_false e];exact h.keep (hd n_),Frm.ofBelow (hd n_) _⟩)
   clear HQ h fz hd hb
   go_enter Tryz.func141,Tryz.ntmps141
   go_upto_region 1 with fail
   go_quiet (fail)
   go_wp2_with fail
   exact zaa HE _
 ·have Aa:k=l.length:=by omega
  have Ba:((k:Int) == (l.length:Int))=true:=by simp;omega
  have e0:decide ((l.drop k).head? = some x)=false:=by rw [zem Aa];rfl
  rw [e0]at HQ
  have HE:=hide (fun n_=>zaa HQ (.returned (.bool false)) (w.drewN n_) ⟨rfl,h.keep (hd n_),Frm.ofBelow (hd n_) _⟩)
  clear HQ h fz hd hb Aa hlt
  go_enter Tryz.func141,Tryz.ntmps141
  go_upto_region 1 with fail
  go_quiet (fail)
  go_wp2_with fail
  exact zaa HE _
theorem zAq (p:Int->Bool) (l:Xg):(upL p l).1=l.take (upL p l).1.length:=List.prefix_iff_eq_take.1 (List.takeWhile_prefix _)
theorem zfX (p:Int->Bool) (l:Xg):(upL p l).1.length<=l.length:=(List.takeWhile_prefix _).length_le
theorem zmU (p:Int->Bool) (l:Xg):(upL p l).2=l.drop (upL p l).1.length:=by
 have h:(upL p l).1++(upL p l).2=l:=List.takeWhile_append_dropWhile
 have h2:=congrArg (List.drop (upL p l).1.length) h
 rw [List.drop_left]at h2
 exact h2
theorem Byt.frmA {w w':Xk} {a:Xi} {n c:Nat} {l:Xg} {S:Xh} (h:Byt w (.slice a n c) l) (f:Frm w w' S) (hd:∀x,a=some x->l≠[]->x.block∉S):Byt w' (.slice a n c) l:=by
 obtain⟨Aa,hm,h1 | h2 | ⟨b,Ba,Ca,e,h1,h2,h3,h4,h5⟩⟩:=h
 ·exact⟨Aa,hm,.inl h1⟩
 ·exact⟨Aa,hm,.inr (.inl h2)⟩
 ·cases e
  exact⟨Aa,hm,.inr (.inr ⟨b,Ba,c,rfl,h1,h2,h3,Nat.lt_of_lt_of_le h4 f.size,fun i hi=>(World.cell?_of_block (f.block b h4 (hd _ rfl h3))).trans (h5 i hi)⟩)⟩
set_option maxHeartbeats 3200000 in
theorem znz {B:Nat} {o3 o4 o5 o6 o7 o8:Xl} {w:Xk} {g k cap:Nat} {a:Xi} {l:Xg} (h:RSet B (.slice a l.length cap) (.int .i64 k) o3 o4 o5 o6 o7 o8 w g) (hb:Byt w (.slice a l.length cap) l) (hag:∀x,a=some x->l≠[]->x.block≠g) (hk:k<=l.length) (hn:l.length<=1500) (F:FuncId) (cp:Array Xl) (p:Int->Bool)
  (hix:∀n_ a' c',Byt (w.drewN n_) (.slice a' (l.drop k).length c') (l.drop k)->Calls Tryz.prog 196 #[.slice a' (l.drop k).length c',.func (.func F) #[] cp] (w.drewN n_) fun e w'=>e=.returned (.int .i64 (ixV p (l.drop k)))∧w'=w.drewN n_) :
  Calls Tryz.prog 169 #[.pointer (some ⟨g,0,none⟩),.func (.func F) #[] cp] w fun e w'=>∃a' c',e=.returned (.slice a' (upL p (l.drop k)).1.length c')∧(∀W,Frm w' W [g]->Byt W (.slice a' (upL p (l.drop k)).1.length c') (upL p (l.drop k)).1)∧RSet B (.slice a l.length cap) (.int .i64 ((k+(upL p (l.drop k)).1.length:Nat):Int)) o3 o4 o5 o6 o7 o8 w' g∧Frm w w' [g]:=by
 refine zaw ?_
 intro Q HQ
 have hd:∀n_,Below w.heap.size w (w.drewN n_):=fun n_=>below_drewN (Below.refl w.heap.size w) n_
 obtain⟨c0,c1,_,_,_,_,_,_,fz⟩:=h.cells
 have f1:=fz 1
 have k0:(0:Int)<=(k:Int):=by omega
 have k1:(k:Int)<=(l.length:Int):=by omega
 have Ca:=zAq p (l.drop k)
 have Ba:=zfX p (l.drop k)
 have el:(l.drop k).length=l.length-k:=List.length_drop
 obtain⟨_,_,e0,La,Na⟩:=hb.shape
 cases e0
 have k2:(l.length:Int)<=(cap:Int):=by omega
 by_cases hlt:k<l.length
 ·have h0:l≠[]:=by intro e;rw [e]at hlt;simp at hlt
  obtain⟨bb,Fa,rfl⟩:=hb.some' h0
  have Ga:=hb.dropR h0 La k hlt
  have q3:¬ cap=k:=by omega
  have Ia:l.drop k≠[]:=by intro e;rw [e]at el;simp at el;omega
  have Aa:=fun n_=>hix n_ _ _ (Ga.keep (hd n_))
  rw [el]at Aa
  obtain⟨m,em⟩:∃m,m=(upL p (l.drop k)).1.length:=⟨_,rfl⟩
  have Ha:∀n_,Byt ((w.drewN n_).setCell ⟨g,1,none⟩ (.int .i64 ((k:Int)+(m:Int)))) (.slice (some ⟨bb,Fa+k,none⟩) m (cap-k)) (upL p (l.drop k)).1:=fun n_=>by
   have:=zot (Ga.keep (hd n_)) Ia m (by omega)
   rw [em,<-Ca,<-em]at this
   exact this.frmA (Frm.set _ g 1 _) (fun x hx _=>by cases hx;simpa using hag _ rfl h0)
  have HE:=hide (fun n_=>zaa HQ (.returned (.slice (some ⟨bb,Fa+k,none⟩) m (cap-k))) ((w.drewN n_).setCell ⟨g,1,none⟩ (.int .i64 ((k:Int)+(m:Int)))) ⟨some ⟨bb,Fa+k,none⟩,cap-k,by rw [em],by rw [<-em];exact fun W hW=>(Ha n_).frmA hW (fun x hx _=>by cases hx;simpa using hag _ rfl h0),by rw [<-em];exact ((h.keep (hd n_)).put _).1,(Frm.ofBelow (hd n_) _).trans (Frm.set _ g 1 _)⟩)
  rw [<-em]at Ba
  by_cases hall:m=l.length-k
  ·have hv:ixV p (l.drop k) = -1:=by unfold ixV;rw [<-em,el,if_pos hall]
   simp only [hv]at Aa
   have HI:=hide Aa
   subst hall
   clear HQ h fz hd hb Ga hix Aa Ha Ca Ba em el hv Ia hag
   go_enter Tryz.func169,Tryz.ntmps169
   go_upto_region 1 with fail
   go_quiet (fail)
   go_wp2_with fail
   refine (zaa HI _).mono ?_
   rintro e w1 ⟨rfl,rfl⟩
   go_wp2_with fail
   exact zaa HE _
  ·have hv:ixV p (l.drop k)=(m:Int):=by unfold ixV;rw [<-em,el,if_neg hall]
   simp only [hv]at Aa
   have HI:=hide Aa
   have q4:(m:Int)<=((cap-k:Nat):Int):=by omega
   have q5:(m:Int)<=1500:=by omega
   have q6:(0:Int)<=(m:Int):=by omega
   clear HQ h fz hd hb Ga hix Aa Ha Ca Ba em el hv Ia hag hall
   go_enter Tryz.func169,Tryz.ntmps169
   go_upto_region 1 with fail
   go_quiet (fail)
   go_wp2_with fail
   refine (zaa HI _).mono ?_
   rintro e w1 ⟨rfl,rfl⟩
   go_wp2_with fail
   exact zaa HE _
 ·have Ja:k=l.length:=by omega
  have Da:=zem Ja
  rw [Da]at hix HQ
  have hv:ixV p [] = -1:=rfl
  have Oa:(upL p []).1.length=0:=rfl
  rw [hv]at hix
  subst Ja
  cases a with
  | none=>
   obtain⟨_,_,⟨e,e2⟩ | ⟨y,c,e,hc,e2⟩ | ⟨bb,Fa,Ka,e,_⟩⟩:=hb
   ·injection e with _ e3 e4
    subst e4
    have hz:∀W,Byt W (.slice none 0 0) []:=fun W=>⟨zaI,by simp [maxLen],.inl ⟨rfl,rfl⟩⟩
    have HI:=hide (fun n_=>hix n_ none 0 (hz _))
    have HE:=hide (fun n_=>zaa HQ (.returned (.slice none 0 0)) ((w.drewN n_).setCell ⟨g,1,none⟩ (.int .i64 (l.length:Int))) ⟨none,0,rfl,fun _ _=>hz _,((h.keep (hd n_)).put _).1,(Frm.ofBelow (hd n_) _).trans (Frm.set _ g 1 _)⟩)
    obtain⟨n0,en⟩:∃n0,n0=l.length:=⟨_,rfl⟩
    have Ma:n0=0:=by rw [en];simpa using congrArg List.length e2
    simp only [<-en]at *
    subst Ma
    clear en
    clear HQ h fz hd hix hag Ca Ba el Da
    go_enter Tryz.func169,Tryz.ntmps169
    go_upto_region 1 with fail
    go_quiet (fail)
    go_wp2_with fail
    refine (zaa HI _).mono ?_
    rintro e w1 ⟨rfl,rfl⟩
    go_wp2_with fail
    exact zaa HE _
   ·cases e
   ·cases e
  | some x=>
   have hz:∀W y,Byt W (.slice (some y) 0 (cap-l.length)) []:=fun W y=>⟨zaI,by simp [maxLen],.inr (.inl ⟨y,_,rfl,by omega,rfl⟩)⟩
   have HI:=hide (fun n_ y=>hix n_ (some y) (cap-l.length) (hz _ y))
   have HE:=hide (fun n_ y=>zaa HQ (.returned (.slice (some y) 0 (cap-l.length))) ((w.drewN n_).setCell ⟨g,1,none⟩ (.int .i64 (l.length:Int))) ⟨some y,cap-l.length,rfl,fun _ _=>hz _ y,((h.keep (hd n_)).put _).1,(Frm.ofBelow (hd n_) _).trans (Frm.set _ g 1 _)⟩)
   by_cases hck:cap=l.length
   ·subst hck
    simp only [Nat.sub_self]at HI HE
    clear HQ h fz hd hix hag Ca Ba el Da hb
    go_enter Tryz.func169,Tryz.ntmps169
    go_upto_region 1 with fail
    go_quiet (fail)
    go_wp2_with fail
    refine (zaa HI _ _).mono ?_
    rintro e w1 ⟨rfl,rfl⟩
    go_wp2_with fail
    exact zaa HE _ _
   ·have q3:¬ cap=l.length:=hck
    clear HQ h fz hd hix hag Ca Ba el Da hb
    go_enter Tryz.func169,Tryz.ntmps169
    go_upto_region 1 with fail
    go_quiet (fail)
    go_wp2_with fail
    refine (zaa HI _ _).mono ?_
    rintro e w1 ⟨rfl,rfl⟩
    go_wp2_with fail
    exact zaa HE _ _
theorem zsB (F:FuncId) (hE:∀args w,(callFunc F args).run Tryz.prog w=.ok (.enter F args) w) (p:Int->Bool) (w:Xk) (a:Xi) (cap:Nat) (l:Xg) (h:Byt w (.slice a l.length cap) l) (hl:l.length<=1500) (hc:∀x,Calls Tryz.prog F #[.int .u8 x] w fun e w'=>e=.returned (.bool (p x))∧w'=w) :
  Calls Tryz.prog 196 #[.slice a l.length cap,.func (.func F) #[] #[]] w fun e w'=>e=.returned (.int .i64 (ixV p l))∧w'=w:=by
 by_cases h0:l=[]
 ·subst h0;exact zwl w a cap _ p
 ·obtain⟨b,Aa,rfl⟩:=h.some' h0
  exact zAi F hE p w b Aa cap l h.1 hl (fun k hk=>h.at' h0 k hk) hc
theorem zta (F:FuncId) (pv:Xl) (hE:∀args w,(callFunc F args).run Tryz.prog w=.ok (.enter F args) w) (p:Int->Bool) (w:Xk) (a:Xi) (cap:Nat) (l:Xg) (h:Byt w (.slice a l.length cap) l) (hl:l.length<=1500) (hc:∀x,Calls Tryz.prog F #[.int .u8 x,pv] w fun e w'=>e=.returned (.bool (p x))∧w'=w) :
  Calls Tryz.prog 196 #[.slice a l.length cap,.func (.func F) #[] #[pv]] w fun e w'=>e=.returned (.int .i64 (ixV p l))∧w'=w:=by
 by_cases h0:l=[]
 ·subst h0;exact zwl w a cap _ p
 ·obtain⟨b,Aa,rfl⟩:=h.some' h0
  exact zAL F pv hE p w b Aa cap l h.1 hl (fun k hk=>h.at' h0 k hk) hc
theorem zBv (x:Int):zeG x=digB x:=by unfold zeG digB;simp
def endN (x:Int):Bool:= !(zbe x || zeG x)
theorem ztt (l:Xg):zaE l=((upL endN l).1.map lowC,(upL endN l).2):=rfl
theorem zAv {x:Int} (h:0<=x∧x<=255):0<=lowC x∧lowC x<=255:=by
 unfold lowC
 split<;>omega
theorem okB.up {l:Xg} (h:okB l) (p:Int->Bool):okB (upL p l).1:=fun x hx=>h x ((List.takeWhile_prefix _).subset hx)
set_option maxHeartbeats 3200000 in
theorem zvo {B:Nat} {o3 o4 o5 o6 o7 o8:Xl} {w:Xk} {g k cap:Nat} {a:Xi} {l:Xg} (h:RSet B (.slice a l.length cap) (.int .i64 k) o3 o4 o5 o6 o7 o8 w g) (hb:Byt w (.slice a l.length cap) l) (hag:∀x,a=some x->l≠[]->x.block≠g) (hk:k<=l.length) (hn:l.length<=1500) :
  Calls Tryz.prog 142 #[.pointer (some ⟨g,0,none⟩)] w fun e w'=>∃a' c',e=.returned (.slice a' (zaE (l.drop k)).1.length c')∧Own w' w.heap.size (.slice a' (zaE (l.drop k)).1.length c') (zaE (l.drop k)).1∧RSet B (.slice a l.length cap) (.int .i64 ((k+(upL endN (l.drop k)).1.length:Nat):Int)) o3 o4 o5 o6 o7 o8 w' g∧Frm w w' [g]:=by
 refine zaw ?_
 intro Q HQ
 obtain⟨i0,hi,Ma,Pa,Ra⟩:=info_parts Tryz.info5
 have HU:=hide (znz h hb hag hk hn 170 #[] endN (fun n_ a' c' hv=>zsB 170 (enters_of Tryz.func170 (by kernel_rfl) rfl) endN _ a' c' _ hv (by simp;omega) (fun x=>by have:=zvk x (w.drewN n_);rw [<-zBv]at this;exact this)))
 have La:=zfX endN (l.drop k)
 have Na:=hb.1.drop k |>.up endN
 rw [ztt]at HQ
 generalize (upL endN (l.drop k)).1=row at *
 have Ta:row.length<=1500:=by simp at La;omega
 clear h hb hag La
 go_enter Tryz.func142,Tryz.ntmps142
 go_wp2_with fail
 refine (zaa HU).mono ?_
 rintro e w1 ⟨a',c',rfl,Ba,hR,hf⟩
 have Oa:w.heap.size<=w1.heap.size:=hf.size
 have HX:=hide (And.intro hR (And.intro hf (Ba _ (Frm.refl _ _))))
 clear HU hR hf Ba
 go_wp2_with (at_make;refine wpList_make_own _ rfl _ _ 22 rfl w1.heap.size 5 i0 (.int .u8 0) 1 Tryz.underlying22 hi Ma Pa .i64 .i64 _ row.length rfl rfl rfl ?c1 ?c2 ?c3 ?_)
 case c1=>rw [Ra];omega
 case c2=>unfold maxLen;omega
 case c3=>exact Nat.le_refl _
 intro w2 Fa Ca
 have hB:=Below.ofGrown Ca
 have HO:=hide (And.intro (show Own w2 w1.heap.size _ [] from ⟨zaI,Fa⟩) hB)
 clear Fa Ca hB
 go_wp2_with fail
 go_loopw [4,14] (fun b i wr=>∃j:Nat,j<=row.length∧i=.int .i64 j∧Own wr w1.heap.size b ((row.take j).map lowC)∧Below w1.heap.size w1 wr) (fun _ i _=>row.length-(intOf i).toNat)
 case atStart=>exact⟨0,Nat.zero_le _,rfl,by simpa using (zaa HO).1,(zaa HO).2⟩
 case round=>
  obtain⟨j,hj,rfl,ho,hB⟩:=hrel
  by_cases hlt:j<row.length
  ·have Ka:row≠[]:=by intro e;rw [e]at hlt;simp at hlt
   obtain⟨bb,Ua,rfl⟩:=(zaa HX).2.2.some' Ka
   have hc:=((zaa HX).2.2.keep hB).at' Ka j hlt
   have hx:=Na _ (List.getElem_mem hlt)
   rw [zdC hlt]at hc
   have Sa:(j:Int)<(row.length:Int):=by omega
   have Da:((row.take j).map lowC).length=j:=by simp;omega
   have Aa:(row.take j).map lowC++[lowC row[j]]=(row.take (j+1)).map lowC:=by rw [List.take_succ_eq_append_getElem hlt,List.map_append];rfl
   obtain⟨l0,h0⟩:∃l0,l0=(row.take j).map lowC:=⟨_,rfl⟩
   rw [<-h0]at ho Aa Da
   obtain⟨av,cv,rfl,_,_⟩:=ho.byt.shape
   have Ga:=zAz row[j] hx.1 hx.2 wr
   have hy:=zAv hx
   generalize row[j]=x at *
   generalize lowC x=y at *
   have HL:=hide Ga
   have HN:=hide (And.intro Aa (And.intro hB ho))
   have Ha:=hide Da
   clear Ga Aa h0 hB Da ho
   go_wp2_with fail
   refine (zaa HL).mono ?_
   rintro e w3 ⟨rfl,rfl⟩
   clear HL
   go_wp2_with (at_builtin;refine zdU rfl _ _ rfl w1.heap.size _ l0 rfl ((zaa HN).2.2.alloc _) _ [y] rfl (zfl w3 y hy.1 hy.2) (by rw [zaa Ha];simp;omega) (by have:=(zaa HN).2.1.size;simp;omega) ?_)
   intro v w4 Ja Ia
   obtain⟨Aa,hB,ho⟩:=zaa HN
   rw [Aa]at Ja
   have Qa:Below w1.heap.size w1 w4:=zfm (hB.alloc hB.size _) Ia (fun g hg=>ho.lt g hg |>.1)
   clear HN hB ho Ia Aa Ha HO
   go_wp2_with fail
   go_roundw
   case rel=>exact⟨j+1,by omega,by go_num,Ja,Qa⟩
   case measure=>simp [intOf];omega
  ·have e:j=row.length:=by omega
   subst e
   rw [List.take_length]at ho
   obtain⟨av,cv,rfl,_,_⟩:=ho.byt.shape
   obtain⟨hR,hf,Ba⟩:=zaa HX
   have HE:=hide (zaa HQ (.returned (.slice av (row.map lowC).length cv)) wr ⟨av,cv,rfl,ho.mono Oa,hR.keep hB,hf.trans (Frm.ofBelow hB _)⟩)
   rw [List.length_map]at HE
   have Sa:¬ (row.length:Int)<(row.length:Int):=by omega
   clear HX HO HQ hR hf Ba ho hB
   go_wp2_with fail
   exact zaa HE
def Rd (B:Nat) (a:Xi) (cap:Nat) (l:Xg) (o3 o4 o5 o6 o7 o8:Xl) (w0:Xk) (g k:Nat) (W:Xk):Prop:=RSet B (.slice a l.length cap) (.int .i64 k) o3 o4 o5 o6 o7 o8 W g∧Byt W (.slice a l.length cap) l∧Frm w0 W [g]∧k<=l.length
theorem Rd.keep {B:Nat} {a:Xi} {cap:Nat} {l:Xg} {o3 o4 o5 o6 o7 o8:Xl} {w0 W W':Xk} {g k:Nat} (h:Rd B a cap l o3 o4 o5 o6 o7 o8 w0 g k W) (hB:Below W.heap.size W W'):Rd B a cap l o3 o4 o5 o6 o7 o8 w0 g k W':=⟨h.1.keep hB,h.2.1.keep hB,h.2.2.1.trans (Frm.ofBelow hB _),h.2.2.2⟩
theorem Rd.pass {B:Nat} {a:Xi} {cap:Nat} {l:Xg} {o3 o4 o5 o6 o7 o8:Xl} {w0 W:Xk} {g k:Nat} (h:Rd B a cap l o3 o4 o5 o6 o7 o8 w0 g k W) (hag:∀x,a=some x->l≠[]->x.block≠g) (hn:l.length<=1500) (x:Int) (b:Bool) (hb:decide ((l.drop k).head? = some x)=b) :
  Calls Tryz.prog 141 #[.pointer (some ⟨g,0,none⟩),.int .u8 x] W fun e w'=>e=.returned (.bool b)∧Rd B a cap l o3 o4 o5 o6 o7 o8 w0 g (toK k b) w'∧Frm W w' [g]:=by
 subst hb
 refine (zve h.1 h.2.1 h.2.2.2 hn x).mono ?_
 rintro e w' ⟨rfl,hR,hf⟩
 refine⟨rfl,⟨hR,h.2.1.frmA hf (fun y hy h0=>by simpa using hag y hy h0),h.2.2.1.trans hf,?_⟩,hf⟩
 unfold toK
 split
 ·rename_i e
  by_cases hk:k<l.length
  ·omega
  ·have:=h.2.2.2
   rw [zem (by omega)]at e
   simp at e
 ·exact h.2.2.2
theorem Rd.upTo {B:Nat} {a:Xi} {cap:Nat} {l:Xg} {o3 o4 o5 o6 o7 o8:Xl} {w0 W:Xk} {g k:Nat} (h:Rd B a cap l o3 o4 o5 o6 o7 o8 w0 g k W) (hag:∀x,a=some x->l≠[]->x.block≠g) (hn:l.length<=1500) (F:FuncId) (cp:Array Xl) (p:Int->Bool)
  (hix:∀n_ a' c',Byt (W.drewN n_) (.slice a' (l.drop k).length c') (l.drop k)->Calls Tryz.prog 196 #[.slice a' (l.drop k).length c',.func (.func F) #[] cp] (W.drewN n_) fun e w'=>e=.returned (.int .i64 (ixV p (l.drop k)))∧w'=W.drewN n_) :
  Calls Tryz.prog 169 #[.pointer (some ⟨g,0,none⟩),.func (.func F) #[] cp] W fun e w'=>∃a' c',e=.returned (.slice a' (upL p (l.drop k)).1.length c')∧(∀W',Frm w' W' [g]->Byt W' (.slice a' (upL p (l.drop k)).1.length c') (upL p (l.drop k)).1)∧Rd B a cap l o3 o4 o5 o6 o7 o8 w0 g (k+(upL p (l.drop k)).1.length) w'∧Frm W w' [g]:=by
 refine (znz h.1 h.2.1 hag h.2.2.2 hn F cp p hix).mono ?_
 rintro e w' ⟨a',c',rfl,hv,hR,hf⟩
 have Aa:=zfX p (l.drop k)
 have hk:=h.2.2.2
 simp at Aa
 exact⟨a',c',rfl,hv,⟨hR,h.2.1.frmA hf (fun y hy h0=>by simpa using hag y hy h0),h.2.2.1.trans hf,by omega⟩,hf⟩
theorem zei {l:Xg} (h:l.all (fun x=>decide (0<=x∧x<=255))=true):okB l:=fun x hx=>by simpa using List.all_eq_true.1 h x hx
theorem zAN (l:Xg):(rawL l).2 <:+ l:=by
 unfold rawL
 split
 ·rename_i q r
  split
  ·exact ((List.drop_suffix _ _).trans (List.dropWhile_suffix _)).trans (List.suffix_cons _ _)
  ·exact List.dropWhile_suffix _
 ·exact List.suffix_refl _
theorem ziN {l:Xg} {k:Nat} {q:Int} (hq:q=34∨q=39) (h:(l.drop k).head? = some q):rawL (l.drop k)=((upL (fun x=>decide (x=q)) (l.drop (k+1))).1,(upL (fun x=>decide (x=q)) (l.drop (k+1))).2.drop 1):=by
 cases e:l.drop k with
 | nil=>rw [e]at h;cases h
 | cons x r=>
  rw [e]at h
  have h:x=q:=by simpa using h
  subst h
  have e2:l.drop (k+1)=r:=by rw [<-List.tail_drop,e];rfl
  rw [e2]
  unfold rawL
  simp only [hq,if_true]
theorem zvZ {l:Xg} (h1:l.head?≠some 34) (h2:l.head?≠some 39):rawL l=upL (fun x=>zbQ x || decide (x=62)) l:=by
 cases l with
 | nil=>rfl
 | cons x r=>
  unfold rawL
  simp only
  rw [if_neg (by rintro (e | e)<;>(subst e;simp at h1 h2))]
theorem zsQ {p:Int->Bool}:∀{l:Xg} {x:Int} {r:Xg},(upL p l).2=x::r->p x=true
 | [],x,r,h=>by cases h
 | y::l,x,r,h=>by
  unfold upL at h
  simp only [List.dropWhile_cons]at h
  by_cases e:p y=true
  ·rw [e]at h
   simp only [Bool.not_true,Bool.false_eq_true,if_false]at h
   cases h
   exact e
  ·rw [Bool.not_eq_true]at e
   rw [e]at h
   simp only [Bool.not_false,if_true]at h
   exact zsQ (l:=l) h
theorem znh {l:Xg} {k:Nat} {q:Int} (hk:k<=l.length) (hq:q=34∨q=39) (h:(l.drop k).head? = some q):toK (k+1+(upL (fun x=>decide (x=q)) (l.drop (k+1))).1.length) (decide ((l.drop (k+1+(upL (fun x=>decide (x=q)) (l.drop (k+1))).1.length)).head? = some q))=l.length-(rawL (l.drop k)).2.length:=by
 rw [ziN hq h]
 have hu:=zmU (fun x=>decide (x=q)) (l.drop (k+1))
 have Aa:=zfX (fun x=>decide (x=q)) (l.drop (k+1))
 rw [List.drop_drop]at hu
 simp only
 have hh:∀x r,l.drop (k+1+(upL (fun x=>decide (x=q)) (l.drop (k+1))).1.length)=x::r->decide (x=q)=true:=fun x r e=>zsQ (p:=fun x=>decide (x=q)) (hu.trans e)
 rw [hu]
 generalize (upL (fun x=>decide (x=q)) (l.drop (k+1))).1.length=m at *
 have Ba:k<l.length:=by
  by_cases e:k<l.length
  ·exact e
  ·rw [zem (by omega)]at h;cases h
 simp at Aa
 cases e:l.drop (k+1+m)with
 | nil=>
  have:=congrArg List.length e
  simp at this
  simp [toK]
  omega
 | cons x r=>
  have hx:=hh x r e
  have:=congrArg List.length e
  simp at this hx
  simp [toK,hx]
  omega
set_option maxHeartbeats 6400000 in
theorem Rd.raw {B:Nat} {a:Xi} {cap:Nat} {l:Xg} {o3 o4 o5 o6 o7 o8:Xl} {w0 W:Xk} {g k:Nat} (h:Rd B a cap l o3 o4 o5 o6 o7 o8 w0 g k W) (hag:∀x,a=some x->l≠[]->x.block≠g) (hn:l.length<=1500) :
  Calls Tryz.prog 175 #[.pointer (some ⟨g,0,none⟩)] W fun e w'=>∃a' c',e=.returned (.slice a' (rawL (l.drop k)).1.length c')∧Byt w' (.slice a' (rawL (l.drop k)).1.length c') (rawL (l.drop k)).1∧Rd B a cap l o3 o4 o5 o6 o7 o8 w0 g (l.length-(rawL (l.drop k)).2.length) w'∧Frm W w' [g]:=by
 refine zaw ?_
 intro Q HQ
 have Xa:g<W.heap.size:=zaP h.1.cells.1
 obtain⟨W1,cv,Na,hy⟩:=zdA W [34,39] (zei rfl) (by simp) (by decide)
 have h1:=h.keep Na
 have y0:W1.cell? ⟨W.heap.size,0,none⟩=some (.int .u8 34):=by simpa using hy.at' (by simp) 0 (by decide)
 have y1:W1.cell? ⟨W.heap.size,1,none⟩=some (.int .u8 39):=by simpa using hy.at' (by simp) 1 (by decide)
 have Ta:W.heap.size<W1.heap.size:=zaP y0
 have Da:Below W1.heap.size W1 (W1.alloc (.cells #[.int .u8 34] 5)):=(Below.refl _ _).alloc (Nat.le_refl _) _
 have h2:=h1.keep Da
 have lb:=Loc.made W1 #[.int .u8 34] 5
 simp only [vals,List.map,List.length_cons,List.length_nil]at cv
 have Va:=Na.size
 clear hy
 have Ra:=h.2.2.2
 by_cases Aa:(l.drop k).head? = some 34
 ·have HP:=hide (h2.pass hag hn 34 true (decide_eq_true Aa))
  have HX:=hide (And.intro lb (And.intro (zal Na Da) Aa))
  clear h h1 h2 lb Da Aa
  go_enter Tryz.func175,Tryz.ntmps175
  go_wp2_with fail
  refine wp_loop_rounds 3 ?_
  rw [rounds_succ]
  go_wp2_with fail
  refine (zaa HP).mono ?_
  rintro e w2 ⟨rfl,hR,hf⟩
  obtain⟨lb,Ha,Aa⟩:=zaa HX
  have Ca:=lb.frm hf (by simp;omega)
  have hR:Rd B a cap l o3 o4 o5 o6 o7 o8 w0 g (k+1) w2:=hR
  have HU:=hide (hR.upTo hag hn 197 #[.pointer (some ⟨W1.heap.size,0,none⟩)] (fun x=>decide (x=34)) (fun n_ a' c' hv=>zta 197 _ (enters_of Tryz.func197 (by kernel_rfl) rfl) _ _ a' c' _ hv (by simp;omega) (fun x=>znt x 34 W1.heap.size _ ((Ca.all (below_drewN (Below.refl w2.heap.size w2) n_)).cell 0))))
  have b2:=Ca.cell 0
  have Fa:=hide (And.intro Ca (And.intro ((Frm.ofBelow Ha [g]).trans hf) Aa))
  clear HP HX hR hf lb Ha Ca Aa
  go_wp2_with fail
  refine (zaa HU).mono ?_
  rintro e w3 ⟨a',c',rfl,hv,hR,hf⟩
  obtain⟨Ca,Ga,Aa⟩:=zaa Fa
  have Ia:=Ca.frm hf (by simp;omega)
  have b3:=Ia.cell 0
  have HP:=hide (hR.pass hag hn 34 _ rfl)
  rw [znh Ra (by simp) Aa]at HP
  have e1:(rawL (l.drop k)).1=(upL (fun x=>decide (x=34)) (l.drop (k+1))).1:=by rw [ziN (by simp) Aa]
  rw [<-e1]at hv ⊢
  have Ja:=hide (And.intro hv (Ga.trans hf))
  clear HU Fa Ca Ga Aa hR hf hv Ia b2 e1
  go_wp2_with fail
  refine (zaa HP).mono ?_
  rintro e w4 ⟨rfl,hR,hf⟩
  obtain⟨hv,Ka⟩:=zaa Ja
  have HE:=hide (zaa HQ (.returned (.slice a' (rawL (l.drop k)).1.length c')) w4 ⟨a',c',rfl,hv w4 hf,hR,Ka.trans hf⟩)
  clear HP Ja hR hf hv Ka HQ b3
  go_wp2_with fail
  exact zaa HE
 ·have HP:=hide (h2.pass hag hn 34 false (decide_eq_false Aa))
  have HX:=hide (And.intro (zal Na Da) (And.intro Da (And.intro y1 Aa)))
  clear h h1 h2 lb Da Aa
  go_enter Tryz.func175,Tryz.ntmps175
  go_wp2_with fail
  refine wp_loop_rounds 3 ?_
  rw [rounds_succ]
  go_wp2_with fail
  refine (zaa HP).mono ?_
  rintro e w2 ⟨rfl,hR,hf⟩
  obtain⟨Ha,Da,Sa,Aa⟩:=zaa HX
  have Pa:Rd B a cap l o3 o4 o5 o6 o7 o8 w0 g k w2:=hR
  have y2:w2.cell? ⟨W.heap.size,1,none⟩=some (.int .u8 39):=(World.cell?_of_block (hf.block W.heap.size (by simp;omega) (by simp;omega))).trans ((Da.cell (p:=⟨W.heap.size,1,none⟩) Ta).trans Sa)
  have Ma:=(Frm.ofBelow Ha [g]).trans hf
  have Wa:W1.heap.size<w2.heap.size:=by have:=hf.size;simp at this;omega
  clear HP HX hR hf Ha Da y0 y1 Sa
  go_wp2_with fail
  rw [rounds_succ]
  have La:Below w2.heap.size w2 (w2.alloc (.cells #[.int .u8 39] 5)):=(Below.refl _ _).alloc (Nat.le_refl _) _
  have Oa:=Pa.keep La
  have lb:=Loc.made w2 #[.int .u8 39] 5
  by_cases Ba:(l.drop k).head? = some 39
  ·have HP:=hide (Oa.pass hag hn 39 true (decide_eq_true Ba))
   have HX:=hide (And.intro lb (And.intro (Ma.trans (Frm.ofBelow La [g])) Ba))
   clear Pa lb La Ba Ma
   go_wp2_with fail
   refine (zaa HP).mono ?_
   rintro e w5 ⟨rfl,hR,hf⟩
   obtain⟨lb,Ha,Ba⟩:=zaa HX
   have Ca:=lb.frm hf (by simp;omega)
   have hR:Rd B a cap l o3 o4 o5 o6 o7 o8 w0 g (k+1) w5:=hR
   have HU:=hide (hR.upTo hag hn 197 #[.pointer (some ⟨w2.heap.size,0,none⟩)] (fun x=>decide (x=39)) (fun n_ a' c' hv=>zta 197 _ (enters_of Tryz.func197 (by kernel_rfl) rfl) _ _ a' c' _ hv (by simp;omega) (fun x=>znt x 39 w2.heap.size _ ((Ca.all (below_drewN (Below.refl w5.heap.size w5) n_)).cell 0))))
   have b2:=Ca.cell 0
   have Fa:=hide (And.intro Ca (And.intro (Ha.trans hf) Ba))
   clear HP HX hR hf lb Ha Ca Ba
   go_wp2_with fail
   refine (zaa HU).mono ?_
   rintro e w3 ⟨a',c',rfl,hv,hR,hf⟩
   obtain⟨Ca,Ga,Ba⟩:=zaa Fa
   have Ia:=Ca.frm hf (by simp;omega)
   have b3:=Ia.cell 0
   have HP:=hide (hR.pass hag hn 39 _ rfl)
   rw [znh Ra (by simp) Ba]at HP
   have e1:(rawL (l.drop k)).1=(upL (fun x=>decide (x=39)) (l.drop (k+1))).1:=by rw [ziN (by simp) Ba]
   rw [<-e1]at hv ⊢
   have Ja:=hide (And.intro hv (Ga.trans hf))
   clear HU Fa Ca Ga Ba hR hf hv Ia b2 e1
   go_wp2_with fail
   refine (zaa HP).mono ?_
   rintro e w4 ⟨rfl,hR,hf⟩
   obtain⟨hv,Ka⟩:=zaa Ja
   have HE:=hide (zaa HQ (.returned (.slice a' (rawL (l.drop k)).1.length c')) w4 ⟨a',c',rfl,hv w4 hf,hR,Ka.trans hf⟩)
   clear HP Ja hR hf hv Ka HQ b3
   go_wp2_with fail
   exact zaa HE
  ·have HP:=hide (Oa.pass hag hn 39 false (decide_eq_false Ba))
   have HX:=hide (And.intro (Ma.trans (Frm.ofBelow La [g])) Ba)
   clear Pa Oa lb La Ba Ma
   go_wp2_with fail
   refine (zaa HP).mono ?_
   rintro e w3 ⟨rfl,hR,hf⟩
   obtain⟨Ga,Ba⟩:=zaa HX
   have hR:Rd B a cap l o3 o4 o5 o6 o7 o8 w0 g k w3:=hR
   have HU:=hide (hR.upTo hag hn 198 #[] (fun x=>zbQ x || decide (x=62)) (fun n_ a' c' hv=>zsB 198 (enters_of Tryz.func198 (by kernel_rfl) rfl) _ _ a' c' _ hv (by simp;omega) (fun x=>zwA x _)))
   have er:=zvZ (l:=l.drop k) Aa Ba
   have Fa:=hide (Ga.trans hf)
   have Qa:k+(upL (fun x=>zbQ x || decide (x=62)) (l.drop k)).1.length=l.length-(rawL (l.drop k)).2.length:=by
    have Ua:=zfX (fun x=>zbQ x || decide (x=62)) (l.drop k)
    rw [er,zmU]
    simp at Ua ⊢
    omega
   rw [Qa,<-er]at HU
   clear HP HX hR hf Ga Ba Aa er Qa y2
   go_wp2_with fail
   rw [rounds_succ]
   go_wp2_with fail
   refine (zaa HU).mono ?_
   rintro e w4 ⟨a',c',rfl,hv,hR,hf⟩
   have HE:=hide (zaa HQ (.returned (.slice a' (rawL (l.drop k)).1.length c')) w4 ⟨a',c',rfl,hv w4 (Frm.refl _ _),hR,(zaa Fa).trans hf⟩)
   clear HU Fa hR hf hv HQ
   go_wp2_with fail
   exact zaa HE
end Go.Proofs.YtgjolijncmkkhaaGreatDoor
namespace Go.Proofs.YtgjolijncmkkhaaGreatDoor
open Go.RowKit
set_option linter.unusedVariables false
set_option maxRecDepth 100000
set_option maxHeartbeats 3200000 in
theorem zne (w:Xk) (a:Xi) (cap:Nat) (l:Xg) (hu:Byt w (.slice a l.length cap) l) (h0:l≠[]) (hl:l.length<=1500) :
  Calls Tryz.prog 104 #[.slice a l.length cap] w fun e w'=>e=.returned (.tuple #[.int .u8 (zap l).1,.int .i64 ((zap l).2:Nat)])∧Below w.heap.size w w':=by
 refine zaw ?_
 intro Q HQ
 obtain⟨b,Ia,rfl⟩:=hu.some' h0
 have hc:=(hu.row h0).1
 have Aa:∀(W:Xk) (hB:Below w.heap.size w W) (p:Xg) (Ja:p.length<=100) (a:Xi) (c:Nat) (hv:Byt W (.slice a p.length c) p),Calls Tryz.prog 145 #[.slice (some ⟨b,Ia,none⟩) l.length cap,.slice a p.length c] W fun e w'=>e=.returned (.bool (preL p l))∧w'=W:=fun W hB p Ja a c hv=>zhu W b Ia cap l (hu.keep hB) h0 hc a c p hv hl Ja
 obtain⟨W1,Ma,B1,y1⟩:=zdA w [38,97,109,112,59] (zei rfl) (by simp) (by decide)
 obtain⟨W2,Ka,B2,y2⟩:=zdA W1 [38,108,116,59] (zei rfl) (by simp) (by decide)
 obtain⟨W3,Ha,B3,y3⟩:=zdA W2 [38,103,116,59] (zei rfl) (by simp) (by decide)
 obtain⟨W4,Fa,B4,y4⟩:=zdA W3 [38,113,117,111,116,59] (zei rfl) (by simp) (by decide)
 have Ga:=zal B1 B2
 have Da:=zal Ga B3
 have Ca:=zal Da B4
 have H1:=Aa W1 B1 _ (by decide) _ _ y1
 have H2:=Aa W2 Ga _ (by decide) _ _ y2
 have H3:=Aa W3 Da _ (by decide) _ _ y3
 have H4:=Aa W4 Ca _ (by decide) _ _ y4
 have hq:0<l.length:=List.length_pos_iff.2 h0
 have Ba:W4.cell? ⟨b,Ia,none⟩=some (.int .u8 (l.headD 0)):=by
  have:=(hu.keep Ca).at' h0 0 hq
  cases l with
  | nil=>exact absurd rfl h0
  | cons z s=>simpa using this
 have q1:(0:Int)<(l.length:Int):=by omega
 simp only [vals,List.map,List.length_cons,List.length_nil]at Ma Ka Ha Fa
 have Oa:=hide B1
 have Pa:=hide Ga
 have Na:=hide Da
 have La:=hide Ca
 unfold zap at HQ
 generalize preL [38,97,109,112,59] l=b1 at *
 generalize preL [38,108,116,59] l=b2 at *
 generalize preL [38,103,116,59] l=b3 at *
 generalize preL [38,113,117,111,116,59] l=b4 at *
 generalize l.headD 0=y at *
 generalize l.length=n at *
 clear Aa B1 B2 B3 B4 Ga Da Ca y1 y2 y3 y4 hu h0
 have H1:=hide H1
 have H2:=hide H2
 have H3:=hide H3
 have H4:=hide H4
 go_enter Tryz.func104,Tryz.ntmps104
 go_wp2_with fail
 refine (zaa H1).mono ?_
 rintro e w1 ⟨rfl,rfl⟩
 clear H1
 cases b1 with
 | true=>
  have HE:=hide (zaa HQ (.returned (.tuple #[.int .u8 38,.int .i64 5])) w1 ⟨rfl,zaa Oa⟩)
  clear HQ H2 H3 H4 Ka Ha Fa Ba
  go_wp2_with fail
  exact zaa HE
 | false=>
 go_wp2_with fail
 refine (zaa H2).mono ?_
 rintro e w2 ⟨rfl,rfl⟩
 clear H2
 cases b2 with
 | true=>
  have HE:=hide (zaa HQ (.returned (.tuple #[.int .u8 60,.int .i64 4])) w2 ⟨rfl,zaa Pa⟩)
  clear HQ H3 H4 Ha Fa Ba
  go_wp2_with fail
  exact zaa HE
 | false=>
 go_wp2_with fail
 refine (zaa H3).mono ?_
 rintro e w3 ⟨rfl,rfl⟩
 clear H3
 cases b3 with
 | true=>
  have HE:=hide (zaa HQ (.returned (.tuple #[.int .u8 62,.int .i64 4])) w3 ⟨rfl,zaa Na⟩)
  clear HQ H4 Fa Ba
  go_wp2_with fail
  exact zaa HE
 | false=>
 go_wp2_with fail
 refine (zaa H4).mono ?_
 rintro e w4 ⟨rfl,rfl⟩
 clear H4
 cases b4 with
 | true=>
  have HE:=hide (zaa HQ (.returned (.tuple #[.int .u8 34,.int .i64 6])) w4 ⟨rfl,zaa La⟩)
  clear HQ Ba
  go_wp2_with fail
  exact zaa HE
 | false=>
  have HE:=hide (zaa HQ (.returned (.tuple #[.int .u8 y,.int .i64 1])) w4 ⟨rfl,zaa La⟩)
  clear HQ
  go_wp2_with fail
  exact zaa HE
theorem zjF (w:Xk) (a0:Xi) (cap:Nat) (l:Xg) (hu:Byt w (.slice a0 l.length cap) l) (a:Xi) (c:Nat) (x:Int) (hv:Byt w (.slice a 1 c) [x]) (hl:l.length<=1500) :
  Calls Tryz.prog 139 #[.slice a0 l.length cap,.slice a 1 c] w fun e w'=>∃a' c',Byt w (.slice a' (if l.head? = some x then l.drop 1 else l).length c') (if l.head? = some x then l.drop 1 else l)∧e=.returned (.tuple #[.slice a' (if l.head? = some x then l.drop 1 else l).length c',.bool (decide (l.head? = some x))])∧w'=w:=by
 by_cases e:l.head? = some x
 ·rw [if_pos e]
  have h0:l≠[]:=by intro e';rw [e']at e;cases e
  obtain⟨b,Aa,rfl⟩:=hu.some' h0
  have hc:=(hu.row h0).1
  have Ba:=(hu.row h0).2.1
  have Da:0<l.length:=List.length_pos_iff.2 h0
  have HC:=hide (zhu w b Aa cap l hu h0 hc a c [x] hv hl (by simp))
  have hd:decide ([x].length<=l.length∧l.take [x].length=[x])=true:=by
   cases l with
   | nil=>exact absurd rfl h0
   | cons y r=>simp at e;simp [e]
  rw [hd]at HC
  have q1:(1:Int)<=(l.length:Int):=by omega
  have q2:(l.length:Int)<=(cap:Int):=by omega
  have el:(l.drop 1).length=l.length-1:=by simp
  rw [decide_eq_true e,el]
  by_cases hc1:cap=1
  ·subst hc1
   obtain⟨y,rfl⟩:∃y,l=[y]:=by
    cases l with
    | nil=>exact absurd rfl h0
    | cons y r=>cases r with
     | nil=>exact⟨y,rfl⟩
     | cons z s=>simp at hc
   have HE:=hide (show Byt w (.slice (some ⟨b,Aa,none⟩) 0 0) [] from ⟨zaI,by simp [maxLen],.inr (.inl ⟨_,0,rfl,by simp [maxLen],rfl⟩)⟩)
   simp only [List.length_cons,List.length_nil,Nat.zero_add]at HC ⊢
   clear hu hv hd h0 e el Ba hc q1 q2 Da hl
   go_enter Tryz.func139,Tryz.ntmps139
   go_wp2_with fail
   refine (zaa HC).mono ?_
   rintro e w1 ⟨rfl,rfl⟩
   go_wp2_with fail
   go_ret2
   exact⟨_,_,zaa HE,rfl,rfl⟩
  ·have HE:=hide (show Byt w (.slice (some ⟨b,Aa+1,none⟩) (l.length-1) (cap-1)) (l.drop 1) by
    by_cases hk:1<l.length
    ·have:=hu.dropR h0 hc 1 hk
     rw [el]at this
     exact this
    ·have Ca:l.drop 1=[]:=List.drop_eq_nil_iff.2 (by omega)
     rw [Ca,show l.length-1=0 by omega]
     exact⟨zaI,by simp [maxLen],.inr (.inl ⟨_,_,rfl,by omega,rfl⟩)⟩)
   clear hu hv hd h0 e el Ba
   go_enter Tryz.func139,Tryz.ntmps139
   go_wp2_with fail
   refine (zaa HC).mono ?_
   rintro e w1 ⟨rfl,rfl⟩
   go_wp2_with fail
   go_ret2
   exact⟨_,_,zaa HE,rfl,rfl⟩
 ·rw [if_neg e,decide_eq_false e]
  have HE:=hide hu
  have HC:Calls Tryz.prog 145 #[.slice a0 l.length cap,.slice a 1 c] w fun e w'=>e=.returned (.bool false)∧w'=w:=by
   by_cases h0:l=[]
   ·subst h0
    clear hu hv HE e
    go_enter Tryz.func145,Tryz.ntmps145
    go_wp2_with fail
    go_ret
    exact⟨rfl,rfl⟩
   ·obtain⟨b,Aa,rfl⟩:=hu.some' h0
    have:=zhu w b Aa cap l hu h0 (hu.row h0).1 a c [x] hv hl (by simp)
    have hd:decide ([x].length<=l.length∧l.take [x].length=[x])=false:=by
     cases l with
     | nil=>exact absurd rfl h0
     | cons y r=>simp at e;simp [e]
    rw [hd]at this
    exact this
  have HC:=hide HC
  clear hu hv e
  go_enter Tryz.func139,Tryz.ntmps139
  go_wp2_with fail
  refine (zaa HC).mono ?_
  rintro e w1 ⟨rfl,rfl⟩
  go_wp2_with fail
  go_ret2
  exact⟨_,_,zaa HE,rfl,rfl⟩
set_option maxHeartbeats 3200000 in
theorem zza (w:Xk) (a:Xi) (cap:Nat) (l:Xg) (hu:Byt w (.slice a l.length cap) l) (hl:l.length<=1500) :
  Calls Tryz.prog 101 #[.slice a l.length cap] w fun e w'=>e=.returned (.bool (tagB l))∧Below w.heap.size w w':=by
 refine zaw ?_
 intro Q HQ
 obtain⟨W,cv,hB,hy⟩:=zdA w [60] (zei rfl) (by simp) (by decide)
 have HC:=hide (zjF W a cap l (hu.keep hB) _ _ 60 hy hl)
 have HB:=hide hB
 simp only [vals,List.map,List.length_cons,List.length_nil]at cv
 clear hu hB hy
 go_enter Tryz.func101,Tryz.ntmps101
 go_wp2_with fail
 refine (zaa HC).mono ?_
 rintro e w1 ⟨a',c',hv,rfl,rfl⟩
 by_cases e:l.head? = some 60
 ·rw [if_pos e]at hv ⊢
  rw [decide_eq_true e]
  have et:tagB l=(match (if (l.drop 1).head? = some 47 then (l.drop 1).drop 1 else l.drop 1)with | c::_=>zbe c | []=>false):=by
   unfold tagB
   rw [decide_eq_true e]
   rfl
  rw [et]at HQ
  have Ga:(l.drop 1).length<=1500:=by simp;omega
  generalize l.drop 1=r at *
  obtain⟨W2,Da,Aa,Ca⟩:=zdA w1 [47] (zei rfl) (by simp) (by decide)
  have HD:=hide (zjF W2 a' c' r (hv.keep Aa) _ _ 47 Ca Ga)
  have Ba:=hide (zal (zaa HB) Aa)
  simp only [vals,List.map,List.length_cons,List.length_nil]at Da
  clear hv Aa Ca HC HB e et cv
  go_wp2_with fail
  refine (zaa HD).mono ?_
  rintro e w2 ⟨a2,c2,hv,rfl,rfl⟩
  generalize (if r.head? = some 47 then r.drop 1 else r)=z at *
  clear HD Da
  cases z with
  | nil=>
   have HE:=hide (zaa HQ (.returned (.bool false)) w2 ⟨rfl,zaa Ba⟩)
   clear HQ hv
   go_wp2_with fail
   exact zaa HE
  | cons x s=>
   obtain⟨b,Fa,rfl⟩:=hv.some' (by simp)
   have hx:w2.cell? ⟨b,Fa,none⟩=some (.int .u8 x):=by simpa using hv.at' (by simp) 0 (by simp)
   have HL:=hide (zmL x w2)
   have HE:=hide (zaa HQ (.returned (.bool (zbe x))) w2 ⟨rfl,zaa Ba⟩)
   obtain⟨n,en⟩:∃n,n=(x::s).length:=⟨_,rfl⟩
   have q1:(0:Int)<(n:Int):=by rw [en];simp
   rw [<-en]
   clear HQ hv en
   go_wp2_with fail
   refine (zaa HL).mono ?_
   rintro e w3 ⟨rfl,rfl⟩
   go_wp2_with fail
   exact zaa HE
 ·rw [if_neg e]at hv ⊢
  rw [decide_eq_false e]
  have et:tagB l=false:=by unfold tagB;rw [decide_eq_false e];rfl
  have HE:=hide (zaa HQ (.returned (.bool false)) w1 ⟨by rw [et],zaa HB⟩)
  clear HQ hv HC e et cv
  go_wp2_with fail
  exact zaa HE
theorem zri {l:Xg} (h:l≠[]):(zap l).2<=l.length:=by
 have Aa:∀p:Xg,preL p l=true->p.length<=l.length:=fun p hp=>by
  unfold preL at hp
  simp at hp
  exact hp.1
 unfold zap
 split
 ·rename_i e;exact Aa _ e
 split
 ·rename_i e;exact Aa _ e
 split
 ·rename_i e;exact Aa _ e
 split
 ·rename_i e;exact Aa _ e
 exact List.length_pos_iff.2 h
theorem zhz:∀(f g k:Nat) (l:Xg),l.length<=f->l.length<=g->valL f k l=valL g k l
 | 0,0,k,l,_,_=>rfl
 | 0,g+1,k,l,h,_=>by
  have e:l=[]:=List.length_eq_zero_iff.1 (by omega)
  unfold valL
  rw [if_pos (.inl e)]
 | f+1,0,k,l,_,h=>by
  have e:l=[]:=List.length_eq_zero_iff.1 (by omega)
  unfold valL
  rw [if_pos (.inl e)]
 | f+1,g+1,k,l,h1,h2=>by
  unfold valL
  by_cases h:l=[]∨k=0
  ·rw [if_pos h,if_pos h]
  ·rw [if_neg h,if_neg h]
   have hp:=zgi l
   have e:(l.drop (zap l).2).length<=f∧(l.drop (zap l).2).length<=g:=by simp;omega
   simp only
   rw [zhz f g (k-1) _ e.1 e.2,zhz f g k _ e.1 e.2]
theorem zya {k:Nat} {l:Xg} (h:l≠[]) (hk:0<k):valL l.length k l=if zcz (zap l).1=true then (zap l).1::valL (l.drop (zap l).2).length (k-1) (l.drop (zap l).2) else valL (l.drop (zap l).2).length k (l.drop (zap l).2):=by
 have hl:0<l.length:=List.length_pos_iff.2 h
 have hp:=zgi l
 obtain⟨f,hf⟩:∃f,l.length=f+1:=⟨l.length-1,by omega⟩
 have e:(l.drop (zap l).2).length<=f:=by simp;omega
 rw [hf]
 conv=>lhs;unfold valL
 rw [if_neg (by rintro (e | e);exact h e;omega)]
 simp only
 rw [zhz f _ (k-1) _ e (Nat.le_refl _),zhz f _ k _ e (Nat.le_refl _)]
theorem Byt.dropV {w:Xk} {b off cap:Nat} {l:Xg} (h:Byt w (.slice (some ⟨b,off,none⟩) l.length cap) l) (h0:l≠[]) (k:Nat) (hk:k<=l.length) (off':Nat) (ho:off'=if cap=k then off else off+k):Byt w (.slice (some ⟨b,off',none⟩) (l.length-k) (cap-k)) (l.drop k):=by
 have hr:=h.row h0
 by_cases e:k<l.length
 ·rw [if_neg (by omega)]at ho
  subst ho
  have:=h.dropR h0 hr.1 k e
  rw [List.length_drop]at this
  exact this
 ·rw [List.drop_eq_nil_iff.2 (by omega),show l.length-k=0 by omega]
  exact⟨zaI,by simp [maxLen],.inr (.inl ⟨_,_,rfl,by omega,rfl⟩)⟩
theorem zqz (x:Int):zfJ x=zcz x:=by unfold zfJ zcz;simp
theorem zBP (f:Nat) (l:Xg):valL f (30-30) l=[]:=by
 cases f with
 | zero=>rfl
 | succ f=>unfold valL;rw [if_pos (.inr rfl)]
theorem zqp {l:Xg} (h:okB l):0<=(zap l).1∧(zap l).1<=255:=by
 unfold zap
 split
 ·exact⟨by decide,by decide⟩
 split
 ·exact⟨by decide,by decide⟩
 split
 ·exact⟨by decide,by decide⟩
 split
 ·exact⟨by decide,by decide⟩
 cases l with
 | nil=>exact⟨by decide,by decide⟩
 | cons x l=>exact h x (by simp)
def slen:Xl->Nat
 | .slice _ n _=>n
 | _=>0
set_option maxHeartbeats 6400000 in
theorem zvY (w:Xk) (a:Xi) (cap:Nat) (l:Xg) (h:Byt w (.slice a l.length cap) l) (hl:l.length<=1500) :
  Calls Tryz.prog 174 #[.slice a l.length cap] w fun e w'=>∃a' c',e=.returned (.slice a' (valL l.length 30 l).length c')∧Own w' w.heap.size (.slice a' (valL l.length 30 l).length c') (valL l.length 30 l)∧Below w.heap.size w w':=by
 refine zaw ?_
 intro Q HQ
 have HH:=hide h
 clear h
 go_enter Tryz.func174,Tryz.ntmps174
 go_wp2_with fail
 go_loopw [0,3] (fun r v wr=>∃(z:Xg) (a1:Xi) (c1:Nat) (Aa:Xg) (a2:Xi) (c2:Nat),r=.slice a1 z.length c1∧v=.slice a2 Aa.length c2∧z.length<=l.length∧Aa.length<=30∧Hid (Byt w (.slice a1 z.length c1) z)∧Hid (Own wr w.heap.size (.slice a2 Aa.length c2) Aa)∧Hid (Below w.heap.size w wr)∧Hid (valL l.length 30 l=Aa++valL z.length (30-Aa.length) z)) (fun r _ _=>slen r)
 case atStart=>exact⟨l,a,cap,[],none,0,rfl,rfl,Nat.le_refl _,by simp,HH,hide ⟨zaI,rfl,.inl ⟨rfl,rfl⟩⟩,hide (Below.refl _ _),hide rfl⟩
 case round=>
  obtain⟨z,a1,c1,Aa,a2,c2,rfl,rfl,Wa,Ma,HZ,HA,HB,HV⟩:=hrel
  clear HH
  by_cases h0:z=[]
  ·have HE:=hide (zaa HQ (.returned (.slice a2 Aa.length c2)) wr ⟨a2,c2,by rw [zaa HV,h0];simp [valL],by rw [zaa HV,h0];simpa [valL]using zaa HA,zaa HB⟩)
   subst h0
   clear HQ HV HA HB HZ
   go_wp2_with fail
   exact zaa HE
  ·have q1:(0:Int)<(z.length:Int):=by have:=List.length_pos_iff.2 h0;omega
   by_cases h30:Aa.length=30
   ·have e0:valL l.length 30 l=Aa:=by rw [zaa HV,h30,zBP,List.append_nil]
    have HE:=hide (zaa HQ (.returned (.slice a2 Aa.length c2)) wr ⟨a2,c2,by rw [e0],by rw [e0];exact zaa HA,zaa HB⟩)
    have q2:decide ((Aa.length:Int)<30)=false:=by simp;omega
    clear HQ HV HA HB HZ h30 e0
    go_wp2_with fail
    exact zaa HE
   ·have q2:(Aa.length:Int)<30:=by omega
    obtain⟨b,Ta,rfl⟩:=(zaa HZ).some' h0
    have HM:=hide (zne wr _ c1 z ((zaa HZ).keep (zaa HB)) h0 (by omega))
    have Ua:=zri h0
    have Za:=zgi z
    have Sa:=zya h0 (k:=30-Aa.length) (by omega)
    have Qa:=fun o ho=>(zaa HZ).dropV h0 (zap z).2 Ua o ho
    have aa:=((zaa HZ).row h0).1
    have Oa:=zqp (zaa HZ).1
    have HS:=hide (fun W=>zgb (zap z).1 W)
    have Ga:(z.drop (zap z).2).length=z.length-(zap z).2:=by simp
    generalize (zap z).1=x at *
    generalize (zap z).2=m at *
    generalize z.drop m=z2 at *
    have Ya:(0:Int)<=(m:Int):=by omega
    have Xa:(m:Int)<=(z.length:Int):=by omega
    have Va:(z.length:Int)<=(c1:Int):=by omega
    rw [<-Ga]at Qa
    have HW:=hide (And.intro Sa (And.intro Ga Qa))
    rw [Sa]at HV
    simp only [zqz]at HS
    clear Sa Ga Qa HZ h0 h30
    go_wp2_with fail
    refine (zaa HM).mono ?_
    rintro e w2 ⟨rfl,Pa⟩
    have Fa:=hide (zal (zaa HB) Pa)
    have Ha:=hide ((zaa HA).keep Pa)
    clear HM HA HB Pa
    by_cases q3:c1=m
    ·have q4:=q3
     have HZ:=hide ((zaa HW).2.2 (Ta) (by rw [if_pos q3]))
     have Ga:=(zaa HW).2.1
     clear HW
     cases hst:zcz x with
     | true=>
      rw [hst]at HS HV
      simp only [if_true]at HV
      clear hst
      go_wp2_with fail
      refine (zaa HS _).mono ?_
      rintro e w3 ⟨rfl,rfl⟩
      clear HS
      go_wp2_with (at_builtin;refine zdU rfl _ _ rfl w.heap.size _ Aa rfl ((zaa Ha).alloc _) _ [x] rfl (zfl w3 x Oa.1 Oa.2) (by simp;omega) (by have:=(zaa Fa).size;simp;omega) ?_)
      intro v w4 Ia Ja
      obtain⟨a4,c4,rfl,_,_⟩:=Ia.byt.shape
      have La:Below w.heap.size w w4:=zfm ((zaa Fa).alloc (zaa Fa).size _) Ja (fun g hg=>(zaa Ha).lt g hg |>.1)
      have Ka:=hide Ia
      have Ra:=hide La
      have Na:=hide (show valL l.length 30 l=(Aa++[x])++valL z2.length (30-(Aa++[x]).length) z2 by rw [zaa HV,List.append_assoc,List.length_append];rfl)
      obtain⟨Ba,Ca⟩:∃Ba,Ba=Aa++[x]:=⟨_,rfl⟩
      have Da:Ba.length<=30:=by rw [Ca];simp;omega
      rw [<-Ca]at Ka Na ⊢
      clear Ia La Ja Ha Fa HV Ca
      go_wp2_with fail
      go_roundw
      case rel=>exact⟨z2,_,_,Ba,_,_,by rw [Ga,q3,Nat.sub_self],rfl,by omega,Da,HZ,Ka,Ra,Na⟩
      case measure=>simp [slen];omega
     | false=>
      rw [hst]at HS HV
      simp only [Bool.false_eq_true,if_false]at HV
      clear hst
      go_wp2_with fail
      refine (zaa HS _).mono ?_
      rintro e w3 ⟨rfl,rfl⟩
      clear HS
      go_wp2_with fail
      go_roundw
      case rel=>exact⟨z2,_,_,Aa,_,_,by rw [Ga,q3,Nat.sub_self],rfl,by omega,Ma,HZ,Ha,Fa,HV⟩
      case measure=>simp [slen];omega
    ·skip
     have HZ:=hide ((zaa HW).2.2 (Ta+m) (by rw [if_neg q3]))
     have Ga:=(zaa HW).2.1
     clear HW
     cases hst:zcz x with
     | true=>
      rw [hst]at HS HV
      simp only [if_true]at HV
      clear hst
      go_wp2_with fail
      refine (zaa HS _).mono ?_
      rintro e w3 ⟨rfl,rfl⟩
      clear HS
      go_wp2_with (at_builtin;refine zdU rfl _ _ rfl w.heap.size _ Aa rfl ((zaa Ha).alloc _) _ [x] rfl (zfl w3 x Oa.1 Oa.2) (by simp;omega) (by have:=(zaa Fa).size;simp;omega) ?_)
      intro v w4 Ia Ja
      obtain⟨a4,c4,rfl,_,_⟩:=Ia.byt.shape
      have La:Below w.heap.size w w4:=zfm ((zaa Fa).alloc (zaa Fa).size _) Ja (fun g hg=>(zaa Ha).lt g hg |>.1)
      have Ka:=hide Ia
      have Ra:=hide La
      have Na:=hide (show valL l.length 30 l=(Aa++[x])++valL z2.length (30-(Aa++[x]).length) z2 by rw [zaa HV,List.append_assoc,List.length_append];rfl)
      obtain⟨Ba,Ca⟩:∃Ba,Ba=Aa++[x]:=⟨_,rfl⟩
      have Da:Ba.length<=30:=by rw [Ca];simp;omega
      rw [<-Ca]at Ka Na ⊢
      clear Ia La Ja Ha Fa HV Ca
      go_wp2_with fail
      go_roundw
      case rel=>exact⟨z2,_,_,Ba,_,_,by rw [Ga],rfl,by omega,Da,HZ,Ka,Ra,Na⟩
      case measure=>simp [slen];omega
     | false=>
      rw [hst]at HS HV
      simp only [Bool.false_eq_true,if_false]at HV
      clear hst
      go_wp2_with fail
      refine (zaa HS _).mono ?_
      rintro e w3 ⟨rfl,rfl⟩
      clear HS
      go_wp2_with fail
      go_roundw
      case rel=>exact⟨z2,_,_,Aa,_,_,by rw [Ga],rfl,by omega,Ma,HZ,Ha,Fa,HV⟩
      case measure=>simp [slen];omega
def zjA (w:Xk) (v:Xl) (n:Nat) (ys:Xj) (e:Ending) (w':Xk):Prop:=
 ∃g cap,e=.returned (.slice (some ⟨g,0,none⟩) (n+1) cap)∧w'.ownsRow 0 132 2 (.slice (some ⟨g,0,none⟩) (n+1) cap) (n+1) ys∧Frm w w' (FB v)∧(v.ownBlock=some g∨w.heap.size<=g)∧g<w'.heap.size
theorem zhJ {w:Xk} {g:Nat} {C:Xj} {T:Xm} (h:Loc w g C.toArray T) (j:Nat) (u:Xl) (hj:C[j]? = some u):w.cell? ((⟨g,0,none⟩:Addr).add j)=some u:=by
 rw [zbp,Nat.zero_add,h.cell j]
 simpa using hj
set_option maxHeartbeats 6400000 in
theorem zxE (w:Xk) (v:Xl) (n vb:Nat) (xs C:Xj) (h:w.ownsRow 0 132 2 v n xs) (hC:C.length=2) (hl:Loc w vb C.toArray 132) (h1:∀u∈C,u.oneCell'=true) (hn:n<=100000) :
  Calls Tryz.prog 199 #[v,.int .i64 n,.slice (some ⟨vb,0,none⟩) 1 1] w (zjA w v n (xs++C)):=by
 obtain⟨i0,hi,Fa,Ga,Da⟩:=info_parts Tryz.info132
 have Aa:=zhJ hl
 have H:=hide h
 have Ha:v=.slice none 0 0∧n=0∨∃g Ba,v=.slice (some ⟨g,0,none⟩) n Ba∧n<=Ba:=by
  rcases h.2 with ⟨rfl,rfl⟩ | ⟨g,Ba,Ia,rfl,_,_,hc,_⟩
  ·exact .inl ⟨rfl,rfl⟩
  ·exact .inr ⟨g,Ba,rfl,hc⟩
 clear h
 rcases Ha with ⟨rfl,rfl⟩ | ⟨g,Ba,rfl,Ja⟩
 ·go_enter Tryz.func199,Tryz.ntmps199
  go_wp2_with (at_builtin;refine wpList_append_lies w rfl _ _ 26 rfl 0 132 i0 _ 2 48 Tryz.underlying26 hi Fa Ga Da rfl (by decide) _ 0 xs rfl (zaa H) ⟨vb,0,none⟩ 1 1 C rfl (by omega) Aa h1 (by omega) (by unfold maxLen;omega) (by omega) (Nat.zero_le _) w.heap.size rfl ?_;intro g Ba w' k1 k2 k3 k4)
  go_ret
  exact⟨g,Ba,rfl,k1,Frm.ofGrown k2,k3.imp id (fun e=>by omega),k4⟩
 ·go_enter Tryz.func199,Tryz.ntmps199
  go_wp2_with (at_builtin;refine wpList_append_lies w rfl _ _ 26 rfl 0 132 i0 _ 2 48 Tryz.underlying26 hi Fa Ga Da rfl (by decide) _ n xs rfl (zaa H) ⟨vb,0,none⟩ 1 1 C rfl (by omega) Aa h1 (by omega) (by unfold maxLen;omega) (by omega) (Nat.zero_le _) w.heap.size rfl ?_;intro g' Ca w' k1 k2 k3 k4)
  all_goals (go_ret;exact⟨g',Ca,rfl,k1,Frm.ofGrown k2,k3.imp id (fun e=>by omega),k4⟩)
theorem zlI {w:Xk} {g n cap:Nat} {xs:Xj} (h:w.ownsRow 0 132 2 (.slice (some ⟨g,0,none⟩) n cap) n xs) :
  ∃R:Xj,Loc w g R.toArray 132∧n<=cap∧cap<=maxLen∧R.length=cap*2∧R.take (n*2)=xs:=by
 rcases h.2 with ⟨h,_⟩ | ⟨g',Ba,Aa,h,_,hg,a,b,c,d⟩
 ·cases h
 ·cases h
  exact⟨Aa.toList,by simpa [Loc]using hg,a,b,by simpa using c,d⟩
theorem znH {w:Xk} {g n cap:Nat} {R xs:Xj} (h:Loc w g R.toArray 132) (a:n<=cap) (b:cap<=maxLen) (c:R.length=cap*2) (d:R.take (n*2)=xs):w.ownsRow 0 132 2 (.slice (some ⟨g,0,none⟩) n cap) n xs:=by
 refine⟨?_,.inr ⟨g,cap,R.toArray,rfl,Nat.zero_le _,h,a,b,by simpa using c,by simpa using d⟩⟩
 have:n*2<=cap*2:=Nat.mul_le_mul_right _ a
 rw [<-d,List.length_take];omega
set_option maxHeartbeats 8000000 in
theorem zvS (w:Xk) (g n cap i vb:Nat) (xs C:Xj) (h:w.ownsRow 0 132 2 (.slice (some ⟨g,0,none⟩) n cap) n xs) (hC:C.length=2) (hl:Loc w vb C.toArray 132) (h1:∀u∈C,u.oneCell'=true) (hx1:∀u∈xs,u.oneCell'=true) (hn:n<=100000) (hi:i<n) (hroom:cap<n+1) :
  Calls Tryz.prog 199 #[.slice (some ⟨g,0,none⟩) n cap,.int .i64 i,.slice (some ⟨vb,0,none⟩) 1 1] w (zjA w (.slice (some ⟨g,0,none⟩) n cap) n (xs.take (i*2)++(C++xs.drop (i*2)))):=by
 obtain⟨i0,Pa,Qa,Na,Oa⟩:=info_parts Tryz.info132
 have Ma:(Tryz.prog.info? 132).map (·.size)=some 2:=by rw [Pa];simp [Na]
 have ta:=h.1
 obtain⟨R0,hg,qa,oa,va,Ra⟩:=zlI h
 have Aa:∀j u,xs[j]? = some u->w.cell? ⟨g,j,none⟩=some u:=fun j u hj=>by
  rw [hg.cell j]
  rw [<-Ra,List.getElem?_take]at hj
  split at hj
  ·simpa using hj
  ·cases hj
 have ua:i*2<=n*2:=Nat.mul_le_mul_right _ (by omega)
 have Ga:(Builtin.firstCells i0.size i (.slice (some ⟨g,0,none⟩) i cap)).run Tryz.prog w.drew=.ok (xs.take (i*2)).toArray w.drew:=by
  rw [Na]
  exact run_firstCells_some w.drew 2 i ⟨g,0,none⟩ i cap (xs.take (i*2)) (by rw [List.length_take];omega) (fun j v hj=>by
   rw [zbp,Nat.zero_add]
   rw [List.getElem?_take]at hj
   split at hj
   ·exact Aa j v hj
   ·cases hj)
 have Ha:i+(n+1-i)=n+1:=by omega
 have La:(n:Int)+1-(i:Int)=((n+1-i:Nat):Int):=by omega
 obtain⟨z,hz⟩:∃z:Xl,z=.agg #[.slice none 0 0,.slice none 0 0]:=⟨_,rfl⟩
 have ba:z.cells.size=2:=by rw [hz];rfl
 rw [<-hz]at Qa
 obtain⟨G,hG⟩:∃G,G=grownCap w (n+1) cap 132:=⟨_,rfl⟩
 obtain⟨R,hR⟩:∃R:Xj,R=((xs.take (i*2)).toArray++Builtin.zeroCells z.cells (n+1-i)++Builtin.zeroCells z.cells (G-(n+1))).toList:=⟨_,rfl⟩
 have Sa:∀ty,(Builtin.append_ #[26,3] ty #[.slice (some ⟨g,0,none⟩) i cap,.int .i64 ((n:Int)+1-(i:Int))]).run Tryz.prog w=.ok (.slice (some ⟨w.heap.size,0,none⟩) (n+1) G) (w.drew.alloc (.cells R.toArray 132)):=by
  intro ty
  have h:=Lib.run_append_grow_zeros w 26 3 ty 132 i0 z .i64 .i64 Tryz.underlying26 Tryz.underlying3 Pa Qa (some ⟨g,0,none⟩) i cap (xs.take (i*2)) Ga (n+1-i) (by omega) (by omega) (by omega) (by omega) (by rw [Oa];omega) (by rw [Oa,Ha];exact growslice_fits hroom (by omega))
  rw [Ha,<-hG]at h
  rw [La,hR,Array.toArray_toList]
  exact h
 have ka:n+1<=G:=by rw [hG];exact grownCap_ge w _ _ _
 have Ta:G<=maxLen:=by rw [hG];exact grownCap_le_maxLen w (n+1) cap 132 (by unfold maxLen;omega)
 have Za:R.length=G*2:=by
  rw [hR]
  simp [Builtin.zeroCells,ba,List.length_take]
  omega
 have da:R.take (i*2)=xs.take (i*2):=by
  rw [hR]
  simp [List.take_append,List.length_take]
  have e:i*2-min (i*2) xs.length=0:=by omega
  rw [e]
  simp [List.take_take]
 have Ua:(xs.drop (i*2)).length=(n-i)*2:=by rw [List.length_drop];omega
 have sa:¬ (G=i):=by omega
 have ia:¬ (G=i+1):=by omega
 have wa:¬ (cap=i):=by omega
 have la:G<=9223372036854775807:=by unfold maxLen at Ta;omega
 have Ka:((w.alloc (.cells R.toArray 132)).drew).heap[w.heap.size]? = some (.cells R.toArray 132 (0,0)):=heap_alloc_new w _
 have Wa:Loc (w.alloc (.cells R.toArray 132)).drew vb C.toArray 132:=hl.alloc _
 have ma:Loc (w.alloc (.cells R.toArray 132)).drew g R0.toArray 132:=hg.alloc _
 have Xa:Frm w (w.alloc (.cells R.toArray 132)).drew []:=⟨rfl,rfl,rfl,by simp [World.drew],fun k hk _=>heap_alloc_old w _ hk⟩
 have ga:=hg.lt
 have ha:=hl.lt
 clear Ga La Ha hR hG h Aa
 go_enter Tryz.func199,Tryz.ntmps199
 go_wp2_with (first
  | (at_builtin;refine Lib.wpList_append_run _ rfl _ _ _ _ rfl _ _ rfl rfl _ _ (Sa _) ?_)
  | (refine ziH rfl _ _ 26 26 rfl 132 2 Tryz.underlying26 Ma w.heap.size (i*2) (n+1-i) (G-i) ⟨vb,0,none⟩ 1 1 ?_ ?_ R 132 ?_ C 1 (by simp only [Nat.min_def];split<;>omega) (by omega) ?_ (by omega) h1 ?_;rfl;rfl;exact Ka;exact zhJ Wa;intro w2 ja Va))
 have Ja:=zaa ja
 have Ia:=ma.frm Va (by simp;omega)
 have Ba:∀j u,(xs.drop (i*2))[j]? = some u->w2.cell? ((⟨g,i*2,none⟩:Addr).add j)=some u:=fun j u hj=>by
  rw [zbp,Ia.cell]
  rw [List.getElem?_drop,<-Ra,List.getElem?_take]at hj
  split at hj
  ·simpa using hj
  ·cases hj
 have fa:(splice R (i*2) C).length=G*2:=by rw [length_splice _ _ _ (by omega)];exact Za
 have aa:∀u∈xs.drop (i*2),u.oneCell'=true:=fun u hu=>hx1 u (List.mem_of_mem_drop hu)
 have HM:=hide (show n-i=Nat.min (n-i) (n-i) by simp only [Nat.min_def];split<;>omega)
 have xa:(0:Int)<=(i:Int)+1:=by omega
 have na:i<=n:=by omega
 have ya:(i:Int)<=(n:Int):=by omega
 have Ya:w2.drew.heap[w.heap.size]? = some (.cells (splice R (i*2) C).toArray 132 (0,0)):=Ja
 have ca:∀j u,(xs.drop (i*2))[j]? = some u->w2.drew.cell? ((⟨g,i*2,none⟩:Addr).add j)=some u:=Ba
 have ra:IntKind.i64.wrap ((i:Int)+1)=(i:Int)+1:=by rw [IntKind.wrap_i64];omega
 have pa:((i:Int)+1).toNat=i+1:=by omega
 clear Sa Ka Wa
 go_region_law (refine zlF rfl _ _ 26 26 rfl 132 2 Tryz.underlying26 Ma w.heap.size ((i+1)*2) (n-i) (G-(i+1)) ⟨g,i*2,none⟩ (n-i) (cap-i) (by simp [Act.eval,Act.put]) (by simp [Act.eval,Act.put]) (splice R (i*2) C) 132 Ya (xs.drop (i*2)) (n-i) (zaa HM) Ua ca (by omega) aa ?_;intro w3 ea Fa)
 go_wp2
 go_ret
 have Ca:=zsv R C (xs.drop (i*2)) (i*2) 2 ((n-i)*2) hC Ua (by omega)
 rw [da]at Ca
 have Da:Loc w3 w.heap.size (splice (splice R (i*2) C) (i*2+2) (xs.drop (i*2))).toArray 132:=by
  have:=zaa ea
  rw [show (i+1)*2=i*2+2 by omega]at this
  exact this
 refine⟨w.heap.size,G,rfl,znH Da ka Ta (by rw [length_splice _ _ _ (by omega)];exact fa) ?_,?_,.inr (Nat.le_refl _),Da.lt⟩
 ·rw [<-Ca];congr 1;omega
 ·have f2:Frm w w2 []:=Xa.new Va (fun q hq=>by simp at hq;omega)
  have f3:Frm w w3 []:=f2.new (⟨Fa.os,Fa.tape,Fa.output,Fa.size,Fa.block⟩:Frm w2 w3 [w.heap.size]) (fun q hq=>by simp at hq;omega)
  exact f3.mono (fun q hq=>by simp at hq)
theorem zlY {w:Xk} {g:Nat} {C:Xj} {T:Xm} (h:Loc w g C.toArray T):w.shape? g=some (T,C.length):=by
 unfold Loc at h
 simp [World.shape?,h]
set_option maxHeartbeats 8000000 in
theorem ztC (w:Xk) (g n cap i vb:Nat) (xs C:Xj) (h:w.ownsRow 0 132 2 (.slice (some ⟨g,0,none⟩) n cap) n xs) (hC:C.length=2) (hl:Loc w vb C.toArray 132) (h1:∀u∈C,u.oneCell'=true) (hx1:∀u∈xs,u.oneCell'=true) (hn:n<=100000) (hi:i<n) (hroom:n+1<=cap) (hvb:vb≠g) :
  Calls Tryz.prog 199 #[.slice (some ⟨g,0,none⟩) n cap,.int .i64 i,.slice (some ⟨vb,0,none⟩) 1 1] w (zjA w (.slice (some ⟨g,0,none⟩) n cap) n (xs.take (i*2)++(C++xs.drop (i*2)))):=by
 obtain⟨i0,Oa,da,Na,ma⟩:=info_parts Tryz.info132
 have Ka:(Tryz.prog.info? 132).map (·.size)=some 2:=by rw [Oa];simp [Na]
 have Ga:∀w,(sizeOf 132).run Tryz.prog w=.ok 2 w:=fun w=>by simp [sizeOf,typeInfo,Oa,Na]
 have ca:=h.1
 obtain⟨R0,hg,ha,Ha,La,Ia⟩:=zlI h
 have Ta:∀lb cb,(callFunc 233 #[.slice (some ⟨vb,0,none⟩) 1 1,.slice (some ⟨g,(i+1)*2,none⟩) lb cb]).run Tryz.prog w=.ok (.value (.bool false)) w:=fun lb cb=>by
  rw [run_callFunc_extern Tryz.func233 (by kernel_rfl) (by kernel_rfl) (by kernel_rfl) (e:=Extern.SlicesOverlaps.overlaps #[26,26] #[4]) (by kernel_rfl),
   Lib.run_overlaps_apart w 26 4 132 Tryz.underlying26 2 Ga ⟨vb,0,none⟩ ⟨g,(i+1)*2,none⟩ 1 1 lb cb hvb _ _ _ _ (zlY hl) (zlY hg) (by rw [La];omega) (hl.frozen 0) (hl.frozen _)]
  rfl
 have ga:i*2<=n*2:=Nat.mul_le_mul_right _ (by omega)
 have Ua:R0.take (i*2)=xs.take (i*2):=by rw [<-Ia,List.take_take,Nat.min_eq_left (by omega)]
 have Ma:(xs.drop (i*2)).length=(n-i)*2:=by rw [List.length_drop];omega
 have Wa:∀u∈xs.drop (i*2),u.oneCell'=true:=fun u hu=>hx1 u (List.mem_of_mem_drop hu)
 have Aa:∀j u,(xs.drop (i*2))[j]? = some u->w.drew.cell? ((⟨g,i*2,none⟩:Addr).add j)=some u:=fun j u hj=>by
  have:w.cell? ((⟨g,i*2,none⟩:Addr).add j)=some u:=by
   rw [zbp,hg.cell]
   rw [List.getElem?_drop,<-Ia,List.getElem?_take]at hj
   split at hj
   ·simpa using hj
   ·cases hj
  exact this
 have Pa:w.drew.heap[g]? = some (.cells R0.toArray 132 (0,0)):=hg
 have ba:Frm w w.drew []:=⟨rfl,rfl,rfl,Nat.le_refl _,fun _ _ _=>rfl⟩
 have Za:Loc w.drew vb C.toArray 132:=hl
 have HM:=hide (show n-i=Nat.min (n+1-i) (n-i) by simp only [Nat.min_def];split<;>omega)
 have Qa:=hide (show 1=Nat.min 1 (n+1-i) by simp only [Nat.min_def];split<;>omega)
 have ia:IntKind.i64.wrap ((i:Int)+1)=(i:Int)+1:=by rw [IntKind.wrap_i64];omega
 have ea:((i:Int)+1).toNat=i+1:=by omega
 have la:(0:Int)<=(i:Int)+1:=by omega
 have aa:i<=n:=by omega
 have na:(i:Int)<=(n:Int):=by omega
 have ja:¬ (cap=i+1):=by omega
 have ka:¬ (cap=i):=by omega
 have fa:(i:Int)<=(n:Int)+1:=by omega
 have Ra:cap<=9223372036854775807:=by unfold maxLen at Ha;omega
 have Ca:=length_splice R0 ((i+1)*2) (xs.drop (i*2)) (by omega)
 clear h
 go_enter Tryz.func199,Tryz.ntmps199
 go_wp2_with (simp only [Ta])
 go_region_law (refine zlF rfl _ _ 26 26 rfl 132 2 Tryz.underlying26 Ka g ((i+1)*2) (n-i) (cap-(i+1)) ⟨g,i*2,none⟩ (n+1-i) (cap-i) (by simp [Act.eval,Act.put]) (by simp [Act.eval,Act.put]) R0 132 Pa (xs.drop (i*2)) (n-i) (zaa HM) Ma Aa (by omega) Wa ?_;intro w3 Va Ja)
 have Fa:=zaa Va
 have Ya:Loc w3 vb C.toArray 132:=Za.frm Ja (by simpa using hvb)
 go_wp2_with (refine ziH rfl _ _ 26 26 rfl 132 2 Tryz.underlying26 Ka g (i*2) (n+1-i) (cap-i) ⟨vb,0,none⟩ 1 1 ?_ ?_ (splice R0 ((i+1)*2) (xs.drop (i*2))) 132 ?_ C 1 (zaa Qa) (by omega) ?_ (by omega) h1 ?_;rfl;rfl;exact Fa;exact zhJ Ya;intro w4 Sa Xa)
 go_ret
 have Da:=zwY R0 C (xs.drop (i*2)) (i*2) 2 ((n-i)*2) hC Ma (by omega)
 rw [Ua]at Da
 have Ba:Loc w4 g (splice (splice R0 (i*2+2) (xs.drop (i*2))) (i*2) C).toArray 132:=by
  have:=zaa Sa
  rw [show (i+1)*2=i*2+2 by omega]at this
  exact this
 refine⟨g,cap,rfl,znH Ba hroom Ha ?_ ?_,?_,.inl rfl,Ba.lt⟩
 ·rw [show (i+1)*2=i*2+2 by omega]at Ca
  rw [length_splice _ _ _ (by omega),Ca];exact La
 ·rw [<-Da];congr 1;omega
 ·exact ((ba.mono (fun q hq=>by simp at hq)).trans Ja).trans Xa
end Go.Proofs.YtgjolijncmkkhaaGreatDoor
