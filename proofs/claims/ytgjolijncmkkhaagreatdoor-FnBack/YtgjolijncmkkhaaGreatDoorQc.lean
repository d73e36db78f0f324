/- Own texts joined: Rng, NameI, CmpI, AttrI, PartI, OpenE, OpenT, Pre, WalkI, NodeI. -/
import Derived.Test.YtgjolijncmkkhaaGreatDoorQa
import Derived.Test.YtgjolijncmkkhaaGreatDoorQb
import Derived.RangeFuncNested
import Derived.RangeFuncBound
import Derived.RangeFuncCalls
import Derived.RangeFuncLeaves
import Derived.Shelf.Abstract
import Derived.WalkKit
import Derived.OwnWalkIn
import Derived.TacticsInMore
import Derived.LoopNIn
import Derived.LoopIn
import Derived.Test.YtgjolijncmkkhaaGreatDoorChecked
import Derived.Lib.BytesEntry
import Derived.Lib.Bytealg
import Derived.Laws.Externs
import Derived.Test.YtgjolijncmkkhaaGreatDoorProg
import Derived.ChangeArms
import Derived.ChangeSlices
import Derived.WideShapes
namespace Go.Proofs.YtgjolijncmkkhaaGreatDoor
open Go.RowKit Go.Shelf
set_option linter.unusedVariables false
def zjb {β:Type} (D:Nat) (I:β->Xk->Prop):Prop:=
 ∀s W W' row,I s W->W.grownBy W' row->(∀r,row=some r->r=D∨r=D+1)->I s W'
def BooksSame (D:Nat) (W W':Xk):Prop:=W'.heap[D]? = W.heap[D]?∧W'.heap[D+1]? = W.heap[D+1]?
def zti {α:Type} (D:Nat) (Mt:Nat->Obj->Prop) (I Ix:List α->Xk->Prop) (ys:List α) (W:Xk):Exit->Act->Xk->Prop
 | .normal,_,W'=>BooksSame D W W'∧Frp Mt W W'∧I ys W'
 | .ret,_,W'=>BooksSame D W W'∧Ix ys W'
 | _,_,_=>False
def zuH {α:Type} (P:Program) (gf:Nat) (lb:Array Xl) (encs:α->Array Xl) (Bx:Obj->Prop) (Mt:Nat->Obj->Prop) (xs:List α) (l:Nat) (w:Xk):Prop:=
 ∀(J Jx:List α->Xk->Prop),(∀s W W',J s W->W.grownBy W' none->J s W')->
  (∀m pre x W1,J pre W1->pre++[x] <+: xs->YieldAt Fence.wide m P l (encs x) W1 fun e W'=>
   (e=.returned (.bool true)∧J (pre++[x]) W'∧Frp Mt W1 W')∨(e=.returned (.bool false)∧Jx (pre++[x]) W'))->
  ∀(n:Nat) (W:Xk),Below w.heap.size w W->(∀q o,W.heap.size<=q->Bx o->¬ Mt q o)->J [] W->
   CallsIn Fence.wide n P gf (#[.func (.yield l) #[] #[]]++lb) W fun e W'=>(∃v,e=.returned v)∧(J xs W'∨∃pre,pre <+: xs∧Jx pre W')
theorem ztS {m m':Nat} {P:Program} {l:Nat} {f:FuncId} {tmps:Array Xl} {assign body:Code} {w:Xk} {R:Ending->Xk->Prop}
  (h:RoundIn Fence.wide m P l f tmps assign body w R):RoundIn Fence.wide m' P l f tmps assign body w R:=⟨h.1,fun c cs _=>h.2 c cs (room_wide _)⟩
variable {P:Program}
theorem zvI {α:Type} {n m D:Nat} {Mt:Nat->Obj->Prop} {fn:FuncId} {rec:LoopState->Option Code->Loop} {tmps:Array Xl} {assign body:Code}
  (I Ix:List α->Xk->Prop) (hI:zjb D I) (hIx:zjb D Ix) (hG:∀r,Mt (D+1) (.loop r)) (hrec:∀st pe st' pe',{ rec st pe with state:=st',pending:=pe' }=rec st' pe') (hst:∀st pe,(rec st pe).state=st)
  {pre:List α} {x:α} {W:Xk} (Ax:Act->Xk->Prop) (hAx:∀a',zjb D (fun (_:Unit) W=>Ax a' W))
  (hi:I pre W) (hD:W.heap[D]? = some (.deferred (some []))) (hL:W.heap[D+1]? = some (.loop (rec .ready none)))
  (hassign:∀K:Act->Xk->Prop,(∀a' W',Below W.heap.size W W'->Ax a' W'->K a' W')->assign.wpIn (Fence.wide.inRound (D+1)) n P (Exit.then K (fun _ _ _=>False)) { tmps:=tmps,defers:=[] } W)
  (hbody:∀a' W',I pre W'->Ax a' W'->D+2<=W'.heap.size->body.wpIn (Fence.wide.inRound (D+1)) n P (zti D Mt I Ix (pre++[x]) W') a' W') :
  RoundIn Fence.wide m P (D+1) fn tmps assign body W fun e W'=>
   (e=.returned (.bool true)∧(I (pre++[x]) W'∧W'.heap[D]? = some (.deferred (some []))∧W'.heap[D+1]? = some (.loop (rec .ready none)))∧Frp Mt W W')∨
   (e=.returned (.bool false)∧Ix (pre++[x]) W'∧W'.heap[D]? = some (.deferred (some []))∧W'.heap[D+1]? = some (.loop (rec .done (some .ret)))):=by
 refine ztS (m:=n) (roundIn_of_wpIn trivial (hassign _ ?_))
 intro a' W1 Ba Xa
 have Ra:D+1<W.heap.size:=(Array.getElem?_eq_some_iff.1 hL).1
 have Qa:I pre W1:=hI pre W W1 none hi ⟨Ba.os,Ba.tape,Ba.output,Ba.size,fun k hk _=>Ba.block k hk⟩ (fun r e=>by cases e)
 have Ua:=(Ba.block D (by omega)).trans hD
 have Ha:=(Ba.block (D+1) Ra).trans hL
 have Ga:D+1<W1.heap.size:=(Array.getElem?_eq_some_iff.1 Ha).1
 refine⟨_,run_beginRound Ha (hst _ _),?_⟩
 obtain⟨W2,Ca⟩:∃W2,W1.putObj (D+1) (.loop { rec .ready none with state:=.busy })=W2:=⟨_,rfl⟩
 have Ja:W1.grownBy W2 (some (D+1)):=by rw [<-Ca];exact grownBy_putObj' W1 (D+1) _
 have Na:W2.heap[D+1]? = some (.loop { rec .ready none with state:=.busy }):=by rw [<-Ca];exact World.putObj_heap_same Ga
 have Va:W2.heap[D]? = some (.deferred (some [])):=by rw [<-Ca];exact (World.putObj_heap_other (by omega)).trans Ua
 have Wa:Frp Mt W W2:=(Frp.ofBelow Ba Mt).trans (Frp.ofFrm (Frm.ofGrown Ja) (fun g h o ho=>by simp at h;subst h;rw [Ha]at ho;cases ho;exact hG _))
 rw [Ca]
 have Ta:I pre W2:=hI pre W1 W2 _ Qa Ja (fun r e=>by cases e;exact .inr rfl)
 have Ia:Ax a' W2:=hAx a' () W1 W2 _ Xa Ja (fun r e=>by cases e;exact .inr rfl)
 have La:D+2<=W2.heap.size:=by have:=(Array.getElem?_eq_some_iff.1 Na).1;omega
 refine wpIn_mono (hbody a' W2 Ta Ia La) ?_
 have fin:∀(Aa:Option Code) (W3:Xk),BooksSame D W2 W3->∃W4,(Instr.endRound (D+1) Aa).run P W3=.ok (.bool Aa.isNone) W4∧W3.grownBy W4 (some (D+1))∧W4.heap[D]? = some (.deferred (some []))∧W4.heap[D+1]? = some (.loop (rec (if Aa.isNone then .ready else .done) Aa)):=by
  intro Aa W3 hb
  have Pa:=hb.2.trans Na
  have Oa:D+1<W3.heap.size:=(Array.getElem?_eq_some_iff.1 Pa).1
  refine⟨_,run_endRound Aa Pa,grownBy_putObj' W3 (D+1) _,(World.putObj_heap_other (by omega)).trans (hb.1.trans Va),?_⟩
  rw [World.putObj_heap_same Oa]
  have:=hrec .ready none (if Aa.isNone then .ready else .done) Aa
  rw [<-this]
 rintro e a3 W3 hp
 cases e with
 | normal=>
  obtain⟨hb,Sa,Ma⟩:=hp
  obtain⟨W4,hr,Da,Ka,Fa⟩:=fin none W3 hb
  exact⟨_,W4,hr,.inl ⟨rfl,⟨hI _ W3 W4 _ Ma Da (fun r e=>by cases e;exact .inr rfl),Ka,Fa⟩,(Wa.trans Sa).trans (Frp.ofFrm (Frm.ofGrown Da) (fun g h o ho=>by simp at h;subst h;rw [hb.2.trans Na]at ho;cases ho;exact hG _))⟩⟩
 | ret=>
  obtain⟨hb,Ma⟩:=hp
  obtain⟨W4,hr,Da,Ka,Fa⟩:=fin (some .ret) W3 hb
  exact⟨_,W4,hr,.inr ⟨rfl,hIx _ W3 W4 _ Ma Da (fun r e=>by cases e;exact .inr rfl),Ka,Fa⟩⟩
 | exit id=>exact hp.elim
 | goto t=>exact hp.elim
 | panic ch=>exact hp.elim
 | outgrown=>exact hp.elim
theorem ziI {α:Type} {n:Nat} {g:Operand} {ps:Array Tmp} {assign body:Code} {Q:Exit->Act->Xk->Prop} {a:Act} {w:Xk} {gf:Nat} {lb:Array Xl}
  (hg:a.eval g=.func (.func gf) #[] lb) (eg:∀args w,(callFunc gf args).run P w=.ok (.enter gf args) w)
  {encs:α->Array Xl} {Bx:Obj->Prop} {Mt:Nat->Obj->Prop} {xs:List α} (hG:∀r,Mt (w.heap.size+1) (.loop r)) (hGl:∀q o,w.heap.size+2<=q->Bx o->¬ Mt q o) (hseq:zuH P gf lb encs Bx Mt xs (w.heap.size+1) w) (hps:∀x,(encs x).size=ps.size)
  (I Ix:List α->Xk->Prop) (hI:zjb w.heap.size I) (hIx:zjb w.heap.size Ix) (h0:I [] w)
  (Ax:α->Act->Xk->Prop) (hAx:∀x a',zjb w.heap.size (fun (_:Unit) W=>Ax x a' W))
  (hassign:∀(pre:List α) (x:α) (W:Xk) (K:Act->Xk->Prop),I pre W->w.heap.size+2<=W.heap.size->(∀a' W',Below W.heap.size W W'->Ax x a' W'->K a' W')->
   assign.wpIn (Fence.wide.inRound (w.heap.size+1)) n P (Exit.then K (fun _ _ _=>False)) { tmps:=(ps.zip (encs x)).foldl (fun t (p,v)=>t.setIfInBounds p v) a.tmps,defers:=[] } W)
  (hbody:∀(pre:List α) (x:α) (a':Act) (W:Xk),I pre W->Ax x a' W->pre++[x] <+: xs->w.heap.size+2<=W.heap.size->
   body.wpIn (Fence.wide.inRound (w.heap.size+1)) n P (zti w.heap.size Mt I Ix (pre++[x]) W) a' W)
  (hdone:∀W:Xk,I xs W->W.heap[w.heap.size]? = some (.deferred (some []))->Q .normal { a with defers:={ target:=.collected w.heap.size,args:= #[] }::a.defers } W)
  (hstop:∀(pre:List α) (W:Xk),pre <+: xs->Ix pre W->W.heap[w.heap.size]? = some (.deferred (some []))->Code.ret.wpIn Fence.wide n P Q { a with defers:={ target:=.collected w.heap.size,args:= #[] }::a.defers } W) :
  (Code.rangeFunc g ps assign body).wpIn Fence.wide n P Q a w:=by
 refine wpIn_rangeFunc ?_
 intro fn Na
 obtain⟨Ba,Aa⟩:∃Ba:LoopState->Option Code->Loop,Ba=fun st pe=>{ state:=st,pending:=pe,fn,tmps:=a.tmps,params:=ps,assign,body,defers:=w.heap.size }:=⟨_,rfl⟩
 obtain⟨W1,Da⟩:∃W1,(w.alloc (.deferred (some []))).alloc (.loop (Ba .ready none))=W1:=⟨_,rfl⟩
 have Ha:W1.heap[w.heap.size+1]? = some (.loop (Ba .ready none)):=by
  rw [<-Da];have:=World.alloc_heap_new (w.alloc (.deferred (some []))) (.loop (Ba .ready none));rwa [World.size_alloc]at this
 have Ka:W1.heap[w.heap.size]? = some (.deferred (some [])):=by
  rw [<-Da];exact (Below.heap_alloc _ _ _ (by simp)).trans (World.alloc_heap_new w _)
 have Ca:Below w.heap.size w W1:=by rw [<-Da];exact ((Below.refl _ w).alloc (Nat.le_refl _) _).alloc (by simp) _
 have La:I [] W1:=hI [] w W1 none h0 ⟨Ca.os,Ca.tape,Ca.output,Ca.size,fun k hk _=>Ca.block k hk⟩ (fun r e=>by cases e)
 refine⟨w.heap.size+1,[{ target:=.collected w.heap.size,args:= #[] }],W1,{ target:=.fn (.func gf) lb,args:= #[.func (.yield (w.heap.size+1)) #[] #[]] },W1,gf,
  #[.func (.yield (w.heap.size+1)) #[] #[]]++lb,W1,?_,?_,fun _ _=>trivial,?_,(fun h=>(by cases h)),?_⟩
 ·rw [<-Da,Aa];exact run_enterLoop_outer _ _ _ _ _
 ·simp only [resolve,hg]
  simp [go_sem]
 ·simp [invoke,go_sem,eg]
 ·refine (hseq
   (fun pre W=>I pre W∧W.heap[w.heap.size]? = some (.deferred (some []))∧W.heap[w.heap.size+1]? = some (.loop (Ba .ready none)))
   (fun pre W=>Ix pre W∧W.heap[w.heap.size]? = some (.deferred (some []))∧W.heap[w.heap.size+1]? = some (.loop (Ba .done (some .ret)))) ?_ ?_ (n-1) W1 Ca (fun q o h hb=>hGl q o (by have:=(Array.getElem?_eq_some_iff.1 Ha).1;omega) hb) ⟨La,Ka,Ha⟩).mono ?_
  ·rintro s W W' ⟨hi,hD,hL⟩ Fa
   exact⟨hI s W W' none hi Fa (fun r e=>by cases e),(Fa.block _ (Array.getElem?_eq_some_iff.1 hD).1 (by simp)).trans hD,(Fa.block _ (Array.getElem?_eq_some_iff.1 hL).1 (by simp)).trans hL⟩
  ·rintro m pre x W ⟨hi,hD,hL⟩ Ia
   have hy:=run_yield (P:=P) (args:=encs x) hL (by rw [Aa];exact hps x)
   rw [Aa]at hy
   refine⟨fn,_,assign,body,hy,?_⟩
   refine (zvI (n:=n) (m:=m) (fn:=fn) (x:=x) I Ix hI hIx hG (by rw [Aa];exact fun _ _ _ _=>rfl) (by rw [Aa];exact fun _ _=>rfl) (Ax x) (hAx x) hi hD hL (fun K hK=>hassign pre x W K hi (by have:=(Array.getElem?_eq_some_iff.1 hL).1;omega) hK) (fun a' W' Ja Ma hl=>hbody pre x a' W' Ja Ma Ia hl)).mono ?_
   rintro e W' (⟨rfl,h1,h2⟩ | ⟨rfl,h1⟩)
   ·exact .inl ⟨rfl,h1,h2⟩
   ·exact .inr ⟨rfl,h1⟩
  ·rintro e W2 ⟨⟨v,rfl⟩,(⟨hi,hD,hL⟩ | ⟨pre,Ga,hi,hD,hL⟩)⟩
   ·have he:=run_endLoop (P:=P) hL (by rw [Aa];simp)
    rw [Aa]at he
    exact⟨none,_,he,hdone _ (hI xs W2 _ _ hi (grownBy_putObj' W2 _ _) (fun r e=>by cases e;exact .inr rfl)) ((World.putObj_heap_other (by omega)).trans hD)⟩
   ·have he:=run_endLoop (P:=P) hL (by rw [Aa];simp)
    rw [Aa]at he
    exact⟨some .ret,_,he,hstop pre _ Ga (hIx pre W2 _ _ hi (grownBy_putObj' W2 _ _) (fun r e=>by cases e;exact .inr rfl)) ((World.putObj_heap_other (by omega)).trans hD)⟩
end Go.Proofs.YtgjolijncmkkhaaGreatDoor
namespace Go.Proofs.YtgjolijncmkkhaaGreatDoor
open Go.RowKit
set_option linter.unusedVariables false
def zeM (x:Int):Bool:=decide (97<=x∧x<=122)
def digB (x:Int):Bool:=decide (48<=x∧x<=57)
theorem zgV {x:Int} (h:97<=x∧x<=122):zeM x=true:=by unfold zeM;simpa using h
theorem zgj {x:Int} (h:¬ (97<=x∧x<=122)):zeM x=false:=by unfold zeM;simpa using h
theorem zrk {x:Int} (h:48<=x∧x<=57):digB x=true:=by unfold digB;simpa using h
theorem zmS {x:Int} (h:¬ (48<=x∧x<=57)):digB x=false:=by unfold digB;simpa using h
theorem zdH (x:Int) (w:Xk):Calls Tryz.prog 109 #[.int .u8 x] w fun e w'=>e=.returned (.bool (zeM x))∧w'=w:=by
 by_cases h1:97<=x
 ·by_cases h2:x<=122
  ·have HD:=hide (zgV ⟨h1,h2⟩)
   go_enter Tryz.func109,Tryz.ntmps109
   go_wp2
   go_ret
   exact⟨by rw [zaa HD];rfl,rfl⟩
  ·have HD:=hide (zgj (x:=x) (by omega))
   go_enter Tryz.func109,Tryz.ntmps109
   go_wp2
   go_ret
   exact⟨by rw [zaa HD];rfl,rfl⟩
 ·have HD:=hide (zgj (x:=x) (by omega))
  have d1:decide (97<=x)=false:=by simpa using h1
  go_enter Tryz.func109,Tryz.ntmps109
  go_wp2
  go_ret
  exact⟨by rw [zaa HD];rfl,rfl⟩
theorem zmM (x:Int) (w:Xk):Calls Tryz.prog 110 #[.int .u8 x] w fun e w'=>e=.returned (.bool (digB x))∧w'=w:=by
 by_cases h1:48<=x
 ·by_cases h2:x<=57
  ·have HD:=hide (zrk ⟨h1,h2⟩)
   go_enter Tryz.func110,Tryz.ntmps110
   go_wp2
   go_ret
   exact⟨by rw [zaa HD];rfl,rfl⟩
  ·have HD:=hide (zmS (x:=x) (by omega))
   go_enter Tryz.func110,Tryz.ntmps110
   go_wp2
   go_ret
   exact⟨by rw [zaa HD];rfl,rfl⟩
 ·have HD:=hide (zmS (x:=x) (by omega))
  have d1:decide (48<=x)=false:=by simpa using h1
  go_enter Tryz.func110,Tryz.ntmps110
  go_wp2
  go_ret
  exact⟨by rw [zaa HD];rfl,rfl⟩
def zfJ (x:Int):Bool:=decide (32<=x∧x<=126)
theorem zlt {x:Int} (h:32<=x∧x<=126):zfJ x=true:=by unfold zfJ;simpa using h
theorem ziG {x:Int} (h:¬ (32<=x∧x<=126)):zfJ x=false:=by unfold zfJ;simpa using h
theorem zgb (x:Int) (w:Xk):Calls Tryz.prog 112 #[.int .u8 x] w fun e w'=>e=.returned (.bool (zfJ x))∧w'=w:=by
 by_cases h1:32<=x
 ·by_cases h2:x<=126
  ·have HD:=hide (zlt ⟨h1,h2⟩)
   go_enter Tryz.func112,Tryz.ntmps112
   go_wp2
   go_ret
   exact⟨by rw [zaa HD];rfl,rfl⟩
  ·have HD:=hide (ziG (x:=x) (by omega))
   go_enter Tryz.func112,Tryz.ntmps112
   go_wp2
   go_ret
   exact⟨by rw [zaa HD];rfl,rfl⟩
 ·have HD:=hide (ziG (x:=x) (by omega))
  have d1:decide (32<=x)=false:=by simpa using h1
  go_enter Tryz.func112,Tryz.ntmps112
  go_wp2
  go_ret
  exact⟨by rw [zaa HD];rfl,rfl⟩
theorem zrx (w:Xk) (a:Xi) (n cap:Nat) (h:n<1∨8<n) :
  Calls Tryz.prog 64 #[.slice a n cap] w fun e w'=>e=.returned (.bool false)∧w'=w:=by
 by_cases h1:n<1
 ·have Aa:(n:Int)<1:=by omega
  go_enter Tryz.func64,Tryz.ntmps64
  go_wp2_with fail
  go_ret
  exact⟨rfl,rfl⟩
 ·have Aa:decide ((n:Int)<1)=false:=by simp;omega
  have h2:(8:Int)<(n:Int):=by omega
  go_enter Tryz.func64,Tryz.ntmps64
  go_wp2_with fail
  go_ret
  exact⟨rfl,rfl⟩
open Classical in
set_option maxHeartbeats 1600000 in
theorem zwH (w:Xk) (b off cap:Nat) (l:Xg) (hok:okB l) (h1:1<=l.length) (h8:l.length<=8)
  (hc:∀i,i<l.length->w.cell? ⟨b,off+i,none⟩=some (.int .u8 (l.getD i 0))) :
  Calls Tryz.prog 64 #[.slice (some ⟨b,off,none⟩) l.length cap] w fun e w'=>e=.returned (.bool (decide (zat l)))∧w'=w:=by
 have d1:decide ((l.length:Int)<1)=false:=by simp;omega
 have d2:decide ((8:Int)<(l.length:Int))=false:=by simp;omega
 have Da:(0:Int)<(l.length:Int):=by omega
 obtain⟨y,hy⟩:∃y,y=l.getD 0 0:=⟨_,rfl⟩
 have Ca:w.cell? ⟨b,off,none⟩=some (.int .u8 y):=by rw [hy];exact hc 0 (by omega)
 have HY:=hide hy
 clear hy
 by_cases hs:97<=y∧y<=122
 ·have sy:=zgV hs
  go_enter Tryz.func64,Tryz.ntmps64
  go_wp2_with (go_at_call 109;refine (zdH y w).mono ?_;rintro e w' ⟨rfl,rfl⟩)
  go_loop [22] (fun i=>∃k:Nat,k<=l.length∧i=.int .i64 k∧zex zcR l k) (fun i=>l.length-(intOf i).toNat)
  case atStart=>exact⟨0,Nat.zero_le _,rfl,fun i hi=>by omega⟩
  case round=>
   obtain⟨k,hk,rfl,ha⟩:=hrel
   have HA:=hide ha
   clear ha
   by_cases hlt:k<l.length
   ·obtain⟨x,hx⟩:∃x,x=l.getD k 0:=⟨_,rfl⟩
    have Fa:w'.cell? ⟨b,off+k,none⟩=some (.int .u8 x):=by rw [hx];exact hc _ hlt
    have HX:=hide hx
    have Aa:(k:Int)<(l.length:Int):=by omega
    clear hc Ca sy hx
    by_cases hn:97<=x∧x<=122
    ·have HN:=hide (show zcR k x from .inl hn)
     have sx:=zgV hn
     clear hn
     go_wp2_with (go_at_call 109;refine (zdH x _).mono ?_;rintro e w' ⟨rfl,rfl⟩)
     go_round
     case rel=>exact⟨k+1,by omega,by go_num,zeb (zaa HA) (by rw [<-zaa HX];exact zaa HN)⟩
     case measure=>simp [intOf];omega
    ·have sx:=zgj hn
     by_cases hd:48<=x∧x<=57
     ·have Ba:0<k:=by
       by_cases e:k=0
       ·subst e;exact absurd hs (by rw [zaa HY,<-zaa HX];exact hn)
       ·omega
      have HN:=hide (show zcR k x from .inr ⟨Ba,hd⟩)
      have sd:=zrk hd
      clear hn hd
      go_wp2_with (first | (go_at_call 109;refine (zdH x _).mono ?_;rintro e w' ⟨rfl,rfl⟩) | (go_at_call 110;refine (zmM x _).mono ?_;rintro e w' ⟨rfl,rfl⟩))
      go_round
      case rel=>exact⟨k+1,by omega,by go_num,zeb (zaa HA) (by rw [<-zaa HX];exact zaa HN)⟩
      case measure=>simp [intOf];omega
     ·have sd:=zmS hd
      have HF:=hide (show decide (zat l)=false by
       simp only [decide_eq_false_iff_not]
       rintro⟨_,_,h⟩
       have:=h k hlt
       rw [<-zaa HX]at this
       rcases this with h | ⟨_,h⟩
       ·exact hn h
       ·exact hd h)
      clear hn hd
      go_wp2_with (first | (go_at_call 109;refine (zdH x _).mono ?_;rintro e w' ⟨rfl,rfl⟩) | (go_at_call 110;refine (zmM x _).mono ?_;rintro e w' ⟨rfl,rfl⟩))
      go_ret
      exact⟨by rw [zaa HF];rfl,rfl⟩
   ·have e:k=l.length:=by omega
    subst e
    have HF:=hide (show decide (zat l)=true by simp only [decide_eq_true_eq];exact⟨h1,h8,zaa HA⟩)
    clear hc
    go_wp2_with fail
    go_ret
    exact⟨by rw [zaa HF];rfl,rfl⟩
 ·have sy:=zgj hs
  have HF:=hide (show decide (zat l)=false by
   simp only [decide_eq_false_iff_not]
   rintro⟨_,_,h⟩
   have:=h 0 (by omega)
   rw [<-zaa HY]at this
   rcases this with h | ⟨h,_⟩
   ·exact hs h
   ·omega)
  clear hc hs
  go_enter Tryz.func64,Tryz.ntmps64
  go_wp2_with (go_at_call 109;refine (zdH y w).mono ?_;rintro e w' ⟨rfl,rfl⟩)
  go_ret
  exact⟨by rw [zaa HF];rfl,rfl⟩
open Classical in
theorem zfZ (w:Xk) (v:Xl) (l:Xg) (h:Byt w v l) :
  Calls Tryz.prog 64 #[v] w fun e w'=>e=.returned (.bool (decide (zat l)))∧w'=w:=by
 by_cases hl:l.length<1∨8<l.length
 ·obtain⟨a,Aa,rfl,_⟩:=h.shape
  have hd:decide (zat l)=false:=by simp only [decide_eq_false_iff_not];rintro⟨_,_,_⟩;omega
  rw [hd]
  exact zrx w a _ Aa hl
 ·obtain⟨Ba,hm,⟨rfl,rfl⟩ | ⟨x,Aa,rfl,hc,rfl⟩ | ⟨b,Ca,Aa,rfl,_,_,_,_,h5⟩⟩:=h
  ·simp at hl
  ·simp at hl
  ·exact zwH w b Ca Aa l Ba (by omega) (by omega) h5
theorem zoq (w:Xk) (v:Xl) (l:Xg) (h:Byt w v l) (hn:zat l):Calls Tryz.prog 64 #[v] w fun e w'=>e=.returned (.bool true)∧w'=w:=by
 refine (zfZ w v l h).mono ?_
 rintro e w' ⟨rfl,h⟩
 exact⟨by simp [hn],h⟩
theorem zxv (w:Xk) (v:Xl) (l:Xg) (h:Byt w v l) (hn:¬ zat l):Calls Tryz.prog 64 #[v] w fun e w'=>e=.returned (.bool false)∧w'=w:=by
 refine (zfZ w v l h).mono ?_
 rintro e w' ⟨rfl,h⟩
 exact⟨by simp [hn],h⟩
open Classical in
set_option maxHeartbeats 1600000 in
theorem znS (w:Xk) (v:Xl) (l:Xg) (h:Byt w v l) :
  Calls Tryz.prog 66 #[v] w fun e w'=>e=.returned (.bool (decide (zar l)))∧w'=w:=by
 by_cases hl:30<l.length
 ·obtain⟨a,Aa,rfl,_⟩:=h.shape
  have HD:=hide (show decide (zar l)=false by simp only [decide_eq_false_iff_not];rintro⟨_,_⟩;omega)
  have d2:(30:Int)<(l.length:Int):=by omega
  go_enter Tryz.func66,Tryz.ntmps66
  go_wp2
  go_ret
  exact⟨by rw [zaa HD];rfl,rfl⟩
 have d2:¬ (30:Int)<(l.length:Int):=by omega
 by_cases h0:l=[]
 ·obtain⟨a,Aa,rfl,_⟩:=h.shape
  subst h0
  have HD:=hide (show decide (zar [])=true by simp only [decide_eq_true_eq];exact⟨by simp,fun i hi=>by simp at hi⟩)
  go_enter Tryz.func66,Tryz.ntmps66
  go_wp2
  refine wp_loop_rounds 1 ?_
  rw [rounds_succ]
  go_wp2
  go_ret
  exact⟨by rw [zaa HD];rfl,rfl⟩
 obtain⟨Fa,hm,⟨_,e⟩ | ⟨_,_,_,_,e⟩ | ⟨b,Ba,Aa,rfl,_,_,_,_,hc⟩⟩:=h
 ·exact absurd e h0
 ·exact absurd e h0
 go_enter Tryz.func66,Tryz.ntmps66
 go_wp2
 go_loop [10] (fun i=>∃k:Nat,k<=l.length∧i=.int .i64 k∧zex zcD l k) (fun i=>l.length-(intOf i).toNat)
 case atStart=>exact⟨0,Nat.zero_le _,rfl,fun i hi=>by omega⟩
 case round=>
  obtain⟨k,hk,rfl,ha⟩:=hrel
  have HA:=hide ha
  clear ha
  by_cases hlt:k<l.length
  ·obtain⟨x,hx⟩:∃x,x=l.getD k 0:=⟨_,rfl⟩
   have Da:w.cell? ⟨b,Ba+k,none⟩=some (.int .u8 x):=by rw [hx];exact hc _ hlt
   have HX:=hide hx
   have Ca:(k:Int)<(l.length:Int):=by omega
   clear hc hx
   by_cases hn:zcD k x
   ·have HN:=hide hn
    have sx:=zlt (x:=x) (by unfold zcD at hn;omega)
    clear hn
    go_wp2_with (go_at_call 112;refine (zgb x _).mono ?_;rintro e w' ⟨rfl,rfl⟩)
    go_round
    case rel=>exact⟨k+1,by omega,by go_num,zeb (zaa HA) (by rw [<-zaa HX];exact zaa HN)⟩
    case measure=>simp [intOf];omega
   ·have HF:=hide (show decide (zar l)=false by
     simp only [decide_eq_false_iff_not]
     rintro⟨_,h⟩
     exact hn (by rw [zaa HX];exact h k hlt))
    have sx:=ziG (x:=x) (by unfold zcD at hn;omega)
    clear hn
    go_wp2_with (go_at_call 112;refine (zgb x _).mono ?_;rintro e w' ⟨rfl,rfl⟩)
    go_ret
    exact⟨by rw [zaa HF];rfl,rfl⟩
  ·have e:k=l.length:=by omega
   subst e
   have HF:=hide (show decide (zar l)=true by simp only [decide_eq_true_eq];exact⟨by omega,zaa HA⟩)
   clear hc
   go_wp2
   go_ret
   exact⟨by rw [zaa HF];rfl,rfl⟩
set_option maxRecDepth 100000
theorem zit (w:Xk) (u:Xl) (a:Xg) (h:Byt w u a):(Extern.Bytes.bytesOf u).run Tryz.prog w=.ok ⟨(Lib.bytesOf a).toArray⟩ w:=by
 obtain⟨Ba,_,⟨rfl,rfl⟩ | ⟨x,Da,rfl,hc,rfl⟩ | ⟨p,Aa,Da,rfl,h1,h2,h3,h4,h5⟩⟩:=h
 ·rfl
 ·rfl
 ·have hl:=Lib.run_loadBytesX (P:=Tryz.prog) w a ⟨p,Aa,none⟩ .empty (fun j x hj=>by
   have Ca:j<a.length:=(List.getElem?_eq_some_iff.1 hj).1
   rw [zbp,h5 j Ca,List.getD_eq_getElem?_getD,hj];rfl)
  have he:(⟨ByteArray.empty.data++(Lib.bytesOf a).toArray⟩:ByteArray)=⟨(Lib.bytesOf a).toArray⟩:=by
   apply ByteArray.ext
   show (#[]:Array UInt8)++(Lib.bytesOf a).toArray=(Lib.bytesOf a).toArray
   simp
  rw [he]at hl
  exact hl
def cmpB (a b:Xg):Int:=Lib.compareBytes (Lib.bytesOf a) (Lib.bytesOf b)
theorem zAA (w:Xk) (u v:Xl) (a b:Xg) (hu:Byt w u a) (hv:Byt w v b):(callFunc 150 #[u,v]).run Tryz.prog w=.ok (.value (.int .i64 (cmpB a b))) w:=by
 rw [run_callFunc_extern Tryz.func150 (by kernel_rfl) (by kernel_rfl) (by kernel_rfl) (e:=Extern.BytealgCompare.compare) (by kernel_rfl)]
 have e:(Extern.BytealgCompare.compare #[u,v]).run Tryz.prog w=.ok (.int .i64 (cmpB a b)) w:=by
  change Sem.run Tryz.prog (do pure (goInt (Extern.BytealgCompare.cmp (<-Extern.Bytes.bytesOf u) (<-Extern.Bytes.bytesOf v)))) w=_
  simp only [Sem.run_bind,Sem.run_pure,zit w u a hu,zit w v b hv,Result.andThen]
  rw [Lib.cmp_eq]
  rfl
 rw [e]
 rfl
theorem ziX:∀(a b:List UInt8),Op.bytesLess a b=decide (Lib.compareBytes a b<0)
 | [],[]=>rfl
 | [],_::_=>rfl
 | _::_,[]=>rfl
 | x::a,y::b=>by
  have ih:=ziX a b
  unfold Op.bytesLess Lib.compareBytes
  by_cases h1:x<y
  ·simp [h1]
  ·by_cases h2:y<x
   ·have Aa:¬ x=y:=fun e=>by subst e;exact h1 h2
    simp [h1,h2,Aa]
   ·have he:x=y:=UInt8.le_antisymm (UInt8.not_lt.1 h2) (UInt8.not_lt.1 h1)
    subst he
    simp [h1,ih]
theorem zow (a b:Xg):zfd a b=decide (cmpB a b<0):=by
 unfold zfd cmpB
 rw [zbJ,zbJ,zcd,zcd,ziX]
 rfl
theorem zqw (w:Xk) (u v:Xl) (a b:Xg) (hu:Byt w u a) (hv:Byt w v b) :
  Calls Tryz.prog 111 #[u,v] w fun e w'=>e=.returned (.int .i64 (cmpB a b))∧w'=w:=by
 have hr:=zAA w u v a b hu hv
 obtain⟨a1,k1,rfl,_⟩:=hu.shape
 obtain⟨a2,k2,rfl,_⟩:=hv.shape
 generalize cmpB a b=c at *
 go_enter Tryz.func111,Tryz.ntmps111
 go_wp2
 go_ret
 exact⟨rfl,rfl⟩
open Classical in
set_option maxHeartbeats 3200000 in
theorem zuS (w:Xk) (v:Xl) (l:List (Xg×Xg)) (h:RdAttrs w v l) :
  Calls Tryz.prog 65 #[v] w fun e w'=>e=.returned (.bool (decide (zaC l)))∧Below w.heap.size w w':=by
 by_cases hl:4<l.length
 ·obtain⟨a,Qa,rfl,_⟩:=Elems.shape h
  have HD:=hide (show decide (zaC l)=false by simp only [decide_eq_false_iff_not];rintro⟨_,_⟩;omega)
  have d2:(4:Int)<(l.length:Int):=by omega
  go_enter Tryz.func65,Tryz.ntmps65
  go_wp2_with fail
  go_ret
  exact⟨by rw [zaa HD];rfl,Below.refl _ _⟩
 have d2:¬ (4:Int)<(l.length:Int):=by omega
 by_cases h0:l=[]
 ·obtain⟨a,Qa,rfl,_⟩:=Elems.shape h
  subst h0
  have HD:=hide (show decide (zaC [])=true by simp only [decide_eq_true_eq];exact⟨by simp,fun i hi=>by simp at hi⟩)
  go_enter Tryz.func65,Tryz.ntmps65
  go_wp2_with fail
  refine wp_loop_rounds 1 ?_
  rw [rounds_succ]
  go_wp2_with fail
  go_ret
  exact⟨by rw [zaa HD];rfl,Below.refl _ _⟩
 obtain⟨_,⟨_,e⟩ | ⟨_,_,_,_,e⟩ | ⟨b,Ja,Qa,rfl,g1,g2,g3,g4,g5⟩⟩:=h
 ·exact absurd e h0
 ·exact absurd e h0
 go_enter Tryz.func65,Tryz.ntmps65
 go_wp2_with fail
 go_loopw [10] (fun i wr=>∃k:Nat,k<=l.length∧i=.int .i64 k∧(∀i,i<k->zda l i)∧Below w.heap.size w wr) (fun i _=>l.length-(intOf i).toNat)
 case atStart=>exact⟨0,Nat.zero_le _,rfl,fun i hi=>by omega,Below.refl _ _⟩
 case round=>
  obtain⟨k,hk,rfl,ha,hB⟩:=hrel
  have HA:=hide ha
  clear ha
  by_cases hlt:k<l.length
  ·obtain⟨c0,c1,e0,e1,hc⟩:=zlE (g5 k hlt)
   obtain⟨_,_,ee,Ba,Ga⟩:=hc
   simp only [List.cons.injEq,and_true]at ee
   obtain⟨rfl,rfl⟩:=ee
   replace e0:=(hB.cell (p:=⟨b,Ja+k*2,none⟩) g4).trans e0
   replace e1:=(hB.cell (p:=⟨b,Ja+k*2+1,none⟩) g4).trans e1
   replace Ba:=Ba.keep hB
   replace Ga:=Ga.keep hB
   have Ua:(k:Int)<(l.length:Int):=by omega
   have ca:(0:Int)<=(k:Int):=by omega
   obtain⟨x,hx⟩:∃x,x=l[k]:=⟨_,rfl⟩
   rw [<-hx]at Ba Ga
   have Pa:l.getD k ([],[])=x:=by rw [hx];simp [hlt]
   obtain⟨a0,n0,Va,_,_⟩:=Ba.shape
   obtain⟨a1,n1,Ta,_,_⟩:=Ga.shape
   subst Va Ta
   have Aa:=hide Pa
   have HX:=hide hx
   clear Pa hx
   have Ca:Below wr.heap.size wr (wr.alloc (.cells #[.slice a0 x.1.length n0,.slice a1 x.2.length n1] 132)):=(Below.refl _ _).alloc (Nat.le_refl _) _
   have l1:=Loc.made wr #[.slice a0 x.1.length n0,.slice a1 x.2.length n1] 132
   have Da:∀j,j<l.length->∃y:Xl,y∈[y]∧wr.cell? ⟨b,Ja+j*2,none⟩=some y∧Byt wr y (l.getD j ([],[])).1:=by
    intro j hj
    obtain⟨p0,p1,u0,u1,hp⟩:=zlE (g5 j hj)
    obtain⟨_,_,ee,Fa,Za⟩:=hp
    simp only [List.cons.injEq,and_true]at ee
    obtain⟨rfl,rfl⟩:=ee
    exact⟨_,by simp,(hB.cell (p:=⟨b,Ja+j*2,none⟩) g4).trans u0,by rw [show l.getD j ([],[])=l[j] by simp [hj]];exact Fa.keep hB⟩
   have HC:=hide Da
   clear Da g5
   have Ra:b<wr.heap.size:=Nat.lt_of_lt_of_le g4 hB.size
   generalize hn0:x.1.length=m0 at *
   generalize hn1:x.2.length=m1 at *
   clear hn0 hn1
   go_wp2_with fail
   generalize wr.alloc (.cells #[.slice a0 m0 n0,.slice a1 m1 n1] 132)=w1 at *
   have c0:w1.cell? ⟨wr.heap.size,0,none⟩=some (.slice a0 m0 n0):=l1.cell 0
   have c1:w1.cell? ⟨wr.heap.size,1,none⟩=some (.slice a1 m1 n1):=l1.cell 1
   have Ia:=zal hB Ca
   have Ha:=hide Ca
   clear Ca e0 e1
   refine (zfZ w1 _ x.1 (Ba.keep (zaa Ha))).mono ?_
   rintro e w1 ⟨rfl,rfl⟩
   by_cases hn:zat x.1
   ·rw [show decide (zat x.1)=true by simpa using hn]
    go_wp2_with fail
    refine (znS w1 _ x.2 (Ga.keep (zaa Ha))).mono ?_
    rintro e w1 ⟨rfl,rfl⟩
    by_cases ht:zar x.2
    ·rw [show decide (zar x.2)=true by simpa using ht]
     by_cases hkz:k=0
     ·have HT:=hide (show zda l k from ⟨by rw [zaa Aa];exact hn,by rw [zaa Aa];exact ht,fun h=>by omega⟩)
      subst hkz
      clear hn ht HC HX Aa Ba Ga Ha
      go_wp2_with fail
      go_quiet (fail)
      go_wp2_with fail
      go_roundw
      case rel=>exact⟨1,by omega,by go_num,fun i hi=>by obtain rfl:i=0:=(by omega);exact zaa HT,below_drewN Ia _⟩
      case measure=>simp [intOf];omega
     ·obtain⟨y,_,u0,Fa⟩:=zaa HC (k-1) (by omega)
      have Ca:=zaa Ha
      replace u0:=(Ca.cell (p:=⟨b,Ja+(k-1)*2,none⟩) Ra).trans u0
      replace Fa:=Fa.keep Ca
      have Ma:=Ba.keep Ca
      generalize hy:(l.getD (k-1) ([],[])).1=yl at *
      obtain⟨a2,n2,Sa,_,_⟩:=Fa.shape
      subst Sa
      generalize yl.length=m2 at *
      have Ya:0<k:=by omega
      have Wa:decide (0<k)=true:=by simp;omega
      have ba:(0:Int)<=(k:Int)-1:=by omega
      have aa:(k:Int)-1<(l.length:Int):=by omega
      have Xa:((k:Int)-1).toNat=k-1:=by omega
      have La:∀q,Calls Tryz.prog 111 #[.slice a2 m2 n2,.slice a0 m0 n0] (w1.drewN q) fun e w'=>e=.returned (.int .i64 (cmpB yl x.1))∧w'=w1.drewN q:=fun q=>zqw _ _ _ _ _ (Fa.keep (below_drewN (Below.refl _ _) q)) (Ma.keep (below_drewN (Below.refl _ _) q))
      have HQ:=hide La
      have Ka:=zow yl x.1
      by_cases hl2:zfd yl x.1=true
      ·have HT:=hide (show zda l k from ⟨by rw [zaa Aa];exact hn,by rw [zaa Aa];exact ht,fun _=>by rw [zaa Aa,hy];exact hl2⟩)
       have Na:decide (0<=cmpB yl x.1)=false:=by rw [Ka]at hl2;simp at hl2 ⊢;omega
       have Oa:¬ 0<=cmpB yl x.1:=by simpa using Na
       clear hn ht HX Aa Ba Ga Ha HC La Ka hl2 hy Fa Ma Ca
       generalize cmpB yl x.1=cm at *
       go_wp2_with fail
       go_quiet ((go_at_call 111;exact Calls.quiet_of_same (zaa HQ _)))
       go_wp2_with fail
       go_roundw
       case rel=>exact⟨k+1,by omega,by go_num,fun i hi=>zhg (zaa HA) (zaa HT) i hi,below_drewN Ia _⟩
       case measure=>simp [intOf];omega
      ·have HF:=hide (show decide (zaC l)=false by
        simp only [decide_eq_false_iff_not]
        rintro⟨_,h⟩
        exact hl2 (by have:=(h k hlt).2.2 (by omega);rwa [zaa Aa,hy]at this))
       have Na:decide (0<=cmpB yl x.1)=true:=by rw [Ka]at hl2;simp at hl2 ⊢;omega
       have Oa:0<=cmpB yl x.1:=by simpa using Na
       clear hn ht HX Aa Ba Ga Ha HC La Ka hl2 hy Fa Ma Ca
       generalize cmpB yl x.1=cm at *
       go_wp2_with fail
       go_quiet ((go_at_call 111;exact Calls.quiet_of_same (zaa HQ _)))
       go_wp2_with fail
       go_ret
       exact⟨by rw [zaa HF];rfl,below_drewN Ia _⟩
    ·rw [show decide (zar x.2)=false by simpa using ht]
     have HF:=hide (show decide (zaC l)=false by
      simp only [decide_eq_false_iff_not]
      rintro⟨_,h⟩
      exact ht (by have:=(h k hlt).2.1;rwa [zaa Aa]at this))
     clear hn ht
     go_wp2_with fail
     go_ret
     exact⟨by rw [zaa HF];rfl,Ia⟩
   ·have hd:decide (zat x.1)=false:=by simpa using hn
    rw [hd]
    have HF:=hide (show decide (zaC l)=false by
     simp only [decide_eq_false_iff_not]
     rintro⟨_,h⟩
     exact hn (by have:=(h k hlt).1;rwa [zaa Aa]at this))
    clear hn hd
    go_wp2_with fail
    go_ret
    exact⟨by rw [zaa HF];rfl,Ia⟩
  ·have e:k=l.length:=by omega
   subst e
   have HF:=hide (show decide (zaC l)=true by simp only [decide_eq_true_eq];exact⟨by omega,zaa HA⟩)
   clear g5
   go_wp2_with fail
   go_ret
   exact⟨by rw [zaa HF];rfl,hB⟩
def zbF {α:Type} (t:Nd α):Bool:=if t.kind=1 then zbk t else zbq t
theorem zmf {α:Type} {t:Nd α} (h:t.kind=1):zbF t=zbk t:=by rw [zbF,if_pos h]
theorem zhw {α:Type} {t:Nd α} (h:t.kind≠1):zbF t=zbq t:=by rw [zbF,if_neg h]
theorem zfv {α:Type} {t:Nd α} (h:¬ ziw t):zbq t=false:=by rw [<-Bool.not_eq_true,zbH];exact h
theorem zhF {α:Type} {t:Nd α} (h:¬ zqM t):zbk t=false:=by rw [<-Bool.not_eq_true,zbK];exact h
theorem VMade.keep {B:Nat} {w w':Xk} {g:Nat} (h:VMade B w g) (hb:Below w.heap.size w w'):VMade B w' g:=by
 obtain⟨m,Ba,hl,hm⟩:=h
 have Aa:m<w.heap.size:=by
  by_cases h:m<w.heap.size
  ·exact h
  ·rw [Array.getElem?_eq_none (by omega)]at hm;cases hm
 exact⟨m,Ba,hl.all hb,(hb.block m Aa).trans hm⟩
theorem VSet.keep {B:Nat} {w w':Xk} {g:Nat} (h:VSet B w g) (hb:Below w.heap.size w w'):VSet B w' g:=by
 rcases h with h | h
 ·exact .inl (h.all hb)
 ·exact .inr (h.keep hb)
open Classical in
set_option maxHeartbeats 3200000 in
theorem zux (B n:Nat) (w0 w:Xk) (a b c d e:Xl) (t:Tr (n+1)) (g:Nat) (h:RdNode (n+1) w0 [a,b,c,d,e] t) (hB:Below w0.heap.size w0 w) (hg:w0.heap.size<=g) (hV:VSet B w g) (hBB:B<=w.heap.size) (hz:t.kind=0) :
  Calls Tryz.prog 31 #[.agg #[a,b,c,d,e],.pointer (some ⟨g,0,none⟩)] w fun e w'=>e=.returned (.bool (zbF t))∧VSet B w' g∧Frm w w' [g]:=by
 obtain⟨_,_,_,_,e0,k1,k2,hb,hc,hd,he⟩:=h
 simp only [List.cons.injEq,and_true]at e0
 obtain⟨rfl,rfl,rfl,rfl,rfl⟩:=e0
 have HP:=hide (show zbF t=zbq t from zhw (by rw [hz];decide))
 obtain⟨ab,cb,rfl,_,_⟩:=hb.shape
 obtain⟨ac,cc,rfl,_,_⟩:=hc.shape
 obtain⟨ad,cd,rfl,_,_⟩:=Elems.shape hd
 obtain⟨ae,ce,rfl,_,_⟩:=Elems.shape he
 have Ba:Below w.heap.size w (w.alloc (.cells #[.int .i64 t.kind,.slice ab t.name.length cb,.slice ac t.text.length cc,.slice ad t.attrs.length cd,.slice ae t.kids.length ce] 29)):=(Below.refl _ _).alloc (Nat.le_refl _) _
 have l1:=Loc.made w #[.int .i64 t.kind,.slice ab t.name.length cb,.slice ac t.text.length cc,.slice ad t.attrs.length cd,.slice ae t.kids.length ce] 29
 have HX:Hid ((t.text.length≠0->zbq t=false)∧(¬ zat t.name->zbq t=false)∧(¬ zaC t.attrs->zbq t=false)∧(zat t.name->t.text.length=0->zaC t.attrs->t.kids.length=0->zbq t=true)∧(zat t.name->t.text.length=0->zaC t.attrs->t.kids.length≠0->zbq t = !decide (Void t.name))):=by
  refine⟨fun h=>zfv (fun k=>h k.2.2.1),fun h=>zfv (fun k=>h k.2.1),fun h=>zfv (fun k=>h k.2.2.2.1),fun h1 h2 h3 h4=>(zbH t).2 ⟨hz,h1,h2,h3,fun k=>by omega⟩,fun h1 h2 h3 h4=> ?_⟩
  by_cases hv:Void t.name
  ·rw [zfv (fun k=>k.2.2.2.2 ⟨hv,by omega⟩)];simp [hv]
  ·rw [(zbH t).2 ⟨hz,h1,h2,h3,fun k=>hv k.1⟩];simp [hv]
 rw [hz]at *
 have ha:Below w0.heap.size w0 (w.alloc (.cells #[.int .i64 0,.slice ab t.name.length cb,.slice ac t.text.length cc,.slice ad t.attrs.length cd,.slice ae t.kids.length ce] 29)):=hB.trans (Ba.mono hB.size)
 have Ca:=hV.keep Ba
 have F1:=Frm.ofBelow Ba [g]
 clear Ba k1 k2 hB
 go_enter Tryz.func31,Tryz.ntmps31
 go_wp2_with fail
 generalize (w.alloc (.cells #[.int .i64 0,.slice ab t.name.length cb,.slice ac t.text.length cc,.slice ad t.attrs.length cd,.slice ae t.kids.length ce] 29))=w1 at *
 have Da:=Nat.le_trans hBB F1.size
 generalize hS:w.heap.size=S at *
 clear hS
 generalize t.name.length=nb at *
 generalize t.text.length=nc at *
 generalize t.attrs.length=nd at *
 generalize t.kids.length=ne at *
 have Ja:=hb.keep ha
 have Ha:=hd.keep ha
 refine (zfZ w1 _ t.name Ja).mono ?_
 rintro e w1 ⟨rfl,rfl⟩
 obtain⟨x0,x1,x2,x3,x4⟩:=l1.five
 by_cases hn:zat t.name
 ·rw [show decide (zat t.name)=true by simpa using hn]
  by_cases htx:nc=0
  ·have Ka:((nc:Int) == 0)=true:=by simpa using htx
   go_wp2_with fail
   refine (zuS w1 _ t.attrs Ha).mono ?_
   rintro e w2 ⟨rfl,Aa⟩
   have Fa:=Ca.keep Aa
   have F2:=F1.trans (Frm.ofBelow Aa [g])
   have Ga:=ha.trans (Aa.mono ha.size)
   have l2:=l1.all Aa
   clear x0 x1 x2 x3 x4
   obtain⟨x0,x1,x2,x3,x4⟩:=l2.five
   by_cases hat:zaC t.attrs
   ·rw [show decide (zaC t.attrs)=true by simpa using hat]
    by_cases hk:ne=0
    ·have dk:((ne:Int) == 0)=true:=by simpa using hk
     have HE:=hide ((zaa HX).2.2.2.1 hn htx hat hk)
     clear hn htx hat hk HX
     go_wp2_with fail
     go_ret
     exact⟨by rw [zaa HP,zaa HE];rfl,Fa,F2⟩
    ·have dk:((ne:Int) == 0)=false:=by simpa using hk
     have HE:=hide ((zaa HX).2.2.2.2 hn htx hat hk)
     clear hn htx hat hk HX
     go_wp2_with fail
     refine (zAw B g w2 _ t.name Fa (Nat.le_trans Da Aa.size) (fun w' f=>hb.keep (Ga.trans (f.below Ga.size (fun q hq=>by simp at hq;omega))))).mono ?_
     rintro e w3 ⟨rfl,Ia,F3⟩
     generalize decide (Void t.name)=vb at *
     go_wp2_with fail
     go_ret
     exact⟨by rw [zaa HP,zaa HE];rfl,.inr Ia,F2.trans F3⟩
   ·rw [show decide (zaC t.attrs)=false by simpa using hat]
    have HE:=hide ((zaa HX).2.2.1 hat)
    clear hn htx hat HX
    go_wp2_with fail
    go_ret
    exact⟨by rw [zaa HP,zaa HE];rfl,Fa,F2⟩
  ·have Ka:((nc:Int) == 0)=false:=by simpa using htx
   have HE:=hide ((zaa HX).1 htx)
   clear hn htx HX
   go_wp2_with fail
   go_ret
   exact⟨by rw [zaa HP,zaa HE];rfl,Ca,F1⟩
 ·rw [show decide (zat t.name)=false by simpa using hn]
  have HE:=hide ((zaa HX).2.1 hn)
  clear hn HX
  go_wp2_with fail
  go_ret
  exact⟨by rw [zaa HP,zaa HE];rfl,Ca,F1⟩
open Classical in
set_option maxHeartbeats 3200000 in
theorem zup (B n:Nat) (w0 w:Xk) (a b c d e:Xl) (t:Tr (n+1)) (g:Nat) (h:RdNode (n+1) w0 [a,b,c,d,e] t) (hB:Below w0.heap.size w0 w) (hg:w0.heap.size<=g) (hV:VSet B w g) (hBB:B<=w.heap.size) (hz:t.kind=1) :
  Calls Tryz.prog 31 #[.agg #[a,b,c,d,e],.pointer (some ⟨g,0,none⟩)] w fun e w'=>e=.returned (.bool (zbF t))∧VSet B w' g∧Frm w w' [g]:=by
 obtain⟨_,_,_,_,e0,k1,k2,hb,hc,hd,he⟩:=h
 simp only [List.cons.injEq,and_true]at e0
 obtain⟨rfl,rfl,rfl,rfl,rfl⟩:=e0
 have HP:=hide (show zbF t=zbk t from zmf hz)
 obtain⟨ab,cb,rfl,_,_⟩:=hb.shape
 obtain⟨ac,cc,rfl,_,_⟩:=hc.shape
 obtain⟨ad,cd,rfl,_,_⟩:=Elems.shape hd
 obtain⟨ae,ce,rfl,_,_⟩:=Elems.shape he
 have Ba:Below w.heap.size w (w.alloc (.cells #[.int .i64 t.kind,.slice ab t.name.length cb,.slice ac t.text.length cc,.slice ad t.attrs.length cd,.slice ae t.kids.length ce] 29)):=(Below.refl _ _).alloc (Nat.le_refl _) _
 have l1:=Loc.made w #[.int .i64 t.kind,.slice ab t.name.length cb,.slice ac t.text.length cc,.slice ad t.attrs.length cd,.slice ae t.kids.length ce] 29
 have HX:Hid ((t.name.length≠0->zbk t=false)∧(¬ zar t.text->zbk t=false)∧(t.attrs.length≠0->zbk t=false)∧(t.kids.length≠0->zbk t=false)∧(t.name.length=0->zar t.text->t.attrs.length=0->t.kids.length=0->zbk t=true)):=by
  exact⟨fun h=>zhF (fun k=>h k.1),fun h=>zhF (fun k=>h k.2.2.2),fun h=>zhF (fun k=>h k.2.1),fun h=>zhF (fun k=>h k.2.2.1),fun h1 h2 h3 h4=>(zbK t).2 ⟨h1,h3,h4,h2⟩⟩
 rw [hz]at *
 have ha:Below w0.heap.size w0 (w.alloc (.cells #[.int .i64 1,.slice ab t.name.length cb,.slice ac t.text.length cc,.slice ad t.attrs.length cd,.slice ae t.kids.length ce] 29)):=hB.trans (Ba.mono hB.size)
 have Aa:=hV.keep Ba
 have F1:=Frm.ofBelow Ba [g]
 clear Ba k1 k2 hB
 go_enter Tryz.func31,Tryz.ntmps31
 by_cases hnn:t.name.length=0
 ·have dn:((t.name.length:Int) == 0)=true:=by simpa using hnn
  have HN:=hide hnn
  clear hnn
  go_wp2_with fail
  generalize (w.alloc (.cells #[.int .i64 1,.slice ab t.name.length cb,.slice ac t.text.length cc,.slice ad t.attrs.length cd,.slice ae t.kids.length ce] 29))=w1 at *
  generalize hS:w.heap.size=S at *
  clear hS
  generalize t.name.length=nb at *
  generalize t.text.length=nc at *
  generalize t.attrs.length=nd at *
  generalize t.kids.length=ne at *
  refine (znS w1 _ t.text (hc.keep ha)).mono ?_
  rintro e w1 ⟨rfl,rfl⟩
  obtain⟨x0,x1,x2,x3,x4⟩:=l1.five
  by_cases ht:zar t.text
  ·rw [show decide (zar t.text)=true by simpa using ht]
   by_cases hat:nd=0
   ·have Ca:((nd:Int) == 0)=true:=by simpa using hat
    by_cases hk:ne=0
    ·have dk:((ne:Int) == 0)=true:=by simpa using hk
     have HE:=hide ((zaa HX).2.2.2.2 (zaa HN) ht hat hk)
     clear ht hat hk HX HN
     go_wp2_with fail
     go_ret
     exact⟨by rw [zaa HP,zaa HE];rfl,Aa,F1⟩
    ·have dk:((ne:Int) == 0)=false:=by simpa using hk
     have HE:=hide ((zaa HX).2.2.2.1 hk)
     clear ht hat hk HX HN
     go_wp2_with fail
     go_ret
     exact⟨by rw [zaa HP,zaa HE];rfl,Aa,F1⟩
   ·have Ca:((nd:Int) == 0)=false:=by simpa using hat
    have HE:=hide ((zaa HX).2.2.1 hat)
    clear ht hat HX HN
    go_wp2_with fail
    go_ret
    exact⟨by rw [zaa HP,zaa HE];rfl,Aa,F1⟩
  ·rw [show decide (zar t.text)=false by simpa using ht]
   have HE:=hide ((zaa HX).2.1 ht)
   clear ht HX HN
   go_wp2_with fail
   go_ret
   exact⟨by rw [zaa HP,zaa HE];rfl,Aa,F1⟩
 ·have dn:((t.name.length:Int) == 0)=false:=by simpa using hnn
  have HE:=hide ((zaa HX).1 hnn)
  clear hnn HX
  go_wp2_with fail
  go_ret
  exact⟨by rw [zaa HP,zaa HE];rfl,Aa,F1⟩
set_option maxHeartbeats 3200000 in
theorem zuT (B n:Nat) (w0 w:Xk) (a b c d e:Xl) (t:Tr (n+1)) (g:Nat) (h:RdNode (n+1) w0 [a,b,c,d,e] t) (hV:VSet B w g) (hBB:B<=w.heap.size) (hz:t.kind≠0) (hz1:t.kind≠1) :
  Calls Tryz.prog 31 #[.agg #[a,b,c,d,e],.pointer (some ⟨g,0,none⟩)] w fun e w'=>e=.returned (.bool (zbF t))∧VSet B w' g∧Frm w w' [g]:=by
 obtain⟨_,_,_,_,e0,k1,k2,hb,hc,hd,he⟩:=h
 simp only [List.cons.injEq,and_true]at e0
 obtain⟨rfl,rfl,rfl,rfl,rfl⟩:=e0
 have HP:=hide (show zbF t=false by rw [zhw hz1];exact zfv (fun k=>hz k.1))
 obtain⟨ab,cb,rfl,_,_⟩:=hb.shape
 obtain⟨ac,cc,rfl,_,_⟩:=hc.shape
 obtain⟨ad,cd,rfl,_,_⟩:=Elems.shape hd
 obtain⟨ae,ce,rfl,_,_⟩:=Elems.shape he
 have Aa:Below w.heap.size w (w.alloc (.cells #[.int .i64 t.kind,.slice ab t.name.length cb,.slice ac t.text.length cc,.slice ad t.attrs.length cd,.slice ae t.kids.length ce] 29)):=(Below.refl _ _).alloc (Nat.le_refl _) _
 have Ba:=hV.keep Aa
 have F1:=Frm.ofBelow Aa [g]
 have d0:(t.kind == 0)=false:=by simpa using hz
 have d1:(t.kind == 1)=false:=by simpa using hz1
 clear Aa k1 k2 hz hz1 hb hc hd he
 generalize t.kind=z at *
 go_enter Tryz.func31,Tryz.ntmps31
 go_wp2_with fail
 go_ret
 exact⟨by rw [zaa HP];rfl,Ba,F1⟩
theorem zwZ (B n:Nat) (w0 w:Xk) (a b c d e:Xl) (t:Tr (n+1)) (g:Nat) (h:RdNode (n+1) w0 [a,b,c,d,e] t) (hB:Below w0.heap.size w0 w) (hg:w0.heap.size<=g) (hV:VSet B w g) (hBB:B<=w.heap.size) :
  Calls Tryz.prog 31 #[.agg #[a,b,c,d,e],.pointer (some ⟨g,0,none⟩)] w fun e w'=>e=.returned (.bool (zbF t))∧VSet B w' g∧Frm w w' [g]:=by
 by_cases hz:t.kind=0
 ·exact zux B n w0 w a b c d e t g h hB hg hV hBB hz
 ·by_cases hz1:t.kind=1
  ·exact zup B n w0 w a b c d e t g h hB hg hV hBB hz1
  ·exact zuT B n w0 w a b c d e t g h hV hBB hz hz1
end Go.Proofs.YtgjolijncmkkhaaGreatDoor
namespace Go.Proofs.YtgjolijncmkkhaaGreatDoor
open Go.RowKit Go.ChangeShapes
set_option linter.unusedVariables false
set_option maxRecDepth 100000
variable {H:Type} {enc:Xm×Xl->H} {W:Xk} {held:Bool}
theorem ztn {α:Type} {Q:Nat->α->Prop}:∀n:Nat,(∀i,i<n->∃a,Q i a)->∃l:List α,l.length=n∧∀i (hi:i<l.length),Q i l[i]
 | 0,_=>⟨[],rfl,fun i hi=>by cases hi⟩
 | n+1,h=>by
  obtain⟨l,hl,hq⟩:=ztn n (fun i hi=>h i (by omega))
  obtain⟨a,ha⟩:=h n (by omega)
  refine⟨l++[a],by simp [hl],fun i hi=> ?_⟩
  by_cases hi':i<l.length
  ·rw [List.getElem_append_left hi'];exact hq i hi'
  ·have:i=l.length:=by simp at hi;omega
   subst this
   simp only [List.getElem_append_right (Nat.le_refl _),Nat.sub_self,List.getElem_cons_zero]
   rw [hl];exact ha
end Go.Proofs.YtgjolijncmkkhaaGreatDoor
namespace Go.Proofs.YtgjolijncmkkhaaGreatDoor
open Go.RowKit Go.ChangeShapes
set_option linter.unusedVariables false
set_option maxRecDepth 100000
variable {H:Type} {enc:Xm×Xl->H} {W:Xk} {held:Bool}
end Go.Proofs.YtgjolijncmkkhaaGreatDoor
namespace Go.Proofs.YtgjolijncmkkhaaGreatDoor
open Go.RowKit
set_option linter.unusedVariables false
set_option maxRecDepth 100000
structure It (w0:Xk) where
 deep:Int
 a:Xl
 b:Xl
 c:Xl
 d:Xl
 e:Xl
 m:Nat
 t:Tr (m+1)
 rd:RdNode (m+1) w0 [a,b,c,d,e] t
def zgc {w0:Xk} (x:It w0):Array Xl:= #[.int .i64 x.deep,.agg #[x.a,x.b,x.c,x.d,x.e]]
def Pre (w0:Xk):(n:Nat)->Int->Xj->Tr n->List (It w0)->Prop
 | 0=>fun _ _ _ _=>False
 | n+1=>fun deep C t xs=>∃(a b c d e:Xl) (rd:RdNode (n+1) w0 [a,b,c,d,e] t) (ks:List (Tr n×List (It w0))),C=[a,b,c,d,e]∧xs=⟨deep,a,b,c,d,e,n,t,rd⟩::(ks.map (·.2)).flatten∧ks.map (·.1)=t.kids∧
   Elems w0 5 e ks (fun D k=>Pre w0 n (deep+1) D k.1 k.2)
theorem zug {α β:Type} {w:Xk} {size:Nat} {v:Xl} {l:List α} {R:Xj->α->Prop} {R':Xj->α×β->Prop} (h:Elems w size v l R) (hR:∀C x,R C x->∃y,R' C (x,y)) :
  ∃ks:List (α×β),ks.map (·.1)=l∧Elems w size v ks R':=by
 obtain⟨hm,⟨rfl,rfl⟩ | ⟨x,Aa,rfl,hc,rfl⟩ | ⟨b,Ba,Aa,rfl,h1,h2,h3,h4,h5⟩⟩:=h
 ·exact⟨[],rfl,hm,.inl ⟨rfl,rfl⟩⟩
 ·exact⟨[],rfl,hm,.inr (.inl ⟨x,Aa,rfl,hc,rfl⟩)⟩
 ·obtain⟨ks,hl,hk⟩:=ztn (Q:=fun i (k:α×β)=>∃hi:i<l.length,k.1=l[i]∧∃C:Xj,C.length=size∧(∀j,j<size->w.cell? ⟨b,Ba+i*size+j,none⟩=C[j]?)∧R' C k) l.length (fun i hi=>by
   obtain⟨C,hC,hc,hr⟩:=h5 i hi
   obtain⟨y,hy⟩:=hR C _ hr
   exact⟨(l[i],y),hi,rfl,C,hC,hc,hy⟩)
  refine⟨ks,?_,by omega,.inr (.inr ⟨b,Ba,Aa,by rw [hl],by omega,h2,?_,h4,fun i hi=> ?_⟩)⟩
  ·apply List.ext_getElem
   ·simp [hl]
   ·intro i Ca Da
    simp only [List.getElem_map]
    exact (hk i (by simpa using Ca)).2.1
  ·intro e;rw [e]at hl;exact h3 (List.eq_nil_of_length_eq_zero hl.symm)
  ·exact (hk i hi).2.2
theorem zkK (w0:Xk):∀(n:Nat) (deep:Int) (C:Xj) (t:Tr n),RdNode n w0 C t->∃xs,Pre w0 n deep C t xs
 | 0,_,_,t,_=>t.elim
 | n+1,deep,C,t,h=>by
  have h':=h
  obtain⟨a,b,c,d,rfl,k1,k2,hb,hc,hd,he⟩:=h
  obtain⟨ks,Aa,Ba⟩:=zug (R':=fun D k=>Pre w0 n (deep+1) D k.1 k.2) he (fun D x hx=>zkK w0 n (deep+1) D x hx)
  exact⟨_,_,_,_,_,_,h',ks,rfl,rfl,Aa,Ba⟩
def tst {w0:Xk} (x:It w0):Int×Bool:=(x.deep,zbF x.t)
def pn:(n:Nat)->Int->Tr n->List (Int×Bool)
 | 0=>fun _ _=>[]
 | n+1=>fun deep t=>(deep,zbF t)::(t.kids.map (pn n (deep+1))).flatten
theorem zsH (n:Nat) (deep:Int) (t:Tr (n+1)):pn (n+1) deep t=(deep,zbF t)::(t.kids.map (pn n (deep+1))).flatten:=rfl
theorem Elems.mem {α:Type} {w:Xk} {size:Nat} {v:Xl} {l:List α} {R:Xj->α->Prop} (h:Elems w size v l R):∀x∈l,∃C,R C x:=by
 intro x hx
 obtain⟨i,hi,rfl⟩:=List.getElem_of_mem hx
 obtain⟨hm,⟨rfl,rfl⟩ | ⟨_,Aa,rfl,hc,rfl⟩ | ⟨b,Ba,Aa,rfl,h1,h2,h3,h4,h5⟩⟩:=h
 ·simp at hi
 ·simp at hi
 ·obtain⟨C,_,_,hr⟩:=h5 i hi
  exact⟨C,hr⟩
theorem zvw (w0:Xk):∀(n:Nat) (deep:Int) (C:Xj) (t:Tr n) (xs:List (It w0)),Pre w0 n deep C t xs->xs.map tst=pn n deep t
 | 0,_,_,t,_,_=>t.elim
 | n+1,deep,C,t,xs,⟨a,b,c,d,e,rd,ks,_,hxs,hks,hel⟩=>by
  subst hxs
  rw [List.map_cons,zsH,<-hks,List.map_flatten,List.map_map,List.map_map]
  congr 2
  apply List.map_congr_left
  intro k hk
  obtain⟨D,hD⟩:=hel.mem k hk
  exact zvw w0 n (deep+1) D k.1 k.2 hD
def scan:List (Int×Bool)->Int->Bool×Int
 | [],left=>(true,left)
 | x::r,left=>if left-1<0∨20<x.1∨x.2=false then (false,left-1) else scan r (left-1)
theorem zks (a b:List (Int×Bool)) (left:Int):scan (a++b) left=if (scan a left).1=true then scan b (scan a left).2 else (false,(scan a left).2):=by
 induction a generalizing left with
 | nil=>simp [scan]
 | cons x r ih=>
  rw [List.cons_append,scan,scan]
  by_cases h:left-1<0∨20<x.1∨x.2=false
  ·rw [if_pos h,if_pos h];simp
  ·rw [if_neg h,if_neg h,ih]
theorem zzK {a b:List (Int×Bool)} {left:Int} (h:(scan a left).1=false) (hp:a <+: b):(scan b left).1=false:=by
 obtain⟨r,rfl⟩:=hp
 rw [zks,h]
 simp
theorem zpL {α:Type} {f:α->Int->Bool×Int} {p:α->List (Int×Bool)} (h:∀x left,f x left=scan (p x) left):∀(l:List α) (left:Int),okK f l left=scan (l.map p).flatten left
 | [],left=>rfl
 | x::r,left=>by
  rw [okK,List.map_cons,List.flatten_cons,zks,h,zpL h r]
theorem zrh:∀(n:Nat) (deep:Int) (t:Tr n) (left:Int),okT n deep t left=scan (pn n deep t) left
 | 0,_,t,_=>t.elim
 | n+1,deep,t,left=>by
  rw [zdy,zsH,scan]
  by_cases h1:left-1<0∨20<deep
  ·rw [if_pos h1,if_pos (by rcases h1 with h | h<;>simp [h])]
  ·rw [if_neg h1]
   by_cases h2:t.kind=1
   ·rw [if_pos h2]
    have hp:zbF t=zbk t:=zmf h2
    by_cases h3:zbk t=true
    ·have hk:t.kids=[]:=List.eq_nil_of_length_eq_zero ((zbK t).1 h3).2.2.1
     rw [if_neg (by simp only [hp,h3];simp;omega),hk,h3];rfl
    ·have Aa:zbk t=false:=by simpa using h3
     rw [if_pos (by simp only [hp,Aa];simp),Aa]
   ·rw [if_neg h2]
    have hp:zbF t=zbq t:=zhw h2
    by_cases h3:zbq t=true
    ·rw [if_pos h3,if_neg (by simp only [hp,h3];simp;omega)]
     exact zpL (zrh n (deep+1)) t.kids (left-1)
    ·have Aa:zbq t=false:=by simpa using h3
     rw [if_neg h3,if_pos (by simp only [hp,Aa];simp)]
end Go.Proofs.YtgjolijncmkkhaaGreatDoor
namespace Go.Proofs.YtgjolijncmkkhaaGreatDoor
open Go.RowKit Go.Shelf
set_option linter.unusedVariables false
set_option maxRecDepth 100000
attribute [local go_sem] Oper.semAt_some
def BxN (o:Obj):Prop:=∃cs,o=.cells cs 29 (0,0)
theorem zgs {W W':Xk} (h:Below W.heap.size W W'):W.grownBy W' none:=⟨h.os,h.tape,h.output,h.size,fun k hk _=>h.block k hk⟩
theorem zcN {n:Nat} {w:Xk} {C:Xj} {t:Tr n} (h:RdNode n w C t):∃z ab nb cb ac nc cc ad nd cd ae ne ce,C=[.int .i64 z,.slice ab nb cb,.slice ac nc cc,.slice ad nd cd,.slice ae ne ce]:=by
 cases n with
 | zero=>exact t.elim
 | succ n=>
  obtain⟨a,b,c,d,rfl,_,_,hb,hc,hd,he⟩:=h
  obtain⟨ab,cb,rfl,_,_⟩:=hb.shape
  obtain⟨ac,cc,rfl,_,_⟩:=hc.shape
  obtain⟨ad,cd,rfl,_,_⟩:=Elems.shape hd
  obtain⟨ae,ce,rfl,_,_⟩:=Elems.shape he
  exact⟨_,_,_,_,_,_,_,_,_,_,_,_,_,rfl⟩
theorem zqU {w0:Xk} {n:Nat} {deep:Int} {C:Xj} {t:Tr n} {xs:List (It w0)} (h:Pre w0 n deep C t xs):RdNode n w0 C t:=by
 cases n with
 | zero=>exact t.elim
 | succ n=>
  obtain⟨a,b,c,d,e,rd,ks,rfl,_⟩:=h
  exact rd
theorem zte {l:Xh} {x:Nat} (h:x∈l):x<=l.sum:=by
 induction l with
 | nil=>cases h
 | cons y l ih=>
  rw [List.sum_cons]
  rcases List.mem_cons.1 h with rfl | h'
  ·omega
  ·have:=ih h';omega
theorem zvm {n:Nat} {t:Tr (n+1)} {u:Tr n} (h:u∈t.kids):szT n u+1<=szT (n+1) t:=by
 have h1:szT n u<=(t.kids.map (szT n)).sum:=zte (List.mem_map.2 ⟨u,h,rfl⟩)
 have h2:0<t.kids.length:=List.length_pos_of_mem h
 have h3:szT (n+1) t=t.name.length+t.text.length+szA t.attrs+(t.kids.length+(t.kids.map (szT n)).sum):=rfl
 omega
theorem zii {α β:Type} (ks:List (α×List β)) (j:Nat) (h:j<ks.length):((ks.take (j+1)).map (·.2)).flatten=((ks.take j).map (·.2)).flatten++ks[j].2:=by
 rw [List.take_succ_eq_append_getElem h,List.map_append,List.flatten_append]
 simp only [List.map_cons,List.map_nil,List.flatten_cons,List.flatten_nil,List.append_nil]
theorem zpW {α β:Type} (ks:List (α×List β)) (j:Nat):((ks.take j).map (·.2)).flatten <+: (ks.map (·.2)).flatten:=by
 refine⟨((ks.drop j).map (·.2)).flatten,?_⟩
 rw [<-List.flatten_append,<-List.map_append,List.take_append_drop]
def zky (w0:Xk) (l:Nat) (Mt:Nat->Obj->Prop) (J Jx:List (It w0)->Xk->Prop) (XS:List (It w0)) (k:Nat):Prop:=
 ∀(deep:Int) (a b c d e:Xl) (t:Tr k) (xs:List (It w0)),Pre w0 k deep [a,b,c,d,e] t xs->∀(n:Nat) (pre:List (It w0)) (W:Xk),Below w0.heap.size w0 W->(∀q o,W.heap.size<=q->BxN o->¬ Mt q o)->J pre W->pre++xs <+: XS->0<=deep->deep+szT k t<=1000000000->
  CallsIn Fence.wide n Tryz.prog 63 #[.agg #[a,b,c,d,e],.int .i64 deep,.func (.yield l) #[] #[]] W fun e W'=>
   (e=.returned (.bool true)∧J (pre++xs) W'∧Frp Mt W W')∨(e=.returned (.bool false)∧∃q,q <+: xs∧Jx (pre++q) W')
set_option maxHeartbeats 3200000 in
theorem zvr (w0:Xk) (l:Nat) (Mt:Nat->Obj->Prop) (hG0:∀i o,i<w0.heap.size->¬ Mt i o) (J Jx:List (It w0)->Xk->Prop) (XS:List (It w0)) (hJ:∀s W W',J s W->W.grownBy W' none->J s W')
  (hY:∀m pre x W,J pre W->pre++[x] <+: XS->YieldAt Fence.wide m Tryz.prog l (zgc x) W fun e W'=>
   (e=.returned (.bool true)∧J (pre++[x]) W'∧Frp Mt W W')∨(e=.returned (.bool false)∧Jx (pre++[x]) W')) (k:Nat) (H:zky w0 l Mt J Jx XS k):zky w0 l Mt J Jx XS (k+1):=by
 intro deep a b c d e t xs hP n pre W hW Wa hj Xa Bb ia
 obtain⟨_,_,_,_,_,rd,ks,hC,Ka,Ua,Sa⟩:=hP
 simp only [List.cons.injEq,and_true]at hC
 obtain⟨rfl,rfl,rfl,rfl,rfl⟩:=hC
 have ga:=rd
 obtain⟨_,_,_,_,e0,k1,k2,hb,hc,hd,he⟩:=ga
 simp only [List.cons.injEq,and_true]at e0
 obtain⟨rfl,rfl,rfl,rfl,rfl⟩:=e0
 obtain⟨ab,cb,rfl,_,_⟩:=hb.shape
 obtain⟨ac,cc,rfl,_,_⟩:=hc.shape
 obtain⟨ad,cd,rfl,_,_⟩:=Elems.shape hd
 obtain⟨ae,ce,rfl,Fb,ba⟩:=Elems.shape he
 obtain⟨x,hx⟩:∃x:It w0,x=⟨deep,.int .i64 t.kind,.slice ab t.name.length cb,.slice ac t.text.length cc,.slice ad t.attrs.length cd,.slice ae t.kids.length ce,k,t,rd⟩:=⟨_,rfl⟩
 have Ga:Below W.heap.size W (W.alloc (.cells #[.int .i64 t.kind,.slice ab t.name.length cb,.slice ac t.text.length cc,.slice ad t.attrs.length cd,.slice ae t.kids.length ce] 29)):=(Below.refl _ _).alloc (Nat.le_refl _) _
 have l1:=Loc.made W #[.int .i64 t.kind,.slice ab t.name.length cb,.slice ac t.text.length cc,.slice ad t.attrs.length cd,.slice ae t.kids.length ce] 29
 have hy:=hY (n-1) pre x _ (hJ pre W _ hj (zgs Ga)) (by
  refine List.IsPrefix.trans ?_ Xa
  rw [Ka,<-hx]
  exact⟨(ks.map (·.2)).flatten,by simp⟩)
 rw [hx]at hy
 simp only [zgc]at hy
 rw [<-hx]at hy Ka
 obtain⟨fn,ha,Ra,ea,da,hR⟩:=hy
 refine callsIn_of_wp Tryz.func63 rfl trivial ?_ rfl
 simp only [Tryz.ntmps63,List.size_toArray,List.length_cons,List.length_nil,Nat.reduceAdd,Nat.reduceSub,Array.replicate_succ,Array.replicate_zero,List.push_toArray,List.append_toArray,List.nil_append,List.cons_append]
 gi_wp2_with fail
 refine⟨(fun h=>(by cases h)),?_⟩
 generalize (W.alloc (.cells #[.int .i64 t.kind,.slice ab t.name.length cb,.slice ac t.text.length cc,.slice ad t.attrs.length cd,.slice ae t.kids.length ce] 29))=W1 at *
 refine hR.mono ?_
 clear hR
 rintro e W2 (⟨rfl,Ya,Na⟩ | ⟨rfl,Za⟩)
 ·have l2:=l1.frp Na (Wa _ _ (Nat.le_refl _) ⟨_,rfl⟩)
  have Ta:∀q o,W2.heap.size<=q->BxN o->¬ Mt q o:=fun q o h hb=>Wa q o (by have:=Ga.size;have:=Na.size;omega) hb
  have Va:Below w0.heap.size w0 W2:=hW.trans ((Ga.mono hW.size).trans (Na.below (Nat.le_trans hW.size Ga.size) hG0))
  have F2:Frp Mt W W2:=(Frp.ofBelow Ga Mt).trans Na
  have Ca:ks.length=t.kids.length:=by rw [<-Ua];simp
  have HX:=hide Ka
  have HK:=hide Ua
  have HE:=hide hx
  unfold maxLen at ba
  have Db:(t.kids.length:Int)<=9223372036854775807:=by omega
  have HZ:Hid (∀u∈t.kids,deep+1+szT k u<=1000000000):=fun u hu=>by have:=zvm hu;omega
  have Cb:deep<=1000000000:=by omega
  clear Ka Ua hx Ga Na da hY ia
  obtain⟨x0,x1,x2,x3,x4⟩:=l2.five
  generalize hnk:t.kids.length=nk at *
  gi_wp2_with fail
  gi_loopw [17] (fun i wr=>∃j:Nat,j<=nk∧i=.int .i64 j∧J (pre++x::((ks.take j).map (·.2)).flatten) wr∧Frp Mt W2 wr) (fun i _=>nk-(intOf i).toNat)
  case atStart=>exact⟨0,Nat.zero_le _,rfl,by simpa using Ya,Frp.refl _ _⟩
  case round=>
   obtain⟨j,Eb,rfl,Pa,Oa⟩:=hrel
   have Fa:Below w0.heap.size w0 wr:=Va.trans (Oa.below Va.size hG0)
   have oa:∀q o,wr.heap.size<=q->BxN o->¬ Mt q o:=fun q o h hb=>Ta q o (Nat.le_trans Oa.size h) hb
   by_cases hlt:j<nk
   ·have Ja:j<ks.length:=by omega
    obtain⟨kb,Ba,rfl,Ha,va,_,C,Ab,Aa,Qa⟩:=Sa.at Ja
    clear va
    obtain⟨z,ja,qa,la,ka,sa,ma,ua,ra,aa,xa,ya,wa,rfl⟩:=zcN (zqU Qa)
    have y0:=(Fa.cell (p:=⟨kb,Ba+j*5,none⟩) Ha).trans (Aa 0 (by omega))
    have y1:=(Fa.cell (p:=⟨kb,Ba+j*5+1,none⟩) Ha).trans (Aa 1 (by omega))
    have y2:=(Fa.cell (p:=⟨kb,Ba+j*5+2,none⟩) Ha).trans (Aa 2 (by omega))
    have y3:=(Fa.cell (p:=⟨kb,Ba+j*5+3,none⟩) Ha).trans (Aa 3 (by omega))
    have y4:=(Fa.cell (p:=⟨kb,Ba+j*5+4,none⟩) Ha).trans (Aa 4 (by omega))
    simp only [List.getElem?_cons_zero,List.getElem?_cons_succ]at y0 y1 y2 y3 y4
    have Ia:Below wr.heap.size wr (wr.alloc (.cells #[.int .i64 z,.slice ja qa la,.slice ka sa ma,.slice ua ra aa,.slice xa ya wa] 29)):=(Below.refl _ _).alloc (Nat.le_refl _) _
    have Ma:ks[j].1∈t.kids:=by rw [<-zaa HK];exact List.mem_map.2 ⟨ks[j],List.getElem_mem Ja,rfl⟩
    have La:(pre++x::((ks.take j).map (·.2)).flatten)++ks[j].2 <+: XS:=by
     refine List.IsPrefix.trans ?_ Xa
     rw [zaa HX]
     obtain⟨r,hr⟩:=zpW ks (j+1)
     rw [zii ks j Ja]at hr
     exact⟨r,by simp only [List.append_assoc,List.cons_append]at hr ⊢;rw [hr]⟩
    have Da:=H (deep+1) _ _ _ _ _ ks[j].1 ks[j].2 Qa (n-1) (pre++x::((ks.take j).map (·.2)).flatten) _ (Fa.trans (Ia.mono Fa.size)) (fun q o h hb=>oa q o (Nat.le_trans Ia.size h) hb) (hJ _ _ _ Pa (zgs Ia)) La (by omega) (zaa HZ _ Ma)
    have HC:=hide Da
    have F3:=Oa.trans (Frp.ofBelow Ia Mt)
    have pa:(j:Int)<(nk:Int):=by omega
    clear Da Sa Aa Qa Ma La Ia Pa Ya
    have HL:=hide Ca
    have za:=hide hnk
    clear Ca hnk
    gi_wp2
    refine⟨trivial,(fun h=>(by cases h)),?_⟩
    refine (zaa HC).mono ?_
    rintro e W3 (⟨rfl,ta,fa⟩ | ⟨rfl,q,hq,na⟩)
    ·gi_wp2
     go_roundw
     case rel=>exact⟨j+1,by omega,by go_num,by rw [zii ks j Ja,<-List.cons_append,<-List.append_assoc];exact ta,F3.trans fa⟩
     case measure=>simp [intOf];omega
    ·gi_wp2
     go_ret
     refine .inr ⟨rfl,x::((ks.take j).map (·.2)).flatten++q,?_,by rw [<-List.append_assoc];exact na⟩
     obtain⟨r,hr⟩:=zpW ks (j+1)
     obtain⟨r',ca⟩:=hq
     rw [zii ks j Ja,<-ca]at hr
     exact⟨r'++r,by rw [zaa HX,<-hr];simp⟩
   ·have e:j=nk:=by omega
    subst e
    have HL:=hide Ca
    clear Ca Sa
    gi_wp2
    go_ret
    refine .inl ⟨rfl,?_,F2.trans Oa⟩
    rw [zaa HX]
    rw [List.take_of_length_le (by have:=zaa HL;omega)]at Pa
    exact Pa
 ·gi_wp2_with fail
  go_ret
  exact .inr ⟨rfl,[x],by rw [Ka];exact⟨_,rfl⟩,Za⟩
theorem zzn (w0:Xk) (l:Nat) (Mt:Nat->Obj->Prop) (hG0:∀i o,i<w0.heap.size->¬ Mt i o) (J Jx:List (It w0)->Xk->Prop) (XS:List (It w0)) (hJ:∀s W W',J s W->W.grownBy W' none->J s W')
  (hY:∀m pre x W,J pre W->pre++[x] <+: XS->YieldAt Fence.wide m Tryz.prog l (zgc x) W fun e W'=>
   (e=.returned (.bool true)∧J (pre++[x]) W'∧Frp Mt W W')∨(e=.returned (.bool false)∧Jx (pre++[x]) W')) (k:Nat):zky w0 l Mt J Jx XS k:=by
 induction k with
 | zero=>exact fun _ _ _ _ _ _ t=>t.elim
 | succ k ih=>exact zvr w0 l Mt hG0 J Jx XS hJ hY k ih
set_option maxHeartbeats 1600000 in
theorem zmq (w0 w:Xk) (l q k:Nat) (Mt:Nat->Obj->Prop) (hG0:∀i o,i<w0.heap.size->¬ Mt i o) (a b c d e:Xl) (t:Tr (k+1)) (xs:List (It w0)) (hP:Pre w0 (k+1) 1 [a,b,c,d,e] t xs) (hsz:szT (k+1) t<=2097152)
  (hw:Below w0.heap.size w0 w) (hl:Loc w q #[a,b,c,d,e] 29):zuH Tryz.prog 62 #[.pointer (some ⟨q,0,none⟩)] zgc BxN Mt xs l w:=by
 intro J Jx hJ hY n W hW Ca h0
 have l1:=hl.all hW
 obtain⟨z,ab,nb,cb,ac,nc,cc,ad,nd,cd,ae,ne,ce,hC⟩:=zcN (zqU hP)
 simp only [List.cons.injEq,and_true]at hC
 obtain⟨rfl,rfl,rfl,rfl,rfl⟩:=hC
 have hc:=zzn w0 l Mt hG0 J Jx xs hJ hY (k+1) 1 _ _ _ _ _ t xs hP (n-1) [] W (hw.trans (hW.mono hw.size)) Ca h0 (by simp) (by omega) (by omega)
 obtain⟨x0,x1,x2,x3,x4⟩:=l1.five
 have HC:=hide hc
 clear hc hY hJ hP
 refine callsIn_of_wp Tryz.func62 rfl trivial ?_ rfl
 simp only [Tryz.ntmps62,List.size_toArray,List.length_cons,List.length_nil,Nat.reduceAdd,Nat.reduceSub,Array.replicate_succ,Array.replicate_zero,List.push_toArray,List.append_toArray,List.nil_append,List.cons_append]
 gi_wp2
 refine⟨trivial,(fun h=>(by cases h)),?_⟩
 refine (zaa HC).mono ?_
 rintro e W3 (⟨rfl,Ba,Da⟩ | ⟨rfl,q,hq,Aa⟩)
 ·gi_wp2
  go_end0
  exact⟨⟨_,rfl⟩,.inl (by simpa using Ba)⟩
 ·gi_wp2
  go_end0
  exact⟨⟨_,rfl⟩,.inr ⟨q,hq,by simpa using Aa⟩⟩
theorem zka (w:Xk) (z:Int) (ab ac ad ae:Xi) (nb cb nc cc nd cd ne ce:Nat) :
  Calls Tryz.prog 30 #[.agg #[.int .i64 z,.slice ab nb cb,.slice ac nc cc,.slice ad nd cd,.slice ae ne ce]] w fun e w'=>e=.returned (.func (.func 62) #[] #[.pointer (some ⟨w.heap.size,0,none⟩)])∧
   w'=w.alloc (.cells #[.int .i64 z,.slice ab nb cb,.slice ac nc cc,.slice ad nd cd,.slice ae ne ce] 29):=by
 have Aa:∀(fn:Fn) (first cap:Array Xl) (w:Xk),(Instr.makeFunc fn first cap).run Tryz.prog w=.ok (.func fn first cap) w:=fun _ _ _ _=>rfl
 go_enter Tryz.func30,Tryz.ntmps30
 go_wp2
 go_ret
 exact⟨rfl,rfl⟩
end Go.Proofs.YtgjolijncmkkhaaGreatDoor
namespace Go.Proofs.YtgjolijncmkkhaaGreatDoor
open Go.RowKit Go.Shelf
set_option linter.unusedVariables false
set_option maxRecDepth 100000
attribute [local go_sem] Oper.semAt_some
theorem Loc.stay {W W':Xk} {g D:Nat} {cs:Array Xl} {T:Xm} {row:Option Nat} (h:Loc W g cs T) (hg:W.grownBy W' row) (hr:∀r,row=some r->r=D∨r=D+1) (h0:g≠D) (h1:g≠D+1):Loc W' g cs T:=
 (hg.block g h.lt (fun e=>by rcases hr g e.symm with h | h;exact h0 h;exact h1 h)).trans h
theorem VSet.stay {W W':Xk} {g D:Nat} {row:Option Nat} (h:VSet (D+2) W g) (hg:W.grownBy W' row) (hr:∀r,row=some r->r=D∨r=D+1) (h0:g≠D) (h1:g≠D+1):VSet (D+2) W' g:=by
 rcases h with h | ⟨m,hm,hl,hv⟩
 ·exact .inl (h.stay hg hr h0 h1)
 ·have Aa:m<W.heap.size:=by
   by_cases h:m<W.heap.size
   ·exact h
   ·rw [Array.getElem?_eq_none (by omega)]at hv;cases hv
  exact .inr ⟨m,hm,hl.stay hg hr h0 h1,(hg.block m Aa (fun e=>by rcases hr m e.symm with h | h<;>omega)).trans hv⟩
theorem zdj {w W W':Xk} {s D:Nat} {row:Option Nat} (h:Below s w W) (hs:s<=D) (hg:W.grownBy W' row) (hr:∀r,row=some r->r=D∨r=D+1) (hsz:s<=W.heap.size):Below s w W':=
 h.grown hg hsz (fun r e=>by rcases hr r e with h | h<;>omega)
theorem VSet.set {B:Nat} {V:Xk} {g p:Nat} {cs:Array Xl} {T:Xm} (h:VSet B V g) (hl:Loc V p cs T) (hne:g≠p) (j:Nat) (v:Xl):VSet B (V.setCell ⟨p,j,none⟩ v) g:=by
 rcases h with h | ⟨m,hm,hg,hv⟩
 ·exact .inl (h.other p j v hne)
 ·have Aa:m≠p:=fun e=>by subst e;unfold Loc at hl;rw [hv]at hl;cases hl
  exact .inr ⟨m,hm,hg.other p j v hne,(heap_setCell_other V ⟨p,j,none⟩ m v Aa).trans hv⟩
theorem zgd (D:Nat) (V:Xk) (p j:Nat) (v:Xl) (h0:D≠p) (h1:D+1≠p):BooksSame D V (V.setCell ⟨p,j,none⟩ v):=⟨heap_setCell_other V ⟨p,j,none⟩ D v h0,heap_setCell_other V ⟨p,j,none⟩ (D+1) v h1⟩
theorem zwK {D:Nat} {V V':Xk} {S:Xh} (f:Frm V V' S) (hl:D+2<=V.heap.size) (h0:D∉S) (h1:D+1∉S):BooksSame D V V':=⟨f.block D (by omega) h0,f.block (D+1) (by omega) h1⟩
theorem BooksSame.trans {D:Nat} {A B C:Xk} (h:BooksSame D A B) (k:BooksSame D B C):BooksSame D A C:=⟨k.1.trans h.1,k.2.trans h.2⟩
theorem zzc {a:List (Int×Bool)} {left:Int} (h:(scan a left).1=true) (h0:0<=left):(a.length:Int)<=left:=by
 induction a generalizing left with
 | nil=>simpa using h0
 | cons x r ih=>
  rw [scan]at h
  by_cases hc:left-1<0∨20<x.1∨x.2=false
  ·rw [if_pos hc]at h;cases h
  ·rw [if_neg hc]at h
   have:=ih h (by omega)
   simp only [List.length_cons]
   omega
theorem zxc {a:List (Int×Bool)} {x:Int×Bool} {n:Nat} (h:scan a 120=(true,(120:Int)-n)):scan (a++[x]) 120=if 120<(n:Int)+1∨20<x.1∨x.2=false then (false,(120:Int)-n-1) else (true,(120:Int)-n-1):=by
 rw [zks,h]
 simp only [if_true,scan]
 have e:((120:Int)-n-1<0∨20<x.1∨x.2=false)↔(120<(n:Int)+1∨20<x.1∨x.2=false):=by
  constructor
  ·rintro (h | h)
   ·exact .inl (by omega)
   ·exact .inr h
  ·rintro (h | h)
   ·exact .inl (by omega)
   ·exact .inr h
 simp only [e]
theorem zyB (w:Xk) (A1 A2 A3 A4 A5:Array Xl) (T1 T2 T3 T4 T5:Xm) (W:Xk) (hW:W=((((w.alloc (.cells A1 T1)).alloc (.cells A2 T2)).alloc (.cells A3 T3)).alloc (.cells A4 T4)).alloc (.cells A5 T5)) :
  Loc W (w.heap.size+1) A2 T2∧Loc W (w.heap.size+1+1) A3 T3∧Loc W (w.heap.size+1+1+1) A4 T4∧Loc W (w.heap.size+1+1+1+1) A5 T5∧W.heap.size=w.heap.size+1+1+1+1+1∧Below w.heap.size w W:=by
 subst hW
 have m2:=Loc.made (w.alloc (.cells A1 T1)) A2 T2
 have m3:=Loc.made ((w.alloc (.cells A1 T1)).alloc (.cells A2 T2)) A3 T3
 have m4:=Loc.made (((w.alloc (.cells A1 T1)).alloc (.cells A2 T2)).alloc (.cells A3 T3)) A4 T4
 have m5:=Loc.made ((((w.alloc (.cells A1 T1)).alloc (.cells A2 T2)).alloc (.cells A3 T3)).alloc (.cells A4 T4)) A5 T5
 simp only [World.size_alloc]at m2 m3 m4 m5
 exact⟨((m2.alloc _).alloc _).alloc _,(m3.alloc _).alloc _,m4.alloc _,m5,by simp,(((((Below.refl _ w).alloc (Nat.le_refl _) _).alloc (by simp) _).alloc (by simp;omega) _).alloc (by simp;omega) _).alloc (by simp;omega) _⟩
set_option maxHeartbeats 3200000 in
theorem zuz (k:Nat) (w:Xk) (a b c d e:Xl) (t:Tr (k+1)) (h:RdNode (k+1) w [a,b,c,d,e] t) (hsz:szT (k+1) t<=2097152) (hz:t.kind=0) :
  Calls Tryz.prog 12 #[.agg #[a,b,c,d,e]] w fun e w'=>e=.returned (.bool (okN k t))∧Below w.heap.size w w':=by
 have HO:=hide (show okN k t=(scan (pn (k+1) 1 t) 120).1 by unfold okN;rw [zrh];simp [hz])
 obtain⟨xs,hP⟩:=zkK w (k+1) 1 [a,b,c,d,e] t h
 have HM:=hide (zvw w (k+1) 1 _ t xs hP)
 have hC:∃ab nb cb ac nc cc ad nd cd ae ne ce,[a,b,c,d,e]=[Value.int .i64 0,.slice ab nb cb,.slice ac nc cc,.slice ad nd cd,.slice ae ne ce]:=by
  obtain⟨_,_,_,_,e0,k1,k2,hb,hc,hd,he⟩:=h
  simp only [List.cons.injEq,and_true]at e0
  obtain⟨rfl,rfl,rfl,rfl,rfl⟩:=e0
  obtain⟨ab,cb,rfl,_,_⟩:=hb.shape
  obtain⟨ac,cc,rfl,_,_⟩:=hc.shape
  obtain⟨ad,cd,rfl,_,_⟩:=Elems.shape hd
  obtain⟨ae,ce,rfl,_,_⟩:=Elems.shape he
  rw [hz]
  exact⟨_,_,_,_,_,_,_,_,_,_,_,_,rfl⟩
 obtain⟨ab,nb,cb,ac,nc,cc,ad,nd,cd,ae,ne,ce,hC⟩:=hC
 simp only [List.cons.injEq,and_true]at hC
 obtain⟨rfl,rfl,rfl,rfl,rfl⟩:=hC
 have HP:=hide hP
 have HH:=hide h
 clear hP h hz
 refine (callsIn_wide (n:=5)).1 ?_
 refine callsIn_of_wp_marks Tryz.func12 rfl trivial ?_ rfl
 simp only [Tryz.ntmps12,List.size_toArray,List.length_cons,List.length_nil,Nat.reduceAdd,Nat.reduceSub,Array.replicate_succ,Array.replicate_zero,List.push_toArray,List.append_toArray,List.nil_append,List.cons_append]
 gi_wp2_with fail
 refine⟨trivial,?_⟩
 refine (callsIn_wide.2 (zka _ _ _ _ _ _ _ _ _ _ _ _ _ _)).mono ?_
 rintro e W ⟨rfl,hW⟩
 obtain⟨l1,l2,l3,l4,Ya,Va⟩:=zyB w _ _ _ _ _ _ _ _ _ _ W hW
 clear hW
 simp only [World.size_alloc]
 obtain⟨q1,q2,q3,q4,q5⟩:w.heap.size<w.heap.size+1∧w.heap.size+1<w.heap.size+1+1∧w.heap.size+1+1<w.heap.size+1+1+1∧w.heap.size+1+1+1<w.heap.size+1+1+1+1∧w.heap.size+1+1+1+1<W.heap.size:=by omega
 clear Ya
 generalize w.heap.size+1+1+1+1=p4 at *
 generalize w.heap.size+1+1+1=p3 at *
 generalize w.heap.size+1+1=p2 at *
 generalize w.heap.size+1=p1 at *
 gi_wp2_with fail
 refine ziI (gf:=62) (lb:= #[.pointer (some ⟨p4,0,none⟩)]) (Bx:=BxN) (Mt:=fun i _=>i∈[p1,p2,p3,W.heap.size+1]) (xs:=xs) (encs:=zgc) rfl (enters_of Tryz.func62 (by kernel_rfl) rfl) (fun _=>by simp) (fun q o hq _ hm=>by simp at hm;omega)
  (zmq w W _ p4 k _ (fun i o hi hm=>by simp at hm;omega) _ _ _ _ _ t xs (zaa HP) hsz Va l4) (fun _=>rfl)
  (fun Aa V=>Loc V p3 #[.int .i64 (Aa.length:Nat)] 3∧Loc V p1 #[.bool false] 4∧VSet (W.heap.size+2) V p2∧Below w.heap.size w V∧scan (Aa.map tst) 120=(true,(120:Int)-(Aa.length:Nat)))
  (fun Aa V=>Loc V p1 #[.bool false] 4∧Below w.heap.size w V∧(scan (Aa.map tst) 120).1=false)
  (fun Aa A B row hs hg hr=>⟨hs.1.stay hg hr (by omega) (by omega),hs.2.1.stay hg hr (by omega) (by omega),hs.2.2.1.stay hg hr (by omega) (by omega),zdj hs.2.2.2.1 (by omega) hg hr hs.2.2.2.1.size,hs.2.2.2.2⟩)
  (fun Aa A B row hs hg hr=>⟨hs.1.stay hg hr (by omega) (by omega),zdj hs.2.1 (by omega) hg hr hs.2.1.size,hs.2.2⟩)
  ⟨l3,l1,.inl l2,Va,rfl⟩
  (fun x a' V=>∃q,W.heap.size+1<q∧Loc V q #[x.a,x.b,x.c,x.d,x.e] 29∧a'={ tmps:= #[.agg #[.int .i64 0,.slice ab nb cb,.slice ac nc cc,.slice ad nd cd,.slice ae ne ce],.pointer (some ⟨w.heap.size,0,none⟩),.pointer (some ⟨p1,0,none⟩),.pointer (some ⟨p2,0,none⟩),.pointer (some ⟨p3,0,none⟩),.int .i64 x.deep,.pointer (some ⟨q,0,none⟩),.pointer (some ⟨w.heap.size,0,none⟩),.int .i64 0,.bool false,.agg #[.int .i64 0,.slice ab nb cb,.slice ac nc cc,.slice ad nd cd,.slice ae ne ce],.func (.func 62) #[] #[.pointer (some ⟨p4,0,none⟩)],.int .i64 x.deep,.agg #[x.a,x.b,x.c,x.d,x.e],undef,undef,undef,undef,undef,undef,undef,undef,undef,undef,undef,undef,undef],defers:=[] })
  (fun x a' u A B row hs hg hr=>by obtain⟨q,h1,h2,h3⟩:=hs;exact⟨q,h1,h2.stay hg hr (by omega) (by omega),h3⟩)
  ?assign ?body ?done ?stop
 case assign=>
  intro Aa x V K hi Ta hK
  obtain⟨deep,a,b,c,d,e,m,u,rd⟩:=x
  obtain⟨z,Fa,Ja,Ha,Ga,La,Ia,Ma,Ka,Da,Oa,Pa,Na,hC⟩:=zcN rd
  simp only [List.cons.injEq,and_true]at hC
  obtain⟨rfl,rfl,rfl,rfl,rfl⟩:=hC
  simp only [zgc]at hK ⊢
  gi_wp2
  exact hK _ _ ((Below.refl _ _).alloc (Nat.le_refl _) _) ⟨V.heap.size,by omega,Loc.made V _ _,rfl⟩
 case body=>
  rintro Aa x a' V ⟨i3,i1,iV,iB,iS⟩ ⟨q,hq,lq,rfl⟩ ba Ca
  obtain⟨deep,a,b,c,d,e,m,u,rd⟩:=x
  have HI:=hide (And.intro i3 (And.intro i1 (And.intro iV (And.intro iB iS))))
  have HR:=hide rd
  obtain⟨z,Fa,Ja,Ha,Ga,La,Ia,Ma,Ka,Da,Oa,Pa,Na,hC⟩:=zcN rd
  simp only [List.cons.injEq,and_true]at hC
  obtain⟨rfl,rfl,rfl,rfl,rfl⟩:=hC
  have Xa:Aa.length<=120:=by
   have:=zzc (a:=Aa.map tst) (left:=120) (by rw [iS]) (by omega)
   simp at this
   omega
  have c3:V.cell? ⟨p3,0,none⟩=some (.int .i64 (Aa.length:Nat)):=i3.cell 0
  have f3:=i3.frozen 0
  have c1:V.cell? ⟨p1,0,none⟩=some (.bool false):=i1.cell 0
  have f1:=i1.frozen 0
  simp only at lq
  obtain⟨x0,x1,x2,x3,x4⟩:=lq.five
  have Ua:=zxc (x:=tst (⟨deep,.int .i64 z,.slice Fa Ja Ha,.slice Ga La Ia,.slice Ma Ka Da,.slice Oa Pa Na,m,u,rd⟩:It w)) iS
  have HS:=hide Ua
  clear Ua iS i3 i1 iV iB
  generalize hn:Aa.length=n at *
  have HN:=hide hn
  clear hn
  have aa:0<=(n:Int)+1:=by omega
  have Ra:BooksSame W.heap.size V ((V.setCell ⟨p3,0,none⟩ (.int .i64 ((n:Int)+1))).setCell ⟨p1,0,none⟩ (.bool false)):=(zgd W.heap.size V p3 0 _ (by omega) (by omega)).trans (zgd W.heap.size _ p1 0 _ (by omega) (by omega))
  by_cases h1:120<(n:Int)+1
  ·gi_wp2
   refine⟨trivial,?_⟩
   gi_wp2
   obtain⟨i3,i1,iV,iB,iS⟩:=zaa HI
   refine⟨Ra,(i1.other p3 0 _ (by omega)).set 0 (.bool false),(iB.setCell (p:=⟨p3,0,none⟩) (by show w.heap.size<=p3;omega) _).setCell (p:=⟨p1,0,none⟩) (by show w.heap.size<=p1;omega) _,?_⟩
   rw [List.map_append,List.map_cons,List.map_nil,zaa HS,if_pos (.inl h1)]
  ·by_cases h2:20<deep
   ·gi_wp2
    refine⟨trivial,?_⟩
    gi_wp2
    obtain⟨i3,i1,iV,iB,iS⟩:=zaa HI
    refine⟨Ra,(i1.other p3 0 _ (by omega)).set 0 (.bool false),(iB.setCell (p:=⟨p3,0,none⟩) (by show w.heap.size<=p3;omega) _).setCell (p:=⟨p1,0,none⟩) (by show w.heap.size<=p1;omega) _,?_⟩
    rw [List.map_append,List.map_cons,List.map_nil,zaa HS,if_pos (.inr (.inl h2))]
   ·have Ba:Calls Tryz.prog 31 #[.agg #[.int .i64 z,.slice Fa Ja Ha,.slice Ga La Ia,.slice Ma Ka Da,.slice Oa Pa Na],.pointer (some ⟨p2,0,none⟩)] (V.setCell ⟨p3,0,none⟩ (.int .i64 ((n:Int)+1))) fun e w'=>e=.returned (.bool (zbF u))∧VSet (W.heap.size+2) w' p2∧Frm (V.setCell ⟨p3,0,none⟩ (.int .i64 ((n:Int)+1))) w' [p2]:=by
     obtain⟨i3,i1,iV,iB,iS⟩:=zaa HI
     exact zwZ (W.heap.size+2) m w _ _ _ _ _ _ u p2 (zaa HR) (iB.setCell (p:=⟨p3,0,none⟩) (by show w.heap.size<=p3;omega) _) (by omega) (iV.set i3 (by omega) 0 _) (by simpa using Ca)
    have HC:=hide Ba
    clear Ba
    gi_wp2
    refine⟨trivial,?_⟩
    refine (CallsIn.inRound (F:=Fence.wide) (W.heap.size+1) (callsIn_wide.2 (zaa HC))).mono ?_
    rintro e V2 ⟨rfl,Ta,F2⟩
    have HA:Hid (Loc V2 p3 #[.int .i64 ((n:Int)+1)] 3∧Loc V2 p1 #[.bool false] 4∧Below w.heap.size w V2∧BooksSame W.heap.size V V2∧Frm V V2 [p1,p2,p3,W.heap.size+1]):=by
     obtain⟨i3,i1,iV,iB,iS⟩:=zaa HI
     have Sa:=iB.setCell (p:=⟨p3,0,none⟩) (by show w.heap.size<=p3;omega) (.int .i64 ((n:Int)+1))
     refine⟨(i3.set 0 _).frm F2 (by simp;omega),(i1.other p3 0 _ (by omega)).frm F2 (by simp;omega),Sa.trans (F2.below Sa.size (fun g hg=>by simp at hg;omega)),(zgd W.heap.size V p3 0 _ (by omega) (by omega)).trans (zwK F2 (by simpa using Ca) (by simp;omega) (by simp;omega)),?_⟩
     exact ((Frm.set V p3 0 _).mono (fun g hg=>by simp at hg;simp [hg])).trans (F2.mono (fun g hg=>by simp at hg;simp [hg]))
    have c1:V2.cell? ⟨p1,0,none⟩=some (.bool false):=(zaa HA).2.1.cell 0
    have f1:=(zaa HA).2.1.frozen 0
    clear x0 x1 x2 x3 x4 c3 f3
    by_cases hb:zbF u=true
    ·rw [hb]
     gi_wp2
     obtain⟨a3,a1,aB,aK,aF⟩:=zaa HA
     refine⟨aK,Frp.ofFrm aF (fun g hg _ _=>hg),?_,a1,Ta,aB,?_⟩
     ·have e:((Aa++[(⟨deep,.int .i64 z,.slice Fa Ja Ha,.slice Ga La Ia,.slice Ma Ka Da,.slice Oa Pa Na,m,u,rd⟩:It w)]).length:Int)=(n:Int)+1:=by rw [List.length_append,zaa HN];simp
      rw [e];exact a3
     ·rw [List.map_append,List.map_cons,List.map_nil,zaa HS,if_neg (by simp only [tst,hb];simp;omega)]
      rw [List.length_append,zaa HN]
      simp
      omega
    ·have Wa:zbF u=false:=by simpa using hb
     rw [Wa]
     gi_wp2
     obtain⟨a3,a1,aB,aK,aF⟩:=zaa HA
     refine⟨aK.trans (zgd W.heap.size _ p1 0 _ (by omega) (by omega)),a1.set 0 (.bool false),aB.setCell (p:=⟨p1,0,none⟩) (by show w.heap.size<=p1;omega) _,?_⟩
     rw [List.map_append,List.map_cons,List.map_nil,zaa HS,if_pos (.inr (.inr Wa))]
 case done=>
  rintro V ⟨i3,i1,iV,iB,iS⟩ hD
  have c1:V.cell? ⟨p1,0,none⟩=some (.bool false):=i1.cell 0
  have f1:=i1.frozen 0
  have HF:=hide (show okN k t=true by rw [zaa HO,<-zaa HM,iS])
  clear iS
  gi_wp2
  have Za:(V.setCell ⟨p1,0,none⟩ (.bool true)).heap[W.heap.size]? = some (.deferred (some [])):=(heap_setCell_other V ⟨p1,0,none⟩ _ _ (by show W.heap.size≠p1;omega)).trans hD
  refine⟨by simp,.inl ⟨_,_,rfl,run_takeDeferred Za,?_⟩⟩
  have lE:Loc ((V.setCell ⟨p1,0,none⟩ (.bool true)).putObj W.heap.size (.deferred none)) p1 #[.bool true] 4:=(i1.set 0 (.bool true)).stay (grownBy_putObj' _ _ _) (fun r e=>by cases e;exact .inl rfl) (by omega) (by omega)
  have c5:((V.setCell ⟨p1,0,none⟩ (.bool true)).putObj W.heap.size (.deferred none)).cell? ⟨p1,0,none⟩=some (.bool true):=lE.cell 0
  refine⟨.bool true,?_,by rw [zaa HF],zdj (iB.setCell (p:=⟨p1,0,none⟩) (by show w.heap.size<=p1;omega) _) (D:=W.heap.size) (by omega) (grownBy_putObj' _ _ _) (fun r e=>by cases e;exact .inl rfl) (by simpa using iB.size)⟩
  simp [results,Tryz.f12,go_sem,c5]
 case stop=>
  rintro Aa V Qa ⟨i1,iB,iS⟩ hD
  have HF:=hide (show okN k t=false by rw [zaa HO,<-zaa HM];exact zzK iS (Qa.map _))
  clear iS
  gi_wp2
  refine⟨by simp,.inl ⟨_,_,rfl,run_takeDeferred hD,?_⟩⟩
  have lE:Loc (V.putObj W.heap.size (.deferred none)) p1 #[.bool false] 4:=i1.stay (grownBy_putObj' _ _ _) (fun r e=>by cases e;exact .inl rfl) (by omega) (by omega)
  have c5:(V.putObj W.heap.size (.deferred none)).cell? ⟨p1,0,none⟩=some (.bool false):=lE.cell 0
  refine⟨.bool false,?_,by rw [zaa HF],zdj iB (D:=W.heap.size) (by omega) (grownBy_putObj' _ _ _) (fun r e=>by cases e;exact .inl rfl) iB.size⟩
  simp [results,Tryz.f12,go_sem,c5]
theorem zuy (k:Nat) (w:Xk) (a b c d e:Xl) (t:Tr (k+1)) (h:RdNode (k+1) w [a,b,c,d,e] t) (hz:t.kind≠0) :
  Calls Tryz.prog 12 #[.agg #[a,b,c,d,e]] w fun e w'=>e=.returned (.bool (okN k t))∧Below w.heap.size w w':=by
 have HO:=hide (show okN k t=false by unfold okN;simp [hz])
 obtain⟨_,_,_,_,e0,k1,k2,hb,hc,hd,he⟩:=h
 simp only [List.cons.injEq,and_true]at e0
 obtain⟨rfl,rfl,rfl,rfl,rfl⟩:=e0
 obtain⟨ab,cb,rfl,_,_⟩:=hb.shape
 obtain⟨ac,cc,rfl,_,_⟩:=hc.shape
 obtain⟨ad,cd,rfl,_,_⟩:=Elems.shape hd
 obtain⟨ae,ce,rfl,_,_⟩:=Elems.shape he
 have d0:(t.kind != 0)=true:=by simpa using hz
 clear hb hc hd he
 generalize t.kind=z at *
 generalize t.name.length=nb at *
 generalize t.text.length=nc at *
 generalize t.attrs.length=nd at *
 generalize t.kids.length=ne at *
 go_enter Tryz.func12,Tryz.ntmps12
 go_wp2_with fail
 refine bodyPost_ret (v:=.bool false) (by simp [results,Tryz.results12,go_sem]) rfl ⟨by rw [zaa HO],?_⟩
 exact ((Below.refl _ _).alloc (Nat.le_refl _) _).alloc (by simp) _
theorem zcO (k:Nat) (w:Xk) (a b c d e:Xl) (t:Tr (k+1)) (h:RdNode (k+1) w [a,b,c,d,e] t) (hsz:szT (k+1) t<=2097152) :
  Calls Tryz.prog 12 #[.agg #[a,b,c,d,e]] w fun e w'=>e=.returned (.bool (okN k t))∧Below w.heap.size w w':=by
 by_cases hz:t.kind=0
 ·exact zuz k w a b c d e t h hsz hz
 ·exact zuy k w a b c d e t h hz
end Go.Proofs.YtgjolijncmkkhaaGreatDoor
