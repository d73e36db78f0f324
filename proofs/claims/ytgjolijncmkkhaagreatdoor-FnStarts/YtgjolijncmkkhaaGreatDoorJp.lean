/- Own texts joined: FoN, FoK, OnceF, AppZ, OutT, RwT, PlW, FoS, SdI. -/
import Derived.Test.YtgjolijncmkkhaaGreatDoorJa
import Derived.Test.YtgjolijncmkkhaaGreatDoorJb
import Derived.Test.YtgjolijncmkkhaaGreatDoorJc
import Derived.Test.YtgjolijncmkkhaaGreatDoorJe
import Derived.Test.YtgjolijncmkkhaaGreatDoorJf
import Derived.Test.YtgjolijncmkkhaaGreatDoorJo
import Derived.Test.YtgjolijncmkkhaaGreatDoorChecked
import Derived.Maps.OwnSet
import Derived.DeepKeys4
import Derived.Deep.AppendLies
namespace Go.Proofs.YtgjolijncmkkhaaGreatDoor
open Go.RowKit
set_option linter.unusedVariables false
theorem zer {l:List PlV} {p:PlV} {i:IdV} {k:Nat} (h:posP l i=some k):posP (l++[p]) i=some k:=by
 obtain⟨h1,h2,h3⟩:=posP_some.1 h
 refine posP_some.2 ⟨by simp;omega,?_,fun j hj=> ?_⟩
 ·rw [List.getElem_append_left h1];exact h2
 ·rw [List.getElem_append_left (by omega)];exact h3 j hj
theorem Fr.add {l:List PlV} (h:Fr l) {q:PlV} (hn:posP l q.id=none) {j:Nat} (hp:posP l q.par=some j):Fr (l++[q]):=by
 have Ca:∀p∈l,p.id≠q.id:=posP_none.1 hn
 have Aa:∀i r,(l++[q])[i]? = some r->(i=l.length∧r=q)∨(i<l.length∧l[i]? = some r):=fun i r hr=>by
  rw [List.getElem?_append]at hr
  split at hr
  ·exact .inr ⟨by assumption,hr⟩
  ·rename_i Ha
   have:i-l.length=0:=by
    have:=(List.getElem?_eq_some_iff.1 hr).1
    simp at this;omega
   rw [this]at hr
   simp at hr
   exact .inl ⟨by omega,hr.symm⟩
 have h2:=h.two
 refine⟨by simp;omega,fun r hr=> ?_,fun r hr=> ?_,?_,fun i r hi hr=> ?_,?_⟩
 ·rcases Aa _ _ hr with ⟨e,_⟩ | ⟨_,hr⟩
  ·omega
  ·exact h.root r hr
 ·rcases Aa _ _ hr with ⟨e,_⟩ | ⟨_,hr⟩
  ·omega
  ·exact h.trash r hr
 ·rw [List.map_append,List.nodup_append]
  refine⟨h.uniq,by simp,fun a ha b hb e=> ?_⟩
  obtain⟨p,Da,rfl⟩:=List.mem_map.1 ha
  simp at hb
  exact Ca p Da (e.trans hb)
 ·rcases Aa _ _ hr with ⟨_,rfl⟩ | ⟨_,hr⟩
  ·exact⟨j,zer hp⟩
  ·obtain⟨m,hm⟩:=h.par i r hi hr
   exact⟨m,zer hm⟩
 ·obtain⟨rk,Ga⟩:=h.rank
  have Ba:∀i r,2<=i->l[i]? = some r->r.par≠q.id:=fun i r hi hr e=>by
   obtain⟨m,hm⟩:=h.par i r hi hr
   rw [e,hn]at hm
   cases hm
  have Fa:q.par≠q.id:=fun e=>by rw [e,hn]at hp;cases hp
  refine⟨fun x=>if x=q.id then rk q.par+1 else rk x,fun i r hi hr=> ?_⟩
  rcases Aa _ _ hr with ⟨_,rfl⟩ | ⟨_,hr⟩
  ·simp [Fa]
  ·have:=Ca r (List.mem_of_getElem? hr)
   simp only [Ba i r hi hr,this,if_false]
   exact Ga i r hi hr
end Go.Proofs.YtgjolijncmkkhaaGreatDoor
namespace Go.Proofs.YtgjolijncmkkhaaGreatDoor
open Go.RowKit Go.Maps
set_option linter.unusedVariables false
set_option maxRecDepth 100000
theorem Tryz.laidOut9:laidOutB Tryz.prog=true:=by kernel_rfl
theorem Tryz.row9:(50:Xm)<Tryz.prog.types.size:=of_decide_eq_true (by kernel_rfl)
theorem lawId:Keyed Tryz.prog 50:=Keyed.of_law (deep_law_laid Tryz.laidOut9 (m:=2) (by omega) Tryz.row9 (by kernel_rfl) (by kernel_rfl))
def kId (i:IdV):Lit:=.string (keyBytes [.int .i64 i.1,.int .i64 i.2])
def okI (i:IdV):Prop:=(Lit.int .i64 i.1).wf=true∧(Lit.int .i64 i.2).wf=true
def zbg (i:IdV):Xl:=.agg #[.int .i64 i.1,.int .i64 i.2]
theorem keyI {i:IdV} (h:okI i):keyOf Tryz.prog 50 (zbg i)=some (kId i):=by
 obtain⟨wa,wb⟩:=h
 obtain⟨m,hm⟩:∃m,Tryz.prog.types.size=m+1:=⟨Tryz.prog.types.size-1,by kernel_rfl⟩
 have hu:Tryz.prog.underlying 3=some (.int .i64):=by kernel_rfl
 have hc:Tryz.prog.cellsOf 50=2:=by kernel_rfl
 have Ba:Tryz.prog.cellsOf 3=1:=by kernel_rfl
 have Aa:Tryz.prog.keyType 50=true:=by kernel_rfl
 unfold keyOf zbg kId
 simp only [Tryz.underlying50]
 rw [if_pos (by simp [Aa,Value.formed,Tryz.underlying50,hc]),hm]
 unfold Program.keyLits
 simp only [Tryz.underlying50,Value.cells]
 simp [hc,Ba,Program.keyLits,hu,wa,wb]
theorem zzi {i j:IdV} (h:okI i) (k:okI j) (e:kId i=kId j):i=j:=by
 have h1:=lawId.inj (keyI h) (by rw [e];exact keyI k)
 unfold zbg at h1
 simp at h1
 exact Prod.ext h1.1 h1.2
theorem intE:Tryz.prog.underlying 3=some (.int .i64):=by kernel_rfl
theorem zAs (w:Xk):(zeroValue 3).run Tryz.prog w=.ok (.int .i64 0) w:=by kernel_rfl
def AtM (w:Xk) (mb:Nat) (l:List PlV):Prop:=∃(D:DataW Unit) (n:Nat),w.ownsMap Tryz.prog 50 (plainElem Tryz.prog 3) mb n D∧n<=l.length∧∀i,okI i->Maps.has D (kId i)=(posP l i).isSome∧∀k,posP l i=some k->D.atKey (kId i) (.lit (.int .i64 0))=.lit (.int .i64 (k:Int))
theorem AtM.made (w:Xk):AtM (w.alloc (.map #[] 0)) w.heap.size []:=
 ⟨.map [],0,World.ownsMap_made _ _ _ _,Nat.le_refl _,fun i _=>⟨rfl,fun k h=>by cases h⟩⟩
theorem AtM.lt {w:Xk} {mb:Nat} {l:List PlV} (h:AtM w mb l):mb<w.heap.size:=by
 obtain⟨D,n,h,_⟩:=h
 exact h.lt
theorem AtM.isMap {w:Xk} {mb:Nat} {l:List PlV} (h:AtM w mb l):∃es clock,w.heap[mb]? = some (.map es clock):=by
 obtain⟨D,n,⟨es,c,h,_⟩,_⟩:=h
 exact⟨es,c,h⟩
theorem AtM.frm {w w':Xk} {mb:Nat} {l:List PlV} {S:Xh} (h:AtM w mb l) (f:Frm w w' S) (hd:mb∉S):AtM w' mb l:=by
 have Aa:=h.lt
 obtain⟨D,n,⟨es,c,h1,h2⟩,h3⟩:=h
 exact⟨D,n,⟨es,c,(f.block mb Aa hd).trans h1,h2⟩,h3⟩
theorem AtM.look {w:Xk} {mb:Nat} {l:List PlV} (h:AtM w mb l) {i:IdV} (hi:okI i):∃c:Int,(Instr.lookup 139 (.map (some mb)) (zbg i) true).run Tryz.prog w=.ok (.tuple #[.int .i64 c,.bool (posP l i).isSome]) w∧∀k,posP l i=some k->c=(k:Int):=by
 obtain⟨D,n,h1,h2,h3⟩:=h
 obtain⟨v,ps,Aa,hv⟩:=h1.look_ok lawId Tryz.underlying139 (zAs w) (plainElem_int intE (by decide)) (keyI hi)
 obtain⟨c,rfl,hc,_⟩:=plainElem_int_inv intE hv
 refine⟨c,by rw [Aa,(h3 i hi).1],fun k hk=> ?_⟩
 have h4:=(congrArg Prod.fst hc)
 rw [(h3 i hi).2 k hk]at h4
 injection h4 with h4
 injection h4 with _ h4
 exact h4.symm
theorem ziS {l:List PlV} {p:PlV} {i:IdV} (hn:posP l p.id=none):posP (l++[p]) i=if i=p.id then some l.length else posP l i:=by
 by_cases e:i=p.id
 ·rw [if_pos e,e]
  refine posP_some.2 ⟨by simp,by simp,fun j hj=> ?_⟩
  rw [List.getElem_append_left hj]
  exact posP_none.1 hn _ (List.getElem_mem hj)
 ·rw [if_neg e]
  cases h:posP l i with
  | some k=>exact zer h
  | none=>
   refine posP_none.2 (fun q hq=> ?_)
   rcases List.mem_append.1 hq with hq | hq
   ·exact posP_none.1 h q hq
   ·have:q=p:=by simpa using hq
    rw [this];exact fun h=>e h.symm
theorem AtM.put {w:Xk} {mb:Nat} {l:List PlV} (h:AtM w mb l) (p:PlV) (hp:okI p.id) (hn:posP l p.id=none) (hl:l.length<=100000000):∃w',(Instr.mapUpdate 139 (.map (some mb)) (zbg p.id) (.int .i64 (l.length:Int))).run Tryz.prog w=.ok () w'∧AtM w' mb (l++[p])∧w.grownBy w' (some mb):=by
 obtain⟨D,n,h1,h2,h3⟩:=h
 have Da:(Lit.int .i64 (l.length:Int)).wf=true:=WalkArith.wf_i64 (by omega)
 obtain⟨w',Aa,h4,h5⟩:=h1.update lawId Tryz.underlying139 (by unfold maxLen;omega) (keyI hp) (plainElem_int intE Da)
 refine⟨w',Aa,⟨_,n+1,h4,by simp;omega,fun i hi=> ?_⟩,h5⟩
 have hk:=lawId.key (keyI hp)
 rw [ziS hn]
 by_cases e:i=p.id
 ·rw [if_pos e,e]
  exact⟨has_put_same h1.isMap hk _,fun k Ca=>by cases Ca;exact atKey_put_same h1.isMap hk _ _⟩
 ·rw [if_neg e]
  have Ba:kId i≠kId p.id:=fun e'=>e (zzi hi hp e')
  rw [has_put_other Ba,atKey_put_other Ba]
  exact h3 i hi
end Go.Proofs.YtgjolijncmkkhaaGreatDoor
namespace Go.Proofs.YtgjolijncmkkhaaGreatDoor
open Go.RowKit
set_option linter.unusedVariables false
set_option maxRecDepth 100000
def fs0 (o p:Xl):Array Xl:= #[o,p,.int .u32 0,.int .i32 0,.int .u32 0,.map none]
def fs1 (o p:Xl) (m:Nat):Array Xl:= #[o,p,.int .u32 1,.int .i32 0,.int .u32 0,.map (some m)]
def ztL (B:Nat) (o p:Xl) (w:Xk) (g:Nat):Prop:=∃m,B<=m∧Loc w g (fs1 o p m) 141∧w.heap[m]? = some zaR
def FSet (B:Nat) (o p:Xl) (w:Xk) (g:Nat):Prop:=Loc w g (fs0 o p) 141∨ztL B o p w g
theorem zui (o p:Xl) (g:Nat) (w:Xk) (cs:Array Xl) (hl:Loc w g cs 141) (c3:Xl) (h3:w.cell? ⟨g,5,none⟩=some c3) :
  Calls Tryz.prog 108 #[.pointer (some ⟨g,2,none⟩)] w fun e w'=>e=.returned (.tuple #[])∧w'=(w.setCell ⟨g,5,none⟩ (.map (some w.heap.size))).alloc zaR:=by
 have Aa:= @run_makeMap Tryz.prog
 have h1:=ztz w
 have h2:=zts w
 have hg:=hl.lt
 have f3:=hl.frozen 5
 go_enter Tryz.func108,Tryz.ntmps108
 go_wp2
 go_end0
 exact⟨rfl,rfl⟩
set_option maxHeartbeats 1600000 in
theorem zvD (o p:Xl) (g:Nat) (w:Xk) (hl:Loc w g (fs0 o p) 141) :
  Calls Tryz.prog 149 #[.pointer (some ⟨g,2,none⟩),.func (.func 108) #[.pointer (some ⟨g,2,none⟩)] #[]] w fun e w'=>e=.returned (.tuple #[])∧∃m,w.heap.size<=m∧Loc w' g (fs1 o p m) 141∧w'.heap[m]? = some zaR∧Frm w w' [g]:=by
 have h1:w.cell? ⟨g,3,none⟩=some (.int .i32 0):=hl.cell 3
 have f1:=hl.frozen 3
 have l1:Loc (w.setCell ⟨g,3,none⟩ (.int .i32 1)) g #[o,p,.int .u32 0,.int .i32 1,.int .u32 0,.map none] 141:=hl.set 3 (.int .i32 1)
 have F1:=Frm.set w g 3 (.int .i32 1)
 have Ga:∀(x:Bool) (w:Xk),(Op.unary .not (.bool x)).run Tryz.prog w=.ok (.bool (!x)) w:=fun _ _=>rfl
 go_enter_defers Tryz.func149,Tryz.ntmps149
 go_wp2_with (go_at_call 178;refine (zhW ⟨g,3,none⟩ _ (by go_simp) (by go_simp)).mono ?_;rintro e w' ⟨rfl,rfl⟩)
 generalize w.setCell ⟨g,3,none⟩ (.int .i32 1)=w1 at *
 refine (zcw ⟨g,2,none⟩ 0 w1 (l1.cell 2) false (by simp)).mono ?_
 rintro e w1 ⟨rfl,rfl⟩
 go_wp2_with fail
 refine (zui o p g w1 _ l1 _ (l1.cell 5)).mono ?_
 rintro e w2 ⟨rfl,Aa⟩
 have l2:Loc w2 g #[o,p,.int .u32 0,.int .i32 1,.int .u32 0,.map (some w1.heap.size)] 141:=by rw [Aa];exact (l1.set 5 (.map (some w1.heap.size))).alloc _
 have m2:w2.heap[w1.heap.size]? = some zaR:=by rw [Aa];have:=heap_alloc_new (w1.setCell ⟨g,5,none⟩ (.map (some w1.heap.size))) zaR;rwa [show (w1.setCell ⟨g,5,none⟩ (.map (some w1.heap.size))).heap.size=w1.heap.size by simp]at this
 have F2:Frm w1 w2 [g]:=by rw [Aa];exact (Frm.set w1 g 5 _).trans (Frm.alloc _ _ _)
 have Ha:w1.heap.size≠g:=by have:=l1.lt;omega
 have Fa:=F1.trans F2
 have Ia:=F1.size
 clear Aa
 generalize w1.heap.size=m at *
 go_wp2_with fail
 refine leaves_cons (f:=180) (args:= #[.pointer (some ⟨g,2,none⟩),.bool true]) (by simp) (by simp [go_sem]) ?_
 refine (zeA ⟨g,2,none⟩ (.int .u32 0) .returning _ (l2.cell 2) (l2.frozen 2)).mono ?_
 rintro e u' w3 ⟨rfl,rfl,Ba⟩
 have ld:Loc w2.drew g #[o,p,.int .u32 0,.int .i32 1,.int .u32 0,.map (some m)] 141:=l2.frm (Frm.drew w2 []) (by simp)
 have l3:Loc w3 g #[o,p,.int .u32 1,.int .i32 1,.int .u32 0,.map (some m)] 141:=by rw [Ba];exact ld.set 2 (.int .u32 1)
 have F3:Frm w2 w3 [g]:=by rw [Ba];exact (Frm.drew w2 _).trans (Frm.set _ g 2 _)
 clear Ba
 refine leaves_cons (f:=179) (args:= #[.pointer (some ⟨g,3,none⟩)]) (by simp [settle]) (by simp [go_sem]) ?_
 refine (zed ⟨g,3,none⟩ _ _ (l3.cell 3) (l3.frozen 3)).mono ?_
 rintro e u' w4 ⟨rfl,rfl,Da⟩
 have l4:Loc w4 g (fs1 o p m) 141:=by rw [Da];exact l3.set 3 (.int .i32 0)
 have F4:Frm w3 w4 [g]:=by rw [Da];exact Frm.set _ g 3 _
 have hm:m<w2.heap.size:=by
  by_cases h:m<w2.heap.size
  ·exact h
  ·rw [Array.getElem?_eq_none (by omega)]at m2;cases m2
 have Ca:=F3.trans F4
 have m4:w4.heap[m]? = some zaR:=(Ca.block m hm (by simpa using Ha)).trans m2
 simp [Leaves,settle,results,Tryz.results149]
 exact⟨m,Ia,l4,m4,Fa.trans Ca⟩
theorem zyW (B:Nat) (o p:Xl) (g:Nat) (w:Xk) (h:FSet B o p w g) (hB:B<=w.heap.size) :
  Calls Tryz.prog 107 #[.pointer (some ⟨g,2,none⟩),.func (.func 108) #[.pointer (some ⟨g,2,none⟩)] #[]] w fun e w'=>e=.returned (.tuple #[])∧ztL B o p w' g∧Frm w w' [g]:=by
 have Ba:∀(x:Bool) (w:Xk),(Op.unary .not (.bool x)).run Tryz.prog w=.ok (.bool (!x)) w:=fun _ _=>rfl
 rcases h with hl | ⟨m,Aa,hl,hm⟩
 ·have h0:w.cell? ⟨g,2,none⟩=some (.int .u32 0):=hl.cell 2
  go_enter Tryz.func107,Tryz.ntmps107
  go_wp2_with fail
  refine (zcw ⟨g,2,none⟩ 0 w h0 false (by simp)).mono ?_
  rintro e w ⟨rfl,rfl⟩
  go_wp2_with fail
  refine (zvD o p g w hl).mono ?_
  rintro e w' ⟨rfl,m,Aa,l',m',F'⟩
  go_wp2_with fail
  go_end0
  exact⟨rfl,⟨m,Nat.le_trans hB Aa,l',m'⟩,F'⟩
 ·have h0:w.cell? ⟨g,2,none⟩=some (.int .u32 1):=hl.cell 2
  go_enter Tryz.func107,Tryz.ntmps107
  go_wp2_with fail
  refine (zcw ⟨g,2,none⟩ 1 w h0 true (by simp)).mono ?_
  rintro e w ⟨rfl,rfl⟩
  go_wp2_with fail
  go_end0
  exact⟨rfl,⟨m,Aa,hl,hm⟩,Frm.refl _ _⟩
open Classical in
set_option maxHeartbeats 1600000 in
theorem zwt (B:Nat) (o p:Xl) (g:Nat) (w:Xk) (v:Xl) (l:Xg) (h:FSet B o p w g) (hBB:B<=w.heap.size) (hv:∀w',Frm w w' [g]->Byt w' v l) :
  Calls Tryz.prog 60 #[.pointer (some ⟨g,2,none⟩),v] w fun e w'=>e=.returned (.bool (decide (Void l)))∧ztL B o p w' g∧Frm w w' [g]:=by
 have Fa:∀(fn:Fn) (first cap:Array Xl) (w:Xk),(Instr.makeFunc fn first cap).run Tryz.prog w=.ok (.func fn first cap) w:=fun _ _ _ _=>rfl
 have hg:g<w.heap.size:=by
  rcases h with h | ⟨m,_,h,_⟩
  ·exact h.lt
  ·exact h.lt
 obtain⟨a1,k1,rfl,_⟩:=(hv w (Frm.refl _ _)).shape
 have HV:=hide hv
 clear hv
 go_enter Tryz.func60,Tryz.ntmps60
 go_wp2_with fail
 refine (zyW B o p g w h hBB).mono ?_
 rintro e w1 ⟨rfl,⟨m,Ca,l1,m1⟩,F1⟩
 have h3:w1.cell? ⟨g,5,none⟩=some (.map (some m)):=l1.cell 5
 have Ga:w1.drew.cell? ⟨g,5,none⟩=some (.map (some m)):=l1.cell 5
 have Da:(w1.alloc (.cells #[] 68)).cell? ⟨g,5,none⟩=some (.map (some m)):=(l1.alloc _).cell 5
 have Ba:m<w1.heap.size:=by
  by_cases h:m<w1.heap.size
  ·exact h
  ·rw [Array.getElem?_eq_none (by omega)]at m1;cases m1
 have Aa:Byt w1 _ l:=zaa HV w1 F1
 have c1:=zbk w1.drew _ l (Aa.keep ((Below.refl _ _).drew))
 have c2:=zbk (w1.alloc (.cells #[] 68)).drew _ l (Aa.keep (((Below.refl _ _).alloc (Nat.le_refl _) _).drew))
 have q1:=fun s=>zdL w1.drew m s m1
 have q2:=fun s=>zdL (w1.alloc (.cells #[] 68)).drew m s ((heap_alloc_old w1 _ Ba).trans m1)
 have HS:=hide (zif l Aa.1)
 generalize str l=s at *
 generalize l.length=n at *
 go_wp2_with fail
 go_region
 all_goals
  go_wp2_with fail
  go_ret
  exact⟨by rw [<-zaa HS];rfl,⟨m,Ca,(l1.alloc _).all ((Below.refl _ _).drew),(heap_alloc_old w1 _ Ba).trans m1⟩,F1.trans ((Frm.alloc w1 _ _).trans (Frm.drew _ _))⟩
theorem zqC (w:Xk) (base:Nat):OwnZ w base (.slice none 0 0) []:=⟨zyU,rfl,.inl ⟨rfl,rfl⟩⟩
end Go.Proofs.YtgjolijncmkkhaaGreatDoor
namespace Go.Proofs.YtgjolijncmkkhaaGreatDoor
open Go.RowKit
set_option linter.unusedVariables false
theorem OwElems.naught {α:Type} (w:Xk) (e:Xm) (size:Nat) (R:Xj->α->Xh->Prop):OwElems w e size (.slice none 0 0) ([]:List α) R []:=
 ⟨[],[],rfl,rfl,fun i hi=>by simp at hi,World.ownsRow_nil _ _ _ _,rfl⟩
theorem zzk {l:List (Xg×Xg)} {x:Xg×Xg} (h:x∈l):x.1.length+x.2.length<=szA l:=by
 unfold szA
 have:x.1.length+x.2.length∈l.map (fun x=>x.1.length+x.2.length):=List.mem_map.2 ⟨x,h,rfl⟩
 have:=zml this
 omega
structure OutAt (n lo:Nat) (w:Xk) (po:Nat) (kd:Int) (nm tx at' kv:Xl) (ln lt:Xg) (la:List (Xg×Xg)) (A:List (Tr (n+1))) (Fa Fk:Xh):Prop where
 loc:Loc w po #[.int .i64 kd,nm,tx,at',kv] 29
 name:Own w 0 nm ln
 text:Own w 0 tx lt
 attrs:OwAttrs w at' la Fa
 kids:OwKids (n+1) w kv A Fk
 nodup:(FB nm++FB tx++Fa++Fk).Nodup
 rng:∀q∈FB nm++FB tx++Fa++Fk,lo<=q∧q<w.heap.size∧q≠po
section
variable {n lo po:Nat} {w w':Xk} {kd:Int} {nm tx at' kv:Xl} {ln lt:Xg} {la:List (Xg×Xg)} {A:List (Tr (n+1))} {Fa Fk:Xh}
theorem OutAt.frm {S:Xh} (h:OutAt n lo w po kd nm tx at' kv ln lt la A Fa Fk) (f:Frm w w' S) (hp:po∉S) (hd:∀q∈FB nm++FB tx++Fa++Fk,q∉S):OutAt n lo w' po kd nm tx at' kv ln lt la A Fa Fk where
 loc:=h.loc.frm f hp
 name:=h.name.frm f (fun q hq=>hd q (by simp only [List.mem_append];exact .inl (.inl (.inl hq))))
 text:=h.text.frm f (fun q hq=>hd q (by simp only [List.mem_append];exact .inl (.inl (.inr hq))))
 attrs:=h.attrs.frm f (fun q hq=>hd q (by simp only [List.mem_append];exact .inl (.inr hq)))
 kids:=OwKids.frm h.kids f (fun q hq=>hd q (by simp only [List.mem_append];exact .inr hq))
 nodup:=h.nodup
 rng:=fun q hq=>⟨(h.rng q hq).1,Nat.lt_of_lt_of_le (h.rng q hq).2.1 f.size,(h.rng q hq).2.2⟩
theorem OutAt.keep (h:OutAt n lo w po kd nm tx at' kv ln lt la A Fa Fk) (hb:Below w.heap.size w w'):OutAt n lo w' po kd nm tx at' kv ln lt la A Fa Fk:=h.frm (Frm.ofBelow hb []) (by simp) (fun _ _=>by simp)
theorem OutAt.setKids {S:Xh} {kv':Xl} {A':List (Tr (n+1))} {Fk':Xh} (h:OutAt n lo w po kd nm tx at' kv ln lt la A Fa Fk) (f:Frm w w' S) (hp:po∉S) (hd:∀q∈FB nm++FB tx++Fa,q∉S)
  (hk:OwKids (n+1) w' kv' A' Fk') (hN:Fk'.Nodup) (hF:∀q∈Fk',(q∈Fk∨w.heap.size<=q)∧q<w'.heap.size) (hlo:lo<=w.heap.size):OutAt n lo (w'.setCell ⟨po,4,none⟩ kv') po kd nm tx at' kv' ln lt la A' Fa Fk':=by
 have Ca:=h.loc.lt
 have Ba:∀q∈Fk',q≠po:=fun q hq e=>by
  rcases (hF q hq).1 with h' | h'
  ·exact (h.rng q (by simp only [List.mem_append];exact .inr h')).2.2 e
  ·omega
 have fs:=Frm.set w' po 4 kv'
 have hl:=h.loc.frm f hp
 have Aa:∀q∈FB nm++FB tx++Fa,q∉[po]:=fun q hq hm=>(h.rng q (by simp only [List.mem_append]at hq ⊢;exact .inl hq)).2.2 (by simpa using hm)
 refine⟨hl.set 4 kv',(h.name.frm f (fun q hq=>hd q (by simp only [List.mem_append];exact .inl (.inl hq)))).frm fs (fun q hq=>Aa q (by simp only [List.mem_append];exact .inl (.inl hq))),(h.text.frm f (fun q hq=>hd q (by simp only [List.mem_append];exact .inl (.inr hq)))).frm fs (fun q hq=>Aa q (by simp only [List.mem_append];exact .inl (.inr hq))),(h.attrs.frm f (fun q hq=>hd q (by simp only [List.mem_append];exact .inr hq))).frm fs (fun q hq=>Aa q (by simp only [List.mem_append];exact .inr hq)),OwKids.frm hk fs (fun q hq hm=>Ba q hq (by simpa using hm)),?_,?_⟩
 ·obtain⟨n1,n2,n3⟩:=List.nodup_append.1 h.nodup
  refine List.nodup_append.2 ⟨n1,hN,fun a ha b hb e=> ?_⟩
  rcases (hF b hb).1 with h' | h'
  ·exact n3 a ha b h' e
  ·have:=(h.rng a (List.mem_append_left _ ha)).2.1
   omega
 ·intro q hq
  rcases List.mem_append.1 hq with hq | hq
  ·have:=h.rng q (List.mem_append_left _ hq)
   exact⟨this.1,Nat.lt_of_lt_of_le this.2.1 (Nat.le_trans f.size fs.size),this.2.2⟩
  ·refine⟨?_,Nat.lt_of_lt_of_le (hF q hq).2 fs.size,Ba q hq⟩
   rcases (hF q hq).1 with h' | h'
   ·exact (h.rng q (List.mem_append_right _ h')).1
   ·omega
theorem OutAt.node (h:OutAt n lo w po kd nm tx at' kv ln lt la A Fa Fk) (k1 : -9223372036854775808<=kd) (k2:kd<=9223372036854775807):OwNode (n+2) w [.int .i64 kd,nm,tx,at',kv] (⟨kd,ln,lt,la,A⟩:Nd (Tr (n+1))) (FB nm++FB tx++Fa++Fk):=
 ⟨nm,tx,at',kv,Fa,Fk,rfl,k1,k2,h.name,h.text,h.attrs,h.kids,rfl⟩
end
theorem zcj {w:Xk} {po:Nat} {z0 z1 z2 z3 z4:Xl} {T:Xm} (h:Loc w po #[z0,z1,z2,z3,z4] T) (a b c d e:Xl) :
  Loc (((((w.setCell ⟨po,0,none⟩ a).setCell ⟨po,1,none⟩ b).setCell ⟨po,2,none⟩ c).setCell ⟨po,3,none⟩ d).setCell ⟨po,4,none⟩ e) po #[a,b,c,d,e] T∧Frm w (((((w.setCell ⟨po,0,none⟩ a).setCell ⟨po,1,none⟩ b).setCell ⟨po,2,none⟩ c).setCell ⟨po,3,none⟩ d).setCell ⟨po,4,none⟩ e) [po]:=
 ⟨((((h.set 0 a).set 1 b).set 2 c).set 3 d).set 4 e,((((Frm.set _ _ _ _).trans (Frm.set _ _ _ _)).trans (Frm.set _ _ _ _)).trans (Frm.set _ _ _ _)).trans (Frm.set _ _ _ _)⟩
theorem Frm.more {a b c:Xk} {S S':Xh} (h:Frm a b S) (k:Frm b c S') (hs:∀q∈S',q∈S∨a.heap.size<=q):Frm a c S:=
 ⟨k.os.trans h.os,k.tape.trans h.tape,k.output.trans h.output,Nat.le_trans h.size k.size,fun i hi hn=>(k.block i (Nat.lt_of_lt_of_le hi h.size) (fun hm=>by
  rcases hs i hm with h' | h'
  ·exact hn h'
  ·omega)).trans (h.block i hi hn)⟩
theorem zmV (w:Xk) (a b c d e:Xl) (T:Xm):∀(j:Nat) (u:Xl),[a,b,c,d,e][j]? = some u->(w.alloc (.cells #[a,b,c,d,e] T)).cell? ((⟨w.heap.size,0,none⟩:Addr).add j)=some u:=by
 intro j u hu
 exact World.news_of_block (heap_alloc_new w (.cells #[a,b,c,d,e] T)) j u (by simpa using hu)
theorem zyV {t:Tr 1}:t.kids=[]:=by
 cases h:t.kids with
 | nil=>rfl
 | cons k l=>exact k.elim
theorem zux {α β:Type} {w:Xk} {size:Nat} {v:Xl} {R:Xj->α->Prop} {R':Xj->β->Prop} (h:Elems w size v ([]:List α) R):Elems w size v ([]:List β) R':=by
 obtain⟨h1,⟨h2,_⟩ | ⟨x,c,h2,h3,_⟩ | ⟨b,Aa,c,h2,h3,h4,h5,_⟩⟩:=h
 ·exact⟨h1,.inl ⟨h2,rfl⟩⟩
 ·exact⟨h1,.inr (.inl ⟨x,c,h2,h3,rfl⟩)⟩
 ·exact absurd rfl h5
theorem zqR {α β:Type} {w:Xk} {e:Xm} {size:Nat} {v:Xl} {R:Xj->α->Xh->Prop} {R':Xj->β->Xh->Prop} {F:Xh} (h:OwElems w e size v ([]:List α) R F):OwElems w e size v ([]:List β) R' F:=by
 obtain⟨Cs,Fs,h1,h2,_,h4,h5⟩:=h
 exact⟨Cs,Fs,h1,h2,fun i hi=>by simp at hi,h4,h5⟩
def up1 (t:Tr 1):Tr 2:=(⟨t.kind,t.name,t.text,t.attrs,[]⟩:Nd (Tr 1))
end Go.Proofs.YtgjolijncmkkhaaGreatDoor
namespace Go.Proofs.YtgjolijncmkkhaaGreatDoor
open Go.RowKit
set_option linter.unusedVariables false
set_option maxRecDepth 100000
theorem zet {w:Xk} {b1 s1 n1:Nat} {T1 T2:Xm} {v:Xl} {xs:Xj} {g:Nat} {cs:Array Xl} (h:w.ownsRow b1 T1 s1 v n1 xs) (k:Loc w g cs T2) (hT:T1≠T2):g∉FB v:=by
 intro hq
 obtain⟨c1,e1⟩:=zgH h (g:=g) (by simpa [FB]using hq)
 unfold Loc at k
 rw [e1]at k
 injection k with k
 injection k with _ k
 exact hT k
theorem zkQ {w:Xk} {v:Xl} {l:List (Xg×Xg)} {F:Xh} {g:Nat} {cs:Array Xl} (ho:OwAttrs w v l F) (h:Loc w g cs 146):g∉F:=by
 obtain⟨Cs,Fs,e1,e2,e3,e4,rfl⟩:=ho
 intro hg
 rcases List.mem_append.1 hg with hg | hg
 ·exact zet e4 h (by decide) hg
 ·obtain⟨G,hG,Aa⟩:=List.mem_flatten.1 hg
  obtain⟨i,hi,rfl⟩:=List.getElem_of_mem hG
  obtain⟨_,a,b,_,q1,q2,q3⟩:=e3 i (by omega)
  rw [show Fs.getD i []=Fs[i] by simp [hi]]at q3
  rw [q3]at Aa
  rcases List.mem_append.1 Aa with h' | h'
  ·exact zet q1.2 h (by decide) h'
  ·exact zet q2.2 h (by decide) h'
def OwPlM (w:Xk) (C:Xj) (p:PlV) (F:Xh):Prop:=∃k n t a Fa,C=[.int .i64 p.idN,.int .i64 p.idR,.int .i64 p.parN,.int .i64 p.parR,k,.int .i64 p.kind,n,t,a]∧OwnZ w 0 k p.key∧RowM w 0 n p.name∧Own w 0 t p.text∧OwAttrs w a p.attrs Fa∧F=FB k++FB n++FB t++Fa
def OwPlsM (w:Xk) (v:Xl) (l:List PlV) (F:Xh):Prop:=OwElems w 146 9 v l (OwPlM w) F
theorem OwPlM.frm {w w':Xk} {C:Xj} {p:PlV} {F S:Xh} (h:OwPlM w C p F) (f:Frm w w' S) (hd:∀g∈F,g∉S):OwPlM w' C p F:=by
 obtain⟨k,n,t,a,Fa,e,h1,h2,h3,h4,rfl⟩:=h
 exact⟨k,n,t,a,Fa,e,⟨h1.1,zeN h1.2 f (fun g hg=>hd g (by simp [hg]))⟩,h2.frm f (fun g hg=>hd g (by simp [hg])),h3.frm f (fun g hg=>hd g (by simp [hg])),OwAttrs.frm h4 f (fun g hg=>hd g (by simp [hg])),rfl⟩
theorem OwPlsM.frm {w w':Xk} {v:Xl} {l:List PlV} {F S:Xh} (h:OwPlsM w v l F) (f:Frm w w' S) (hd:∀g∈F,g∉S):OwPlsM w' v l F:=OwElems.frm h f hd (fun C x G hr hG=>hr.frm f hG)
theorem OwPlM.rd {w:Xk} {C:Xj} {p:PlV} {F:Xh} (h:OwPlM w C p F):RdPlC w C p:=by
 obtain⟨k,n,t,a,Fa,e,h1,h2,h3,h4,_⟩:=h
 exact⟨k,n,t,a,e,h1.ints,h2.byt,h3.byt,h4.rd⟩
theorem OwPlsM.rd {w:Xk} {v:Xl} {l:List PlV} {F:Xh} (h:OwPlsM w v l F):RdPls w v l:=OwElems.rd h (OwElems.len h) (fun C x G hr=>hr.rd)
theorem OwPlM.lt {w:Xk} {C:Xj} {p:PlV} {F:Xh} (h:OwPlM w C p F):∀g∈F,g<w.heap.size:=by
 obtain⟨k,n,t,a,Fa,_,h1,h2,h3,h4,rfl⟩:=h
 intro g hg
 rcases List.mem_append.1 hg with hg | hg
 ·rcases List.mem_append.1 hg with hg | hg
  ·rcases List.mem_append.1 hg with hg | hg
   ·exact (h1.lt g (by simpa [FB]using hg)).2
   ·exact (h2.lt g (by simpa [FB]using hg)).2
  ·exact (h3.lt g (by simpa [FB]using hg)).2
 ·exact OwAttrs.lt h4 g hg
theorem OwPlsM.lt {w:Xk} {v:Xl} {l:List PlV} {F:Xh} (h:OwPlsM w v l F):∀g∈F,g<w.heap.size:=OwElems.lt h (fun _ _ _ hr=>hr.lt)
theorem zxG {w:Xk} {base:Nat} {v:Xl} {l:Xg} (h:RowM w base v l):∀g∈FB v,∃cs fz,w.heap[g]? = some (.cells cs 5 fz):=fun g hg=>by
 rcases h.2 with ⟨rfl,_⟩ | ⟨g',Ba,Aa,fz,rfl,_,hh,_⟩
 ·simp [FB,Value.ownBlock]at hg
 ·have e:g=g':=by simpa [FB,Value.ownBlock,eq_comm]using hg
  subst e
  exact⟨Aa,fz,hh⟩
end Go.Proofs.YtgjolijncmkkhaaGreatDoor
namespace Go.Proofs.YtgjolijncmkkhaaGreatDoor
open Go.RowKit Go.Maps
set_option linter.unusedVariables false
set_option maxRecDepth 100000
def CellT (w:Xk) (q:Nat):Prop:=∃cs T fz,w.heap[q]? = some (.cells cs T fz)∧(T=146∨T=3∨T=5∨T=132)
theorem zeR {w:Xk} {b s n:Nat} {T:Xm} {v:Xl} {xs:Xj} (h:w.ownsRow b T s v n xs) (hT:T=146∨T=3∨T=5∨T=132):∀q∈FB v,CellT w q:=fun q hq=>by
 obtain⟨cs,e⟩:=zgH h (g:=q) (by simpa [FB]using hq)
 exact⟨cs,T,_,e,hT⟩
theorem zgC {α:Type} {w:Xk} {e:Xm} {size:Nat} {v:Xl} {l:List α} {R:Xj->α->Xh->Prop} {F:Xh} (h:OwElems w e size v l R F) (he:e=146∨e=3∨e=5∨e=132) (hR:∀C x G,R C x G->∀q∈G,CellT w q):∀q∈F,CellT w q:=by
 obtain⟨Cs,Fs,e1,e2,e3,e4,rfl⟩:=h
 intro q hq
 rcases List.mem_append.1 hq with hq | hq
 ·exact zeR e4 he q hq
 ·obtain⟨G,hG,Aa⟩:=List.mem_flatten.1 hq
  obtain⟨i,hi,rfl⟩:=List.getElem_of_mem hG
  have:=(e3 i (by omega)).2
  rw [show Fs.getD i []=Fs[i] by simp [hi]]at this
  exact hR _ _ _ this q Aa
theorem OwAttrs.typ {w:Xk} {v:Xl} {l:List (Xg×Xg)} {F:Xh} (h:OwAttrs w v l F):∀q∈F,CellT w q:=
 zgC h (.inr (.inr (.inr rfl))) (fun C x G ⟨a,b,_,h1,h2,e⟩ q hq=>by
  rw [e]at hq
  rcases List.mem_append.1 hq with hq | hq
  ·exact zeR h1.2 (.inr (.inr (.inl rfl))) q hq
  ·exact zeR h2.2 (.inr (.inr (.inl rfl))) q hq)
theorem OwPlM.typ {w:Xk} {C:Xj} {p:PlV} {F:Xh} (h:OwPlM w C p F):∀q∈F,CellT w q:=by
 obtain⟨k,n,t,a,Fa,_,h1,h2,h3,h4,rfl⟩:=h
 intro g hg
 rcases List.mem_append.1 hg with hg | hg
 ·rcases List.mem_append.1 hg with hg | hg
  ·rcases List.mem_append.1 hg with hg | hg
   ·exact zeR h1.2 (.inr (.inl rfl)) g hg
   ·obtain⟨cs,fz,e⟩:=zxG h2 g hg
    exact⟨cs,_,fz,e,.inr (.inr (.inl rfl))⟩
  ·exact zeR h3.2 (.inr (.inr (.inl rfl))) g hg
 ·exact OwAttrs.typ h4 g hg
theorem OwPlsM.typ {w:Xk} {v:Xl} {l:List PlV} {F:Xh} (h:OwPlsM w v l F):∀q∈F,CellT w q:=zgC h (.inl rfl) (fun _ _ _ hr=>hr.typ)
theorem CellT.notMap {w:Xk} {q:Nat} (h:CellT w q) {es:Array MapEntry} {c:Nat}:w.heap[q]?≠some (.map es c):=by
 obtain⟨cs,T,fz,e,_⟩:=h
 rw [e]
 intro h
 cases h
theorem CellT.notL {w:Xk} {q:Nat} (h:CellT w q) {cs:Array Xl} {T:Xm} (hT:T≠146∧T≠3∧T≠5∧T≠132):¬ Loc w q cs T:=by
 obtain⟨Aa,T',Ba,e,h⟩:=h
 unfold Loc
 rw [e]
 intro h'
 injection h' with h'
 injection h' with _ h' _
 subst h'
 rcases h with h | h | h | h
 ·exact hT.1 h
 ·exact hT.2.1 h
 ·exact hT.2.2.1 h
 ·exact hT.2.2.2 h
def Cells (w:Xk) (q:Nat):Prop:=∃cs T fz,w.heap[q]? = some (.cells cs T fz)
theorem Cells.ofL {w:Xk} {q:Nat} {cs:Array Xl} {T:Xm} (h:Loc w q cs T):Cells w q:=⟨cs,T,_,h⟩
theorem CellT.cells {w:Xk} {q:Nat} (h:CellT w q):Cells w q:=by
 obtain⟨cs,T,fz,e,_⟩:=h
 exact⟨cs,T,fz,e⟩
theorem FSet.lt {B:Nat} {o p:Xl} {w:Xk} {g:Nat} (h:FSet B o p w g):g<w.heap.size:=by
 rcases h with h | ⟨m,_,h,_⟩
 ·exact h.lt
 ·exact h.lt
theorem zqn:∃es c,zaR=.map es c:=⟨_,_,rfl⟩
theorem FSet.frm {B:Nat} {o p:Xl} {w w':Xk} {g:Nat} {S:Xh} (h:FSet B o p w g) (f:Frm w w' S) (hg:g∉S) (hS:∀q∈S,q<B∨Cells w q):FSet B o p w' g:=by
 rcases h with h | ⟨m,hm,h,hv⟩
 ·exact .inl (h.frm f hg)
 ·have Aa:m<w.heap.size:=by
   by_cases e:m<w.heap.size
   ·exact e
   ·rw [Array.getElem?_eq_none (by omega)]at hv;cases hv
  refine .inr ⟨m,hm,h.frm f hg,(f.block m Aa (fun e=> ?_)).trans hv⟩
  rcases hS m e with e' | ⟨cs,T,fz,e'⟩
  ·omega
  ·obtain⟨es,c,ev⟩:=zqn
   rw [hv,ev]at e'
   cases e'
theorem FSet.loc {B:Nat} {o p:Xl} {w:Xk} {g:Nat} (h:FSet B o p w g):∃cs,Loc w g cs 141∧cs[0]? = some o∧cs[1]? = some p:=by
 rcases h with h | ⟨m,_,h,_⟩
 ·exact⟨_,h,rfl,rfl⟩
 ·exact⟨_,h,rfl,rfl⟩
structure FoS (B:Nat) (w:Xk) (g mb:Nat) (a:Xi) (c:Nat) (l:List PlV) (F:Xh):Prop where
 set:FSet (mb+1) (.slice a l.length c) (.map (some mb)) w g
 map:AtM w mb l
 row:OwPlsM w (.slice a l.length c) l F
 nd:F.Nodup
 ge:∀q∈F,B<=q
 geg:B<=g
 gem:B<=mb
 ids:∀p∈l,okI p.id∧okI p.par
 len:l.length<=100000
theorem FoS.gF {B:Nat} {w:Xk} {g mb:Nat} {a:Xi} {c:Nat} {l:List PlV} {F:Xh} (h:FoS B w g mb a c l F):g∉F:=fun hg=>by
 obtain⟨cs,hl,_⟩:=h.set.loc
 exact (OwPlsM.typ h.row g hg).notL (by decide) hl
theorem FoS.mF {B:Nat} {w:Xk} {g mb:Nat} {a:Xi} {c:Nat} {l:List PlV} {F:Xh} (h:FoS B w g mb a c l F):mb∉F:=fun hg=>by
 obtain⟨es,k,e⟩:=h.map.isMap
 exact (OwPlsM.typ h.row mb hg).notMap e
theorem FoS.gm {B:Nat} {w:Xk} {g mb:Nat} {a:Xi} {c:Nat} {l:List PlV} {F:Xh} (h:FoS B w g mb a c l F):g≠mb:=fun e=>by
 obtain⟨es,k,e'⟩:=h.map.isMap
 obtain⟨cs,hl,_⟩:=h.set.loc
 unfold Loc at hl
 rw [e,e']at hl
 cases hl
theorem FoS.frm {B:Nat} {w w':Xk} {g mb:Nat} {a:Xi} {c:Nat} {l:List PlV} {F S:Xh} (h:FoS B w g mb a c l F) (f:Frm w w' S) (hg:g∉S) (hm:mb∉S) (hF:∀q∈F,q∉S) (hS:∀q∈S,Cells w q):FoS B w' g mb a c l F:=
 ⟨h.set.frm f hg (fun q hq=>.inr (hS q hq)),h.map.frm f hm,h.row.frm f hF,h.nd,h.ge,h.geg,h.gem,h.ids,h.len⟩
theorem FoS.keep {B:Nat} {w w':Xk} {g mb:Nat} {a:Xi} {c:Nat} {l:List PlV} {F:Xh} (h:FoS B w g mb a c l F) (hb:Below w.heap.size w w'):FoS B w' g mb a c l F:=h.frm (Frm.ofBelow hb []) (by simp) (by simp) (fun _ _=>by simp) (fun q hq=>by cases hq)
def FoT (B:Nat) (w:Xk) (g mb:Nat) (l':List PlV) (F:Xh) (w':Xk):Prop:=∃a' c' F',FoS B w' g mb a' c' l' F'∧Frm w w' (g::mb::F)∧∀q∈F',q∈F∨w.heap.size<=q
end Go.Proofs.YtgjolijncmkkhaaGreatDoor
namespace Go.Proofs.YtgjolijncmkkhaaGreatDoor
open Go.RowKit
set_option linter.unusedVariables false
set_option maxRecDepth 100000
def SeedIds (l:List PlV):Prop:=∀p∈l,p.idN=0∧0<=p.idR∧p.idR<(l.length:Int)
theorem SeedIds.new {l:List PlV} (h:SeedIds l):posP l (0,(l.length:Int))=none:=posP_none.2 (fun p hp e=>by
 have:=(h p hp).2.2
 have e2:p.idR=(l.length:Int):=(Prod.mk.inj e).2
 omega)
theorem SeedIds.snoc {l:List PlV} (h:SeedIds l) {p:PlV} (h0:p.idN=0) (h1:p.idR=(l.length:Int)):SeedIds (l++[p]):=fun q hq=>by
 rw [List.length_append,List.length_singleton]
 rcases List.mem_append.1 hq with hq | hq
 ·have:=h q hq
  exact⟨this.1,this.2.1,by omega⟩
 ·have e:q=p:=by simpa using hq
  rw [e]
  exact⟨h0,by omega,by omega⟩
theorem zkE {α β:Type} (I:β->Prop) (f:β->α->β) (hf:∀a x,I a->I (f a x)):∀(l:List α) (a:β),I a->I (l.foldl f a)
 | [],a,h=>h
 | x::r,a,h=>zkE I f hf r (f a x) (hf a x h)
theorem SeedIds.K:∀(n:Nat) (i:IdV) (ks:List (Tr n)) (acc:List PlV),SeedIds acc->SeedIds (zau n i ks acc)
 | 0,_,_,_,h=>h
 | n+1,i,ks,acc,h=>zkE SeedIds (zaV n i) (fun a x ha=>SeedIds.K n (0,(a.length:Int)) x.1.kids (a++[zaB a.length i x.1 x.2]) (ha.snoc rfl rfl)) (List.zipIdx (α:=Nd (Tr n)) ks) acc h
theorem SeedIds.J (n:Nat) (i:IdV) (ks:List (Nd (Tr n))) (acc:List PlV) (j:Nat) (h:SeedIds acc):SeedIds (zaq n i ks acc j):=zkE SeedIds (zaV n i) (fun a x ha=>SeedIds.K n (0,(a.length:Int)) x.1.kids (a++[zaB a.length i x.1 x.2]) (ha.snoc rfl rfl)) _ acc h
theorem zsm {n:Nat} {t:Tr (n+1)} {k:Tr n} (h:k∈t.kids):szT n k<=szT (n+1) t:=by
 show szT n k<=t.name.length+t.text.length+szA t.attrs+(t.kids.length+(t.kids.map (szT n)).sum)
 have:szT n k<=(t.kids.map (szT n)).sum:=by
  have hs:∀(l:List (Tr n)),k∈l->szT n k<=(l.map (szT n)).sum:=fun l=>by
   induction l with
   | nil=>intro h;cases h
   | cons y r ih=>
    intro h
    rw [List.map_cons,List.sum_cons]
    rcases List.mem_cons.1 h with rfl | h
    ·omega
    ·have:=ih h;omega
  exact hs _ h
 omega
theorem zew {m:Nat} (h:m<=100000):okI (0,(m:Int)):=⟨WalkArith.wf_i64 (by omega),WalkArith.wf_i64 (by omega)⟩
end Go.Proofs.YtgjolijncmkkhaaGreatDoor
