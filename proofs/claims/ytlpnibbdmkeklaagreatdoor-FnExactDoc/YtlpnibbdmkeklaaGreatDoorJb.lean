/- Own texts joined: NodeS, KlM, FoM, StrK, CmpI, SrA, FoN, FoK, OnceI, OnceJ, HasI, OnceF, SzB, SzO, EqI, EqO, Eq, EqZ, EqJ, EqP, ToZ. -/
import Derived.Test.YtlpnibbdmkeklaaGreatDoorJa
import Derived.Lib.BytesEntry
import Derived.Lib.Bytealg
import Derived.Laws.Externs
import Derived.Test.YtlpnibbdmkeklaaGreatDoorChecked
import Derived.Maps.OwnSet
import Derived.DeepKeys4
import Derived.WideMake
import Derived.Defers
import Derived.Laws.LoneSync
import Derived.Laws.Pointers
import Derived.RegionTactic
import Derived.RegionCalls
import Derived.Deep.QuietTactic
import Derived.BigQuiet
namespace Go.Proofs.YtlpnibbdmkeklaaGreatDoor
open Go.RowKit
set_option linter.unusedVariables false
def okK {α:Type} (f:α→Int→Bool×Int):List α→Int→Bool×Int
 | [],left=>(true,left)
 | x::r,left=>if (f x left).1=true then okK f r (f x left).2 else (false,(f x left).2)
def zar (l:List Int):Bool:=decide (l=[98,114]) || decide (l=[104,114])
theorem zaT (l:List Int):zar l=true↔Void l:=by unfold zar Void;rw [Bool.or_eq_true,decide_eq_true_eq,decide_eq_true_eq]
def zmP (l:List (List Int×List Int)) (i:Nat):Bool:=zbA (l.getD i ([],[])).1 && zbo (l.getD i ([],[])).2 && (decide (i=0) || zdP (l.getD (i-1) ([],[])).1 (l.getD i ([],[])).1)
theorem zjb (l:List (List Int×List Int)) (i:Nat):zmP l i=true↔zbY l i:=by
 unfold zmP zbY
 rw [Bool.and_eq_true,Bool.and_eq_true,zbv,zbB,Bool.or_eq_true,decide_eq_true_eq,and_assoc]
 constructor
 ·rintro⟨h1,h2,h3⟩
  exact⟨h1,h2,fun h=>h3.resolve_left (by omega)⟩
 ·rintro⟨h1,h2,h3⟩
  refine⟨h1,h2,?_⟩
  by_cases h:i=0
  ·exact .inl h
  ·exact .inr (h3 (by omega))
def zhG (l:List (List Int×List Int)):Bool:=decide (l.length≤4) && (List.range l.length).all (zmP l)
theorem zmF (l:List (List Int×List Int)):zhG l=true↔zal l:=by
 unfold zhG zal
 rw [Bool.and_eq_true,decide_eq_true_eq,List.all_eq_true]
 constructor
 ·rintro⟨h1,h2⟩;exact⟨h1,fun i hi=>(zjb l i).1 (h2 i (List.mem_range.2 hi))⟩
 ·rintro⟨h1,h2⟩;exact⟨h1,fun i hi=>(zjb l i).2 (h2 i (List.mem_range.1 hi))⟩
def zkB {α:Type} (t:Nd α):Prop:=t.name.length=0∧t.attrs.length=0∧t.kids.length=0∧zat t.text
def zbd {α:Type} (t:Nd α):Bool:=decide (t.name.length=0) && decide (t.attrs.length=0) && decide (t.kids.length=0) && zbo t.text
theorem zaZ {α:Type} (t:Nd α):zbd t=true↔zkB t:=by
 unfold zbd zkB
 rw [Bool.and_eq_true,Bool.and_eq_true,Bool.and_eq_true,zbB,decide_eq_true_eq,decide_eq_true_eq,decide_eq_true_eq,and_assoc,and_assoc]
def zfI {α:Type} (t:Nd α):Prop:=t.kind=0∧zai t.name∧t.text.length=0∧zal t.attrs∧¬ (Void t.name∧0<t.kids.length)
def zaP {α:Type} (t:Nd α):Bool:=decide (t.kind=0) && zbA t.name && decide (t.text.length=0) && zhG t.attrs && !(zar t.name && decide (0<t.kids.length))
theorem zbe {α:Type} (t:Nd α):zaP t=true↔zfI t:=by
 unfold zaP zfI
 rw [Bool.and_eq_true,Bool.and_eq_true,Bool.and_eq_true,Bool.and_eq_true,zbv,zmF,decide_eq_true_eq,decide_eq_true_eq,Bool.not_eq_true',←Bool.not_eq_true,Bool.and_eq_true,zaT,decide_eq_true_eq,and_assoc,and_assoc,and_assoc]
def okT:(n:Nat)→Int→Tr n→Int→Bool×Int
 | 0=>fun _ t _=>t.elim
 | n+1=>fun deep t left=>if left-1<0∨20<deep then (false,left-1) else if t.kind=1 then (zbd t,left-1) else if zaP t=true then okK (okT n (deep+1)) t.kids (left-1) else (false,left-1)
theorem zbj (n:Nat) (deep:Int) (t:Tr (n+1)) (left:Int):okT (n+1) deep t left=if left-1<0∨20<deep then (false,left-1) else if t.kind=1 then (zbd t,left-1) else if zaP t=true then okK (okT n (deep+1)) t.kids (left-1) else (false,left-1):=rfl
theorem zqp {α:Type} {f:α→Int→Bool×Int} {l:List α} {k:Nat} {left:Int} (h:k<l.length):okK f (l.drop k) left=if (f l[k] left).1=true then okK f (l.drop (k+1)) (f l[k] left).2 else (false,(f l[k] left).2):=by
 rw [List.drop_eq_getElem_cons h];rfl
theorem zpc {α:Type} {f:α→Int→Bool×Int} (hf:∀x left,0≤left→-1≤(f x left).2∧(f x left).2≤left∧((f x left).1=true→0≤(f x left).2)) (l:List α) (left:Int) (h0:0≤left) : -1≤(okK f l left).2∧(okK f l left).2≤left∧((okK f l left).1=true→0≤(okK f l left).2):=by
 induction l generalizing left with
 | nil=>exact⟨by simp [okK];omega,by simp [okK],fun _=>by simpa [okK]using h0⟩
 | cons x r ih=>
  have h:=hf x left h0
  rw [okK]
  by_cases hb:(f x left).1=true
  ·rw [if_pos hb]
   have:=ih (f x left).2 (h.2.2 hb)
   exact⟨this.1,by omega,this.2.2⟩
  ·rw [if_neg hb]
   exact⟨h.1,h.2.1,fun e=>by cases e⟩
theorem zdA (n:Nat) (deep:Int) (t:Tr n) (left:Int) (h0:0≤left) : -1≤(okT n deep t left).2∧(okT n deep t left).2≤left∧((okT n deep t left).1=true→0≤(okT n deep t left).2):=by
 induction n generalizing deep left with
 | zero=>exact t.elim
 | succ n ih=>
  unfold okT
  by_cases h1:left-1<0∨20<deep
  ·rw [if_pos h1];exact⟨by simp;omega,by simp;omega,fun e=>by cases e⟩
  ·rw [if_neg h1]
   by_cases h2:t.kind=1
   ·rw [if_pos h2];exact⟨by simp;omega,by simp;omega,fun _=>by simp;omega⟩
   ·rw [if_neg h2]
    by_cases h3:zaP t=true
    ·rw [if_pos h3]
     have:=zpc (f:=okT n (deep+1)) (fun x l hl=>ih (deep+1) x l hl) t.kids (left-1) (by omega)
     exact⟨this.1,by omega,this.2.2⟩
    ·rw [if_neg h3];exact⟨by simp;omega,by simp;omega,fun e=>by cases e⟩
theorem zdw (w:World) (v:Value) (l:List Int) (h:Byt w v l) (hn:Void l):Calls Tryz.prog 36 #[v] w fun e w'=>e=.returned (.bool true)∧w'=w:=by
 refine (ziQ w v l h).mono ?_
 rintro e w' ⟨rfl,h⟩
 exact⟨by simp [hn],h⟩
theorem zeQ (w:World) (v:Value) (l:List Int) (h:Byt w v l) (hn:¬ Void l):Calls Tryz.prog 36 #[v] w fun e w'=>e=.returned (.bool false)∧w'=w:=by
 refine (ziQ w v l h).mono ?_
 rintro e w' ⟨rfl,h⟩
 exact⟨by simp [hn],h⟩
theorem zfr (w:World) (v:Value) (l:List (List Int×List Int)) (h:RdAttrs w v l) (hn:zal l):Calls Tryz.prog 104 #[v] w fun e w'=>e=.returned (.bool true)∧Below w.heap.size w w':=by
 refine (zhw w v l h).mono ?_
 rintro e w' ⟨rfl,h⟩
 exact⟨by simp [hn],h⟩
theorem zog (w:World) (v:Value) (l:List (List Int×List Int)) (h:RdAttrs w v l) (hn:¬ zal l):Calls Tryz.prog 104 #[v] w fun e w'=>e=.returned (.bool false)∧Below w.heap.size w w':=by
 refine (zhw w v l h).mono ?_
 rintro e w' ⟨rfl,h⟩
 exact⟨by simp [hn],h⟩
def zfl (n:Nat):Prop:=∀(w0 w:World) (a b c d e:Value) (t:Tr n) (deep left:Int) (g:Nat),RdNode n w0 [a,b,c,d,e] t→Below w0.heap.size w0 w→w0.heap.size≤g→Loc w g #[.int .i64 left] 3→0≤left→left≤1000000→0≤deep→deep≤1000→
  Calls Tryz.prog 73 #[.agg #[a,b,c,d,e],.int .i64 deep,.pointer (some ⟨g,0,none⟩)] w fun e w'=>e=.returned (.bool (okT n deep t left).1)∧Loc w' g #[.int .i64 (okT n deep t left).2] 3∧Frm w w' [g]
theorem zry (w:World) (g:Nat) (left x:Int) (A:Array Value) (T:TypeId) (h:Loc w g #[.int .i64 left] 3):Loc ((w.setCell ⟨g,0,none⟩ (.int .i64 x)).alloc (.cells A T)) g #[.int .i64 x] 3∧Loc ((w.setCell ⟨g,0,none⟩ (.int .i64 x)).alloc (.cells A T)) w.heap.size A T∧Frm w ((w.setCell ⟨g,0,none⟩ (.int .i64 x)).alloc (.cells A T)) [g]:=by
 refine⟨(h.set 0 _).alloc _,?_,(zab _ _ _ _).trans (Frm.ofBelow ((Below.refl _ _).alloc (Nat.le_refl _) _) [g])⟩
 have:=Loc.made (w.setCell ⟨g,0,none⟩ (.int .i64 x)) A T
 simpa using this
set_option maxHeartbeats 3200000 in
theorem zlf (n:Nat) (H:zfl n):zfl (n+1):=by
 intro w0 w a b c d e t deep left g hr hB hg hl h0 h1 hd0 hd1
 have hr':=hr
 obtain⟨_,_,_,_,e0,k1,k2,hb,hc,hd,he⟩:=hr
 simp only [List.cons.injEq,and_true]at e0
 obtain⟨rfl,rfl,rfl,rfl,rfl⟩:=e0
 obtain⟨ab,cb,rfl,_,_⟩:=hb.shape
 obtain⟨ac,cc,rfl,_,_⟩:=hc.shape
 obtain⟨ad,cd,rfl,_,_⟩:=Elems.shape hd
 obtain⟨ae,ce,rfl,_,_⟩:=Elems.shape he
 obtain⟨lg,lb,hf⟩:=zry w g left (left-1) #[.int .i64 t.kind,.slice ab t.name.length cb,.slice ac t.text.length cc,.slice ad t.attrs.length cd,.slice ae t.kids.length ce] 37 hl
 have hgl:=hl.lt
 have hgc:=hl.cell 0
 have hgf:=hl.frozen 0
 simp at hgc
 have hne:w.heap.size≠g:=by omega
 by_cases hA:left-1<0
 ·have HE:=hide (show okT (n+1) deep t left=(false,left-1) by unfold okT;rw [if_pos (.inl hA)])
  have HP:=hide (And.intro lg hf)
  clear lg lb hf hl
  go_enter Tryz.func73,Tryz.ntmps73
  go_wp2_with fail
  go_ret
  exact⟨by rw [zaa HE];rfl,by rw [zaa HE];exact (zaa HP).1,(zaa HP).2⟩
 have hA':decide (left-1<0)=false:=by simpa using hA
 by_cases hD:20<deep
 ·have HE:=hide (show okT (n+1) deep t left=(false,left-1) by unfold okT;rw [if_pos (.inr hD)])
  have HP:=hide (And.intro lg hf)
  clear lg lb hf hl
  go_enter Tryz.func73,Tryz.ntmps73
  go_wp2_with fail
  go_ret
  exact⟨by rw [zaa HE];rfl,by rw [zaa HE];exact (zaa HP).1,(zaa HP).2⟩
 have hD':¬ 20<deep:=hD
 have hBW:=hB.trans (hf.below hB.size (fun q hq=>by simp at hq;omega))
 by_cases hK:t.kind=1
 ·have hEq:okT (n+1) deep t left=(zbd t,left-1):=by unfold okT;rw [if_neg (by omega),if_pos hK]
  have dk:(t.kind == 1)=true:=by simp [hK]
  have HP:=hide (And.intro lg hf)
  have HBW:=hide hBW
  clear lg lb hf hl hBW
  by_cases q1:t.name.length=0
  ·have d1:((t.name.length:Int) == 0)=true:=beq_iff_eq.2 (by omega)
   by_cases q2:t.attrs.length=0
   ·have d2:((t.attrs.length:Int) == 0)=true:=beq_iff_eq.2 (by omega)
    by_cases q3:t.kids.length=0
    ·have d3:((t.kids.length:Int) == 0)=true:=beq_iff_eq.2 (by omega)
     by_cases q4:zat t.text
     ·have HE:=hide (hEq.trans (by rw [(zaZ t).2 ⟨q1,q2,q3,q4⟩]:(zbd t,left-1)=(true,left-1)))
      have HQ:=hide q4
      clear hEq q1 q2 q3 q4 hK
      go_enter Tryz.func73,Tryz.ntmps73
      go_wp2_with fail
      refine (zdy _ _ t.text (hc.keep (zaa HBW)) (zaa HQ)).mono ?_
      rintro e w1 ⟨rfl,rfl⟩
      go_wp2_with fail
      go_ret
      exact⟨by rw [zaa HE];rfl,by rw [zaa HE];exact (zaa HP).1,(zaa HP).2⟩
     ·have HE:=hide (hEq.trans (by rw [Bool.eq_false_iff.2 (fun h=>q4 ((zaZ t).1 h).2.2.2)]:(zbd t,left-1)=(false,left-1)))
      have HQ:=hide q4
      clear hEq q1 q2 q3 q4 hK
      go_enter Tryz.func73,Tryz.ntmps73
      go_wp2_with fail
      refine (zhg _ _ t.text (hc.keep (zaa HBW)) (zaa HQ)).mono ?_
      rintro e w1 ⟨rfl,rfl⟩
      go_wp2_with fail
      go_ret
      exact⟨by rw [zaa HE];rfl,by rw [zaa HE];exact (zaa HP).1,(zaa HP).2⟩
    ·have d3:((t.kids.length:Int) == 0)=false:=beq_eq_false_iff_ne.2 (by omega)
     have HE:=hide (hEq.trans (by rw [Bool.eq_false_iff.2 (fun h=>q3 ((zaZ t).1 h).2.2.1)]:(zbd t,left-1)=(false,left-1)))
     clear hEq q1 q2 q3 hK
     go_enter Tryz.func73,Tryz.ntmps73
     go_wp2_with fail
     go_ret
     exact⟨by rw [zaa HE];rfl,by rw [zaa HE];exact (zaa HP).1,(zaa HP).2⟩
   ·have d2:((t.attrs.length:Int) == 0)=false:=beq_eq_false_iff_ne.2 (by omega)
    have HE:=hide (hEq.trans (by rw [Bool.eq_false_iff.2 (fun h=>q2 ((zaZ t).1 h).2.1)]:(zbd t,left-1)=(false,left-1)))
    clear hEq q1 q2 hK
    go_enter Tryz.func73,Tryz.ntmps73
    go_wp2_with fail
    go_ret
    exact⟨by rw [zaa HE];rfl,by rw [zaa HE];exact (zaa HP).1,(zaa HP).2⟩
  ·have d1:((t.name.length:Int) == 0)=false:=beq_eq_false_iff_ne.2 (by omega)
   have HE:=hide (hEq.trans (by rw [Bool.eq_false_iff.2 (fun h=>q1 ((zaZ t).1 h).1)]:(zbd t,left-1)=(false,left-1)))
   clear hEq q1 hK
   go_enter Tryz.func73,Tryz.ntmps73
   go_wp2_with fail
   go_ret
   exact⟨by rw [zaa HE];rfl,by rw [zaa HE];exact (zaa HP).1,(zaa HP).2⟩
 have dk:(t.kind == 1)=false:=by simpa using hK
 have hbad:¬ zfI t→okT (n+1) deep t left=(false,left-1):=fun h=>by unfold okT;rw [if_neg (by omega),if_neg hK,if_neg (fun e=>h ((zbe t).1 e))]
 have hgood:zfI t→okT (n+1) deep t left=okK (okT n (deep+1)) t.kids (left-1):=fun h=>by rw [zbj,if_neg (by omega),if_neg hK,if_pos ((zbe t).2 h)]
 have HP:=hide (And.intro lg (And.intro lb hf))
 have HBW:=hide hBW
 clear lg lb hf hl hBW hK
 by_cases z0:t.kind=0
 ·have dz:(t.kind != 0)=false:=by simp [z0]
  by_cases z1:zai t.name
  ·by_cases z2:t.text.length=0
   ·by_cases z3:zal t.attrs
    ·have H1:=hide z1
     have H3:=hide z3
     by_cases z4:Void t.name
     ·have H4:=hide z4
      by_cases z5:0<t.kids.length
      ·have HE:=hide (hbad (fun h=>h.2.2.2.2 ⟨z4,z5⟩))
       clear hbad hgood z0 z1 z3 z4 hc hr' he
       generalize t.text.length=nT at *
       generalize t.kids.length=nK at *
       subst z2
       have hkd:decide (0<nK)=true:=by simp;omega
       go_enter Tryz.func73,Tryz.ntmps73
       go_wp2_with fail
       refine (zbE _ _ t.name (hb.keep (zaa HBW)) (zaa H1)).mono ?_
       rintro e w1 ⟨rfl,rfl⟩
       go_wp2_with fail
       refine (zfr _ _ t.attrs (hd.keep (zaa HBW)) (zaa H3)).mono ?_
       rintro e w1 ⟨rfl,hB1⟩
       have lb:=(zaa HP).2.1.all hB1
       have u1:=lb.cell 1
       have u4:=lb.cell 4
       simp at u1 u4
       have hBW1:=(zaa HBW).trans (hB1.mono (zaa HBW).size)
       have HQ:=hide (And.intro ((zaa HP).1.all hB1) ((zaa HP).2.2.trans (Frm.ofBelow hB1 [g])))
       clear lb hB1
       go_wp2_with fail
       refine (zdw _ _ t.name (hb.keep hBW1) (zaa H4)).mono ?_
       rintro e w2 ⟨rfl,rfl⟩
       go_wp2_with fail
       go_ret
       exact⟨by rw [zaa HE];rfl,by rw [zaa HE];exact (zaa HQ).1,(zaa HQ).2⟩
      ·have HE:=hide (hgood ⟨z0,z1,z2,z3,fun h=>z5 h.2⟩)
       have hk0:t.kids.length=0:=by omega
       have hke:t.kids=[]:=List.eq_nil_of_length_eq_zero hk0
       have HK:=hide (show okK (okT n (deep+1)) t.kids (left-1)=(true,left-1) by rw [hke];rfl)
       clear he z5 hke
       generalize t.kids.length=nK at *
       subst hk0
       clear hbad hgood z0 z1 z3 z4 hc hr'
       generalize t.text.length=nT at *
       subst z2
       go_enter Tryz.func73,Tryz.ntmps73
       go_wp2_with fail
       refine (zbE _ _ t.name (hb.keep (zaa HBW)) (zaa H1)).mono ?_
       rintro e w1 ⟨rfl,rfl⟩
       go_wp2_with fail
       refine (zfr _ _ t.attrs (hd.keep (zaa HBW)) (zaa H3)).mono ?_
       rintro e w1 ⟨rfl,hB1⟩
       have lb:=(zaa HP).2.1.all hB1
       have u1:=lb.cell 1
       have u4:=lb.cell 4
       simp at u1 u4
       have hBW1:=(zaa HBW).trans (hB1.mono (zaa HBW).size)
       have HQ:=hide (And.intro ((zaa HP).1.all hB1) (And.intro lb ((zaa HP).2.2.trans (Frm.ofBelow hB1 [g]))))
       clear lb hB1
       go_wp2_with fail
       refine (zdw _ _ t.name (hb.keep hBW1) (zaa H4)).mono ?_
       rintro e w2 ⟨rfl,rfl⟩
       go_wp2_with fail
       refine wp_loop_rounds 1 ?_
       rw [rounds_succ]
       go_wp2_with fail
       go_ret
       exact⟨by rw [zaa HE,zaa HK];rfl,by rw [zaa HE,zaa HK];exact (zaa HQ).1,(zaa HQ).2.2⟩
     ·have H4:=hide z4
      have HE:=hide (hgood ⟨z0,z1,z2,z3,fun h=>z4 h.1⟩)
      clear hbad hgood z0 z1 z3 z4 hc hr'
      generalize t.text.length=nT at *
      subst z2
      go_enter Tryz.func73,Tryz.ntmps73
      go_wp2_with fail
      refine (zbE _ _ t.name (hb.keep (zaa HBW)) (zaa H1)).mono ?_
      rintro e w1 ⟨rfl,rfl⟩
      go_wp2_with fail
      refine (zfr _ _ t.attrs (hd.keep (zaa HBW)) (zaa H3)).mono ?_
      rintro e w1 ⟨rfl,hB1⟩
      have lb:=(zaa HP).2.1.all hB1
      have u1:=lb.cell 1
      have u4:=lb.cell 4
      simp at u1 u4
      have hBW1:=(zaa HBW).trans (hB1.mono (zaa HBW).size)
      have HQ:=hide (And.intro ((zaa HP).1.all hB1) (And.intro lb ((zaa HP).2.2.trans (Frm.ofBelow hB1 [g]))))
      clear lb hB1
      go_wp2_with fail
      refine (zeQ _ _ t.name (hb.keep hBW1) (zaa H4)).mono ?_
      rintro e w2 ⟨rfl,rfl⟩
      go_wp2_with fail
      go_loopw [7] (fun i wr=>∃(k:Nat) (lk:Int),k≤t.kids.length∧i=.int .i64 k∧0≤lk∧lk≤1000000∧Loc wr g #[.int .i64 lk] 3∧Loc wr w.heap.size #[.int .i64 t.kind,.slice ab t.name.length cb,.slice ac 0 cc,.slice ad t.attrs.length cd,.slice ae t.kids.length ce] 37∧Frm w wr [g]∧Hid (okK (okT n (deep+1)) t.kids (left-1)=okK (okT n (deep+1)) (t.kids.drop k) lk)) (fun i _=>t.kids.length-(intOf i).toNat)
      case atStart=>exact⟨0,left-1,Nat.zero_le _,rfl,by omega,by omega,(zaa HQ).1,(zaa HQ).2.1,(zaa HQ).2.2,hide rfl⟩
      case round=>
       obtain⟨k,lk,hk,rfl,hl0,hl1,rg,rb,rf,HK⟩:=hrel
       have v4:=rb.cell 4
       simp at v4
       have hmk:=Elems.shape he
       have hBr:Below w0.heap.size w0 wr:=hB.trans (rf.below hB.size (fun q hq=>by simp at hq;omega))
       by_cases hlt:k<t.kids.length
       ·have hkm:=he.1
        obtain⟨_,⟨_,e⟩ | ⟨_,_,_,_,e⟩ | ⟨b,off,cap,e,g1,g2,g3,g4,g5⟩⟩:=he
        ·rw [e]at hlt;simp at hlt
        ·rw [e]at hlt;simp at hlt
        simp only [Value.slice.injEq,true_and]at e
        obtain⟨rfl,rfl⟩:=e
        obtain⟨c0,c1,c2,c3,c4,e0,e1,e2,e3,e4,hx⟩:=zeL (g5 k hlt)
        replace e0:=(hBr.cell (p:=⟨b,off+k*5,none⟩) g4).trans e0
        replace e1:=(hBr.cell (p:=⟨b,off+k*5+1,none⟩) g4).trans e1
        replace e2:=(hBr.cell (p:=⟨b,off+k*5+2,none⟩) g4).trans e2
        replace e3:=(hBr.cell (p:=⟨b,off+k*5+3,none⟩) g4).trans e3
        replace e4:=(hBr.cell (p:=⟨b,off+k*5+4,none⟩) g4).trans e4
        have hlt':(k:Int)<(t.kids.length:Int):=by omega
        have hob:=zdA n (deep+1) t.kids[k] lk hl0
        have hkd:=zqp (f:=okT n (deep+1)) (left:=lk) hlt
        have HR:=hide (And.intro rg (And.intro rb rf))
        have HKD:=hide hkd
        have HOB:=hide hob
        unfold maxLen at hkm
        clear g5 rg rb rf hkd hob HQ u1 u4
        go_wp2_with fail
        refine (H w0 wr c0 c1 c2 c3 c4 t.kids[k] (deep+1) lk g hx hBr hg (zaa HR).1 hl0 hl1 (by omega) (by omega)).mono ?_
        rintro e w3 ⟨rfl,hg3,hf3⟩
        have rb3:=(zaa HR).2.1.frm hf3 (by simp;omega)
        have rf3:=(zaa HR).2.2.trans hf3
        have HR3:=hide (And.intro hg3 (And.intro rb3 rf3))
        clear hg3 hf3 rb3 rf3 e0 e1 e2 e3 e4 hx v4 HR
        generalize okT n (deep+1) t.kids[k] lk=res at *
        obtain⟨rb,rl⟩:=res
        cases rb with
        | true=>
         have q1:0≤rl:=(zaa HOB).2.2 rfl
         have q2:rl≤lk:=(zaa HOB).2.1
         have HF:=hide ((zaa HK).trans ((zaa HKD).trans (if_pos rfl)))
         clear HOB HKD HK
         go_wp2_with fail
         go_roundw
         case rel=>exact⟨k+1,rl,by omega,by go_num,q1,by omega,(zaa HR3).1,(zaa HR3).2.1,(zaa HR3).2.2,HF⟩
         case measure=>simp [intOf];omega
        | false=>
         have HF:=hide ((zaa HK).trans ((zaa HKD).trans (if_neg (by simp))))
         go_wp2_with fail
         go_ret
         exact⟨by rw [zaa HE,zaa HF];rfl,by rw [zaa HE,zaa HF];exact (zaa HR3).1,(zaa HR3).2.2⟩
       ·have HF:=hide ((zaa HK).trans (show okK (okT n (deep+1)) (t.kids.drop k) lk=(true,lk) by rw [List.drop_of_length_le (by omega)];rfl))
        have hlt':¬ (k:Int)<(t.kids.length:Int):=by omega
        have HR:=hide (And.intro rg (And.intro rb rf))
        clear rg rb rf he HQ u1 u4 HK
        go_wp2_with fail
        go_ret
        exact⟨by rw [zaa HE,zaa HF];rfl,by rw [zaa HE,zaa HF];exact (zaa HR).1,(zaa HR).2.2⟩
    ·have HE:=hide (hbad (fun h=>z3 h.2.2.2.1))
     have H1:=hide z1
     have H3:=hide z3
     clear hbad hgood z0 z1 z3 hc hr'
     generalize t.text.length=nT at *
     subst z2
     go_enter Tryz.func73,Tryz.ntmps73
     go_wp2_with fail
     refine (zbE _ _ t.name (hb.keep (zaa HBW)) (zaa H1)).mono ?_
     rintro e w1 ⟨rfl,rfl⟩
     go_wp2_with fail
     refine (zog _ _ t.attrs (hd.keep (zaa HBW)) (zaa H3)).mono ?_
     rintro e w1 ⟨rfl,hB1⟩
     go_wp2_with fail
     go_ret
     exact⟨by rw [zaa HE];rfl,by rw [zaa HE];exact (zaa HP).1.all hB1,(zaa HP).2.2.trans (Frm.ofBelow hB1 [g])⟩
   ·have HE:=hide (hbad (fun h=>z2 h.2.2.1))
    have H1:=hide z1
    clear hbad hgood z0 z1 hc hr'
    generalize t.text.length=nT at *
    have hkp:0<nT:=by omega
    have hkd:decide (0<nT)=true:=by simp;omega
    clear z2
    go_enter Tryz.func73,Tryz.ntmps73
    go_wp2_with fail
    refine (zbE _ _ t.name (hb.keep (zaa HBW)) (zaa H1)).mono ?_
    rintro e w1 ⟨rfl,rfl⟩
    go_wp2_with fail
    go_ret
    exact⟨by rw [zaa HE];rfl,by rw [zaa HE];exact (zaa HP).1,(zaa HP).2.2⟩
  ·have HE:=hide (hbad (fun h=>z1 h.2.1))
   have H1:=hide z1
   clear hbad hgood z0 z1
   go_enter Tryz.func73,Tryz.ntmps73
   go_wp2_with fail
   refine (zhb _ _ t.name (hb.keep (zaa HBW)) (zaa H1)).mono ?_
   rintro e w1 ⟨rfl,rfl⟩
   go_wp2_with fail
   go_ret
   exact⟨by rw [zaa HE];rfl,by rw [zaa HE];exact (zaa HP).1,(zaa HP).2.2⟩
 ·have dz:(t.kind != 0)=true:=by simp [z0]
  have HE:=hide (hbad (fun h=>z0 h.1))
  clear hbad hgood z0
  go_enter Tryz.func73,Tryz.ntmps73
  go_wp2_with fail
  go_ret
  exact⟨by rw [zaa HE];rfl,by rw [zaa HE];exact (zaa HP).1,(zaa HP).2.2⟩
theorem zmW (n:Nat):zfl n:=by
 induction n with
 | zero=>exact fun _ _ _ _ _ _ _ t=>t.elim
 | succ n ih=>exact zlf n ih
def okN (n:Nat) (t:Tr (n+1)):Bool:=decide (t.kind=0) && (okT (n+1) 1 t 120).1
set_option maxHeartbeats 1600000 in
theorem zoz (n:Nat) (w:World) (a b c d e:Value) (t:Tr (n+1)) (h:RdNode (n+1) w [a,b,c,d,e] t) :
  Calls Tryz.prog 35 #[.agg #[a,b,c,d,e]] w fun e w'=>e=.returned (.bool (okN n t))∧Below w.heap.size w w':=by
 have h':=h
 obtain⟨_,_,_,_,e0,k1,k2,hb,hc,hd,he⟩:=h
 simp only [List.cons.injEq,and_true]at e0
 obtain⟨rfl,rfl,rfl,rfl,rfl⟩:=e0
 obtain⟨ab,cb,rfl,_,_⟩:=hb.shape
 obtain⟨ac,cc,rfl,_,_⟩:=hc.shape
 obtain⟨ad,cd,rfl,_,_⟩:=Elems.shape hd
 obtain⟨ae,ce,rfl,_,_⟩:=Elems.shape he
 have hA:Below w.heap.size w ((w.alloc (.cells #[.int .i64 t.kind,.slice ab t.name.length cb,.slice ac t.text.length cc,.slice ad t.attrs.length cd,.slice ae t.kids.length ce] 37)).alloc (.cells #[.int .i64 120] 3)):=((Below.refl _ _).alloc (Nat.le_refl _) _).alloc (by simp) _
 have lg:=Loc.made (w.alloc (.cells #[.int .i64 t.kind,.slice ab t.name.length cb,.slice ac t.text.length cc,.slice ad t.attrs.length cd,.slice ae t.kids.length ce] 37)) #[.int .i64 120] 3
 simp only [World.size_alloc]at lg
 by_cases hk:t.kind=0
 ·have dk:(t.kind == 0)=true:=by simp [hk]
  have HE:=hide (show okN n t=(okT (n+1) 1 t 120).1 by unfold okN;simp [hk])
  have HP:=hide (And.intro hA lg)
  clear hA lg hk
  go_enter Tryz.func35,Tryz.ntmps35
  go_wp2_with fail
  refine (zmW (n+1) w _ _ _ _ _ _ t 1 120 (w.heap.size+1) h' (zaa HP).1 (by omega) (zaa HP).2 (by omega) (by omega) (by omega) (by omega)).mono ?_
  rintro e w1 ⟨rfl,hg1,hf1⟩
  have HB:=hide ((zaa HP).1.trans (hf1.below (zaa HP).1.size (fun q hq=>by simp at hq;omega)))
  clear hg1 hf1
  go_wp2_with fail
  go_ret
  exact⟨by rw [zaa HE];rfl,zaa HB⟩
 ·have dk:(t.kind == 0)=false:=by simpa using hk
  have HE:=hide (show okN n t=false by unfold okN;simp [hk])
  have HP:=hide hA
  clear hA lg hk
  go_enter Tryz.func35,Tryz.ntmps35
  go_wp2_with fail
  go_ret
  exact⟨by rw [zaa HE];rfl,zaa HP⟩
end Go.Proofs.YtlpnibbdmkeklaaGreatDoor
namespace Go.Proofs.YtlpnibbdmkeklaaGreatDoor
set_option linter.unusedVariables false
def klB:List Int→List Int→Bool
 | [],[]=>false
 | [],_::_=>true
 | _::_,[]=>false
 | x::a,y::b=>if x=y then klB a b else decide (x<y)
theorem zml {a b:List Int} (h:a=[]∨b=[]):klB a b=decide (a.length<b.length):=by
 cases a<;>cases b<;>simp [klB]at *
theorem zcd {l:List Int} {k:Nat} (h:k<l.length):l.drop k=l.getD k 0::l.drop (k+1):=by
 rw [List.drop_eq_getElem_cons h,zcF h]
theorem zpR {a b:List Int} {k:Nat} (ha:k<a.length) (hb:k<b.length) (e:a.getD k 0=b.getD k 0):klB (a.drop k) (b.drop k)=klB (a.drop (k+1)) (b.drop (k+1)):=by
 rw [zcd ha,zcd hb,klB,if_pos e]
theorem zpf {a b:List Int} {k:Nat} (ha:k<a.length) (hb:k<b.length) (e:a.getD k 0≠b.getD k 0):klB (a.drop k) (b.drop k)=decide (a.getD k 0<b.getD k 0):=by
 rw [zcd ha,zcd hb,klB,if_neg e]
theorem zpX {a b:List Int} {k:Nat} (ha:k≤a.length) (hb:k≤b.length) (h:k=a.length∨k=b.length):klB (a.drop k) (b.drop k)=decide (a.length<b.length):=by
 rw [zml (by rcases h with rfl | rfl<;>simp)]
 simp only [List.length_drop]
 rw [Bool.eq_iff_iff]
 simp only [decide_eq_true_eq]
 omega
theorem zmj (a:List Int):klB a a=false:=by
 induction a with
 | nil=>rfl
 | cons x a ih=>rw [klB,if_pos rfl,ih]
theorem zkI (a b:List Int):(klB a b && klB b a)=false:=by
 induction a generalizing b with
 | nil=>cases b<;>rfl
 | cons x a ih=>
  cases b with
  | nil=>rfl
  | cons y b=>
   by_cases e:x=y
   ·rw [klB,if_pos e,klB,if_pos e.symm];exact ih b
   ·rw [klB,if_neg e,klB,if_neg (fun h=>e h.symm)]
    by_cases h:x<y
    ·have:¬ y<x:=by omega
     simp [this]
    ·simp [h]
theorem zec (a b:List Int):(klB a b || klB b a) = !decide (a=b):=by
 induction a generalizing b with
 | nil=>cases b<;>simp [klB]
 | cons x a ih=>
  cases b with
  | nil=>simp [klB]
  | cons y b=>
   by_cases e:x=y
   ·rw [klB,if_pos e,klB,if_pos e.symm,ih b];simp [e]
   ·rw [klB,if_neg e,klB,if_neg (fun h=>e h.symm)]
    have:x<y∨y<x:=by omega
    simp [e,this]
end Go.Proofs.YtlpnibbdmkeklaaGreatDoor
namespace Go.Proofs.YtlpnibbdmkeklaaGreatDoor
open Go.RowKit
set_option linter.unusedVariables false
abbrev IdV:=Int×Int
def PlV.id (p:PlV):IdV:=(p.idN,p.idR)
def PlV.par (p:PlV):IdV:=(p.parN,p.parR)
def OpV.at' (o:OpV):IdV:=(o.atN,o.atR)
def OpV.node (o:OpV):IdV:=(o.nodeN,o.nodeR)
def OpV.par (o:OpV):IdV:=(o.parN,o.parR)
def zak:IdV:=(0,0)
def zag:IdV:=(0,1)
def posP (l:List PlV) (i:IdV):Option Nat:=l.findIdx? (fun p=>decide (p.id=i))
theorem posP_some {l:List PlV} {i:IdV} {k:Nat}:posP l i=some k↔∃h:k<l.length,l[k].id=i∧∀j (hj:j<k),l[j].id≠i:=by
 unfold posP
 rw [List.findIdx?_eq_some_iff_getElem]
 simp
theorem posP_none {l:List PlV} {i:IdV}:posP l i=none↔∀p∈l,p.id≠i:=by
 unfold posP
 rw [List.findIdx?_eq_none_iff]
 simp
theorem zbm {l:List PlV} {i:IdV} {k:Nat} (h:posP l i=some k):∃p,l[k]? = some p∧p.id=i:=by
 obtain⟨h1,h2,_⟩:=posP_some.1 h
 exact⟨l[k],by simp [h1],h2⟩
theorem zbn {l:List PlV} (hu:(l.map PlV.id).Nodup) {k:Nat} {p:PlV} (hk:l[k]? = some p):posP l p.id=some k:=by
 obtain⟨hlt,rfl⟩:=List.getElem?_eq_some_iff.1 hk
 refine posP_some.2 ⟨hlt,rfl,fun j hj e=> ?_⟩
 have hj':j<l.length:=by omega
 have:=(List.pairwise_iff_getElem.1 hu) j k (by simpa using hj') (by simpa using hlt) hj
 simp at this
 exact this e
def zcJ (p:PlV):Bool:=decide (p.kind=0)
def zae (l:List PlV) (i:IdV):Bool:=match posP l i with
 | some k=>match l[k]? with
  | some p=>zcJ p && !zar p.name
  | none=>false
 | none=>false
def zay (l:List PlV):Nat→IdV→IdV→Bool
 | 0,_,_=>true
 | f+1,i,b=>if i=b then true else match posP l i with
  | none=>false
  | some k=>if k<2 then false else match l[k]? with
   | some p=>zay l f p.par b
   | none=>false
def zav (l:List PlV):Nat→IdV→IdV→Bool
 | 0,_,_=>false
 | f+1,i,b=>if i=b then true else if i=zak∨i=zag then false else match posP l i with
  | none=>false
  | some k=>match l[k]? with
   | some p=>zav l f p.par b
   | none=>false
def setA (n t:List Int):Bool→List (List Int×List Int)→List (List Int×List Int)
 | put,[]=>if put then [] else [(n,t)]
 | put,a::r=>(if !put && !klB a.1 n then [(n,t)] else [])++(if a.1=n then [] else [a])++setA n t (put || !klB a.1 n) r
def setAttrs (l:List (List Int×List Int)) (o:OpV):List (List Int×List Int):=if (setA o.name o.text o.gone l).length≤4 then setA o.name o.text o.gone l else l
def newP (o:OpV):PlV:=⟨o.atN,o.atR,o.parN,o.parR,o.key,o.elem,o.name,o.text,[]⟩
def zdp (o:OpV) (p:PlV):PlV:={ p with parN:=o.parN,parR:=o.parR,key:=o.key }
def zfn (o:OpV) (p:PlV):PlV:={ p with text:=o.text }
def zbp (o:OpV) (p:PlV):PlV:={ p with attrs:=setAttrs p.attrs o }
def zbX (l:List PlV) (o:OpV) (k:Nat):Bool:=decide (2≤k) && zae l o.par && !zay l (l.length+1) o.par o.node
def doV (l:List PlV) (o:OpV):List PlV:=
 if o.kind=0 then (if zae l o.par then l++[newP o] else l)
 else match posP l o.node with
  | none=>l
  | some k=>match l[k]? with
   | none=>l
   | some p=>
    if o.kind=1 then (if zbX l o k then l.set k (zdp o p) else l)
    else if o.kind=2 then (if 2≤k∧p.kind=1 then l.set k (zfn o p) else l)
    else (if k≠1∧p.kind=0 then l.set k (zbp o p) else l)
def zaz:(n:Nat)→IdV→List (Tr n)→List PlV→List PlV
 | 0,_,_,acc=>acc
 | n+1,i,ks,acc=>ks.zipIdx.foldl (fun (a:List PlV) (x:Nd (Tr n)×Nat)=>zaz n (0,(a.length:Int)) x.1.kids (a++[⟨0,a.length,i.1,i.2,[(x.2:Int)+1],x.1.kind,x.1.name,x.1.text,x.1.attrs⟩])) acc
def zhM:List Int:=[116,114,97,115,104]
def zaM:PlV:=⟨0,1,0,0,[],0,zhM,[],[]⟩
structure Fr (l:List PlV):Prop where
 two:2≤l.length
 root:∀p,l[0]? = some p→p.id=zak
 trash:∀p,l[1]? = some p→p.id=zag
 uniq:(l.map PlV.id).Nodup
 par:∀i p,2≤i→l[i]? = some p→∃j,posP l p.par=some j
 rank:∃rk:IdV→Nat,∀i p,2≤i→l[i]? = some p→rk p.par<rk p.id
theorem ziX {α:Type} (p q:α→Bool):∀(l:List α),(∀x∈l,p x=true→q x=true)→(∃x∈l,q x=true∧p x=false)→l.countP p<l.countP q
 | [],_,⟨x,hx,_⟩=>by cases hx
 | a::r,h,⟨x,hx,hq,hp⟩=>by
  have hle:r.countP p≤r.countP q:=List.countP_mono_left (fun y hy=>h y (List.mem_cons_of_mem _ hy))
  rw [List.countP_cons,List.countP_cons]
  rcases List.mem_cons.1 hx with rfl | hx
  ·simp only [hp,hq];simp;omega
  ·have:=ziX p q r (fun y hy=>h y (List.mem_cons_of_mem _ hy)) ⟨x,hx,hq,hp⟩
   have h1:=h a (List.mem_cons_self ..)
   by_cases e:p a=true
   ·rw [h1 e,e];simp;omega
   ·simp only [e];simp;omega
def cntR (l:List PlV) (rk:IdV→Nat) (r:Nat):Nat:=(l.drop 2).countP (fun p=>decide (rk p.id≤r))
theorem zoR {l:List PlV} {k:Nat} {p:PlV} (hk:2≤k) (h:l[k]? = some p):p∈l.drop 2:=by
 refine List.mem_of_getElem? (i:=k-2) ?_
 rw [List.getElem?_drop]
 rw [show 2+(k-2)=k by omega]
 exact h
theorem zmg {l:List PlV} {rk:IdV→Nat} (hr:∀i p,2≤i→l[i]? = some p→rk p.par<rk p.id) {k:Nat} {p:PlV} (hk:2≤k) (h:l[k]? = some p):cntR l rk (rk p.par)<cntR l rk (rk p.id):=by
 have:=hr k p hk h
 exact ziX _ _ _ (fun x _ hx=>by simp at hx ⊢;omega) ⟨p,zoR hk h,by simp,by simp;omega⟩
theorem zlC (l:List PlV) (rk:IdV→Nat) (r:Nat):cntR l rk r≤l.length-2:=by
 unfold cntR
 have:=List.countP_le_length (p:=fun p:PlV=>decide (rk p.id≤r)) (l:=l.drop 2)
 simpa using this
theorem Fr.low {l:List PlV} (h:Fr l) {i:IdV} {k:Nat} (hk:posP l i=some k):k<2↔i=zak∨i=zag:=by
 obtain⟨p,hp,rfl⟩:=zbm hk
 have h2:=h.two
 obtain⟨p0,h0⟩:∃p0,l[0]? = some p0:=⟨l[0],by simp [show 0<l.length by omega]⟩
 obtain⟨p1,h1⟩:∃p1,l[1]? = some p1:=⟨l[1],by simp [show 1<l.length by omega]⟩
 constructor
 ·intro hlt
  match k,hlt with
  | 0,_=>exact .inl (h.root p hp)
  | 1,_=>exact .inr (h.trash p hp)
 ·rintro (e | e)
  ·have:=zbn h.uniq h0
   rw [h.root p0 h0,←e,hk]at this
   cases this;decide
  ·have:=zbn h.uniq h1
   rw [h.trash p1 h1,←e,hk]at this
   cases this;decide
theorem zcU {l:List PlV} (h:Fr l) (b:IdV) {rk:IdV→Nat} (hr:∀i p,2≤i→l[i]? = some p→rk p.par<rk p.id):∀(f1 f2:Nat) (i:IdV) (k:Nat),posP l i=some k→cntR l rk (rk i)<f1→cntR l rk (rk i)<f2→zay l f1 i b=zav l f2 i b
 | 0,_,_,_,_,h1,_=>by omega
 | f1+1,0,_,_,_,_,h2=>by omega
 | f1+1,f2+1,i,k,hk,h1,h2=>by
  unfold zay zav
  by_cases e:i=b
  ·simp [e]
  ·simp only [e,if_false,hk]
   by_cases hlt:k<2
   ·have:=(h.low hk).1 hlt
    simp [hlt,this]
   ·have hn:¬ (i=zak∨i=zag):=fun e=>hlt ((h.low hk).2 e)
    obtain⟨p,hp,rfl⟩:=zbm hk
    simp only [hlt,hn,if_false,hp]
    obtain⟨j,hj⟩:=h.par k p (by omega) hp
    have:=zmg hr (by omega) hp
    exact zcU h b hr f1 f2 p.par j hj (by omega) (by omega)
theorem znq {l:List PlV} (h:Fr l) (b:IdV) {rk:IdV→Nat} (hr:∀i p,2≤i→l[i]? = some p→rk p.par<rk p.id) (f1 f2:Nat) (i:IdV) (k:Nat) (hk:posP l i=some k) (h1:cntR l rk (rk i)<f1) (h2:cntR l rk (rk i)<f2):zay l f1 i b=zay l f2 i b:=
 (zcU h b hr f1 f2 i k hk h1 h2).trans (zcU h b hr f2 f2 i k hk h2 h2).symm
theorem Fr.under {l:List PlV} (h:Fr l) (i b:IdV) (k:Nat) (hk:posP l i=some k):zay l (l.length+1) i b=zav l l.length i b:=by
 obtain⟨rk,hr⟩:=h.rank
 have h1:=zlC l rk (rk i)
 have h2:=h.two
 exact zcU h b hr _ _ i k hk (by omega) (by omega)
theorem zqG {x y:Int} (hx:0≤x∧x≤255) (hy:0≤y∧y≤255):(UInt8.ofNat x.toNat<UInt8.ofNat y.toNat)↔x<y:=by
 rw [UInt8.lt_iff_toNat_lt]
 simp only [UInt8.toNat_ofNat']
 omega
theorem zil:∀(a b:List Int),okB a→okB b→Op.bytesLess (a.map fun n=>UInt8.ofNat n.toNat) (b.map fun n=>UInt8.ofNat n.toNat)=klB a b
 | [],[],_,_=>rfl
 | [],_::_,_,_=>rfl
 | _::_,[],_,_=>rfl
 | x::a,y::b,ha,hb=>by
  have hx:=ha x (by simp)
  have hy:=hb y (by simp)
  have ih:=zil a b (fun z hz=>ha z (by simp [hz])) (fun z hz=>hb z (by simp [hz]))
  simp only [List.map_cons]
  unfold Op.bytesLess klB
  rw [ih]
  have h1:=zqG hx hy
  have h2:=zqG hy hx
  by_cases e:x=y
  ·subst e;simp
  ·have e2:¬ UInt8.ofNat x.toNat=UInt8.ofNat y.toNat:=fun h=>by
    have h3:¬ UInt8.ofNat x.toNat<UInt8.ofNat y.toNat:=by rw [h];exact UInt8.lt_irrefl _
    have h4:¬ UInt8.ofNat y.toNat<UInt8.ofNat x.toNat:=by rw [h];exact UInt8.lt_irrefl _
    rw [h1]at h3
    rw [h2]at h4
    omega
   by_cases hl:x<y
   ·simp [h1.2 hl,e,hl]
   ·have h5:¬ UInt8.ofNat x.toNat<UInt8.ofNat y.toNat:=fun h=>hl (h1.1 h)
    simp [h5,e,hl,e2]
theorem zfj {a b:List Int} (ha:okB a) (hb:okB b):Op.bytesLess (str a).toList (str b).toList=klB a b:=by
 rw [zbC,zbC,zci,zci]
 exact zil a b ha hb
set_option maxRecDepth 100000
theorem zfB (w:World) (u:Value) (a:List Int) (h:Byt w u a):(Extern.Bytes.bytesOf u).run Tryz.prog w=.ok ⟨(Lib.bytesOf a).toArray⟩ w:=by
 obtain⟨hoka,_,⟨rfl,rfl⟩ | ⟨x,cap,rfl,hc,rfl⟩ | ⟨p,off,cap,rfl,h1,h2,h3,h4,h5⟩⟩:=h
 ·rfl
 ·rfl
 ·have hl:=Lib.run_loadBytesX (P:=Tryz.prog) w a ⟨p,off,none⟩ .empty (fun j x hj=>by
   have hjl:j<a.length:=(List.getElem?_eq_some_iff.1 hj).1
   rw [zaX,h5 j hjl,List.getD_eq_getElem?_getD,hj];rfl)
  have he:(⟨ByteArray.empty.data++(Lib.bytesOf a).toArray⟩:ByteArray)=⟨(Lib.bytesOf a).toArray⟩:=by
   apply ByteArray.ext
   show (#[]:Array UInt8)++(Lib.bytesOf a).toArray=(Lib.bytesOf a).toArray
   simp
  rw [he]at hl
  exact hl
def cmpB (a b:List Int):Int:=Lib.compareBytes (Lib.bytesOf a) (Lib.bytesOf b)
theorem zra (w:World) (u v:Value) (a b:List Int) (hu:Byt w u a) (hv:Byt w v b):(callFunc 153 #[u,v]).run Tryz.prog w=.ok (.value (.int .i64 (cmpB a b))) w:=by
 rw [run_callFunc_extern Tryz.func153 (by kernel_rfl) (by kernel_rfl) (by kernel_rfl) (e:=Extern.BytealgCompare.compare) (by kernel_rfl)]
 have e:(Extern.BytealgCompare.compare #[u,v]).run Tryz.prog w=.ok (.int .i64 (cmpB a b)) w:=by
  change Sem.run Tryz.prog (do pure (goInt (Extern.BytealgCompare.cmp (←Extern.Bytes.bytesOf u) (←Extern.Bytes.bytesOf v)))) w=_
  simp only [Sem.run_bind,Sem.run_pure,zfB w u a hu,zfB w v b hv,Result.andThen]
  rw [Lib.cmp_eq]
  rfl
 rw [e]
 rfl
theorem zfK:∀(a b:List UInt8),Op.bytesLess a b=decide (Lib.compareBytes a b<0)
 | [],[]=>rfl
 | [],_::_=>rfl
 | _::_,[]=>rfl
 | x::a,y::b=>by
  have ih:=zfK a b
  unfold Op.bytesLess Lib.compareBytes
  by_cases h1:x<y
  ·simp [h1]
  ·by_cases h2:y<x
   ·have hne:¬ x=y:=fun e=>by subst e;exact h1 h2
    simp [h1,h2,hne]
   ·have he:x=y:=UInt8.le_antisymm (UInt8.not_lt.1 h2) (UInt8.not_lt.1 h1)
    subst he
    simp [h1,ih]
theorem ziD (a b:List Int):zdP a b=decide (cmpB a b<0):=by
 unfold zdP cmpB
 rw [zbC,zbC,zci,zci,zfK]
 rfl
theorem zkh (w:World) (u v:Value) (a b:List Int) (hu:Byt w u a) (hv:Byt w v b) :
  Calls Tryz.prog 143 #[u,v] w fun e w'=>e=.returned (.int .i64 (cmpB a b))∧w'=w:=by
 have hr:=zra w u v a b hu hv
 obtain⟨a1,k1,rfl,_⟩:=hu.shape
 obtain⟨a2,k2,rfl,_⟩:=hv.shape
 generalize cmpB a b=c at *
 go_enter Tryz.func143,Tryz.ntmps143
 go_wp2
 go_ret
 exact⟨rfl,rfl⟩
theorem zdB:∀{a b c:List Int},klB a b=true→klB b c=true→klB a c=true
 | [],_,[],h,k=>by
  rename_i b
  cases b with
  | nil=>cases h
  | cons y b=>cases k
 | [],_,_::_,_,_=>rfl
 | x::a,[],_,h,_=>by cases h
 | x::a,y::b,[],_,k=>by cases k
 | x::a,y::b,z::c,h,k=>by
  unfold klB at h k ⊢
  by_cases e1:x=y
  ·subst e1
   rw [if_pos rfl]at h
   by_cases e2:x=z
   ·rw [if_pos e2]at k ⊢
    exact zdB h k
   ·rw [if_neg e2]at k ⊢
    exact k
  ·rw [if_neg e1]at h
   have h':=of_decide_eq_true h
   by_cases e2:y=z
   ·subst e2
    rw [if_neg e1]
    exact h
   ·rw [if_neg e2]at k
    have k':=of_decide_eq_true k
    rw [if_neg (by omega)]
    exact decide_eq_true (by omega)
theorem zrR {a b:List Int} (ha:okB a) (hb:okB b):decide (cmpB a b<0)=klB a b:=by
 rw [←ziD]
 exact zfj ha hb
theorem zfL:∀(a b:List UInt8),Lib.compareBytes a b=0↔a=b
 | [],[]=>by simp [Lib.compareBytes]
 | [],_::_=>by simp [Lib.compareBytes]
 | _::_,[]=>by simp [Lib.compareBytes]
 | x::a,y::b=>by
  have ih:=zfL a b
  unfold Lib.compareBytes
  by_cases h1:x<y
  ·have hne:¬ x=y:=fun e=>by subst e;exact absurd h1 (UInt8.lt_irrefl _)
   simp [h1,hne]
  ·by_cases h2:y<x
   ·have hne:¬ x=y:=fun e=>by subst e;exact h1 h2
    simp [h1,h2,hne]
   ·have he:x=y:=UInt8.le_antisymm (UInt8.not_lt.1 h2) (UInt8.not_lt.1 h1)
    subst he
    simp [h1,ih]
theorem zgy:∀{a b:List Int},okB a→okB b→Lib.bytesOf a=Lib.bytesOf b→a=b
 | [],[],_,_,_=>rfl
 | [],_::_,_,_,h=>by cases h
 | _::_,[],_,_,h=>by cases h
 | x::a,y::b,ha,hb,h=>by
  unfold Lib.bytesOf at h
  simp only [List.map_cons,List.cons.injEq]at h
  have hx:=ha x (List.mem_cons_self ..)
  have hy:=hb y (List.mem_cons_self ..)
  have e:x=y:=by
   have h1:=congrArg UInt8.toNat h.1
   simp at h1
   omega
  rw [e,zgy (fun z hz=>ha z (List.mem_cons_of_mem _ hz)) (fun z hz=>hb z (List.mem_cons_of_mem _ hz)) h.2]
theorem zqh {a b:List Int} (ha:okB a) (hb:okB b):(cmpB a b == 0)=decide (a=b):=by
 have h:=zfL (Lib.bytesOf a) (Lib.bytesOf b)
 by_cases e:a=b
 ·rw [decide_eq_true e]
  have:cmpB a b=0:=h.2 (by rw [e])
  simp [this]
 ·rw [decide_eq_false e]
  have:cmpB a b≠0:=fun h'=>e (zgy ha hb (h.1 h'))
  simpa using this
abbrev AtV:=List Int×List Int
def zbr (n:List Int) (x:AtV):Bool:=klB x.1 n
def posA (l:List AtV) (n:List Int):Nat:=(l.takeWhile (zbr n)).length
def zbf (l:List AtV) (n:List Int):Bool:=if h:posA l n<l.length then decide (l[posA l n].1=n) else false
def SrtA (l:List AtV):Prop:=l.Pairwise (fun a b=>klB a.1 b.1=true)
theorem SrtA.lt {l:List AtV} (h:SrtA l) {i j:Nat} (hij:i<j) (hj:j<l.length):klB l[i].1 l[j].1=true:=List.pairwise_iff_getElem.1 h i j (by omega) hj hij
theorem zgM {l:List AtV} (h:SrtA l) {n:List Int} {i j:Nat} (hij:i≤j) (hj:j<l.length) (ha:zbr n l[j]=true):zbr n l[i]=true:=by
 rcases Nat.lt_or_eq_of_le hij with e | e
 ·exact zdB (h.lt e hj) ha
 ·subst e;exact ha
theorem zqS {l:List AtV} {n:List Int} {i:Nat} (hi:i≤l.length) (h1:∀k (hk:k<l.length),k<i→zbr n l[k]=true) (h2:∀hk:i<l.length,zbr n l[i]=false):posA l n=i:=by
 unfold posA
 induction l generalizing i with
 | nil=>simp at hi;subst hi;rfl
 | cons p l ih=>
  cases i with
  | zero=>
   have:=h2 (by simp)
   simp only [List.getElem_cons_zero]at this
   rw [List.takeWhile_cons,if_neg (by rw [this];decide)]
   rfl
  | succ i=>
   have h0:=h1 0 (by simp) (by omega)
   simp only [List.getElem_cons_zero]at h0
   rw [List.takeWhile_cons,if_pos h0,List.length_cons]
   rw [ih (i:=i) (by simpa using hi) (fun k hk hki=>by have:=h1 (k+1) (by simpa using hk) (by omega);simpa using this) (fun hk=>by have:=h2 (by simpa using hk);simpa using this)]
theorem zgk (l:List AtV) (n:List Int):posA l n≤l.length:=(List.takeWhile_prefix _).length_le
theorem zjg (n t:List Int):∀(l:List AtV),(∀x∈l,x.1≠n)→setA n t true l=l
 | [],_=>rfl
 | a::r,h=>by
  have ha:=h a (List.mem_cons_self ..)
  unfold setA
  simp only [Bool.not_true,Bool.false_and,if_neg ha,Bool.true_or]
  rw [zjg n t r (fun x hx=>h x (List.mem_cons_of_mem _ hx))]
  simp
theorem zer (a:AtV) (r:List AtV) (n:List Int):posA (a::r) n=if klB a.1 n=true then posA r n+1 else 0:=by
 unfold posA
 rw [List.takeWhile_cons]
 by_cases h:klB a.1 n=true
 ·rw [if_pos (show zbr n a=true from h),if_pos h,List.length_cons]
 ·rw [if_neg (show ¬ zbr n a=true from h),if_neg h];rfl
theorem zgU (a:AtV) (r:List AtV) (n:List Int):zbf (a::r) n=if klB a.1 n=true then zbf r n else decide (a.1=n):=by
 unfold zbf
 have hp:=zer a r n
 by_cases h:klB a.1 n=true
 ·rw [if_pos h]at hp ⊢
  by_cases h2:posA r n<r.length
  ·rw [dif_pos (by rw [hp];simpa using h2),dif_pos h2]
   simp only [hp,List.getElem_cons_succ]
  ·rw [dif_neg (by rw [hp];simpa using h2),dif_neg h2]
 ·rw [if_neg h]at hp ⊢
  rw [dif_pos (by rw [hp];simp)]
  simp only [hp,List.getElem_cons_zero]
theorem zme (n t:List Int) (gone:Bool):∀(l:List AtV),SrtA l→setA n t gone l=l.take (posA l n)++((if gone=true then [] else [(n,t)])++(if zbf l n=true then l.drop (posA l n+1) else l.drop (posA l n)))
 | [],_=>by
  unfold setA
  cases gone<;>simp [zbf,posA]
 | a::r,h=>by
  obtain⟨ha,hr⟩:=List.pairwise_cons.1 h
  have ih:=zme n t gone r hr
  rw [zer,zgU]
  unfold setA
  by_cases hk:klB a.1 n=true
  ·have hne:a.1≠n:=fun e=>by rw [e,zmj]at hk;cases hk
   simp only [hk,Bool.not_true,Bool.and_false,Bool.or_false,if_neg hne,if_true,ih]
   simp
  ·have hk':klB a.1 n=false:=by simpa using hk
   have hall:∀x∈r,x.1≠n:=fun x hx e=>by have:=ha x hx;rw [e]at this;exact hk this
   simp only [hk',Bool.not_false,Bool.and_true,Bool.or_true,zjg n t r hall]
   by_cases e:a.1=n
   ·cases gone<;>simp [e]
   ·cases gone<;>simp [e]
def chgI (l:List AtV) (o:OpV):List AtV:=
 if zbf l o.name=true then (if o.gone=true then l.take (posA l o.name)++l.drop (posA l o.name+1) else l.set (posA l o.name) (o.name,o.text))
 else if o.gone=true then l else if l.length=4 then l else l.take (posA l o.name)++((o.name,o.text)::l.drop (posA l o.name))
theorem zfP {l:List AtV} {n:List Int} (h:zbf l n=true):∃hp:posA l n<l.length,l[posA l n].1=n:=by
 unfold zbf at h
 by_cases hp:posA l n<l.length
 ·rw [dif_pos hp]at h
  exact⟨hp,of_decide_eq_true h⟩
 ·rw [dif_neg hp]at h;cases h
theorem zfw {l:List AtV} (h:SrtA l) (hl:l.length≤4) (o:OpV):setAttrs l o=chgI l o:=by
 have hp:=zgk l o.name
 unfold setAttrs chgI
 rw [zme _ _ _ l h]
 by_cases ht:zbf l o.name=true
 ·obtain⟨hlt,he⟩:=zfP ht
  simp only [ht,if_true]
  by_cases hg:o.gone=true
  ·simp only [hg,if_true,List.nil_append]
   rw [if_pos (by simp;omega)]
  ·simp only [hg]
   rw [if_pos (by simp;omega)]
   simp only [Bool.false_eq_true,if_false]
   rw [List.set_eq_take_append_cons_drop,if_pos hlt]
   simp
 ·simp only [ht]
  by_cases hg:o.gone=true
  ·simp only [hg,if_true,List.nil_append,Bool.false_eq_true,if_false,List.take_append_drop]
   rw [if_pos hl]
  ·simp only [hg,Bool.false_eq_true,if_false]
   by_cases h4:l.length=4
   ·rw [if_pos h4,if_neg (by simp;omega)]
   ·rw [if_neg h4,if_pos (by simp;omega)]
    simp
theorem zdm {l:List PlV} {p:PlV} {i:IdV} {k:Nat} (h:posP l i=some k):posP (l++[p]) i=some k:=by
 obtain⟨h1,h2,h3⟩:=posP_some.1 h
 refine posP_some.2 ⟨by simp;omega,?_,fun j hj=> ?_⟩
 ·rw [List.getElem_append_left h1];exact h2
 ·rw [List.getElem_append_left (by omega)];exact h3 j hj
theorem zig {l:List PlV} {k:Nat} {p q:PlV} (hk:l[k]? = some p) (e:q.id=p.id):(l.set k q).map PlV.id=l.map PlV.id:=by
 rw [List.map_set,e]
 obtain⟨hlt,rfl⟩:=List.getElem?_eq_some_iff.1 hk
 refine List.ext_getElem? (fun j=> ?_)
 rw [List.getElem?_set]
 by_cases hj:k=j
 ·subst hj;simp [hlt]
 ·simp [hj]
theorem zhc {l m:List PlV} (h:l.map PlV.id=m.map PlV.id) (i:IdV):posP l i=posP m i:=by
 have e:∀l:List PlV,posP l i=(l.map PlV.id).findIdx? (fun x=>decide (x=i)):=fun l=>by unfold posP;rw [List.findIdx?_map];rfl
 rw [e l,e m,h]
theorem zcG {l:List PlV} {k j:Nat} {p q r:PlV} (hk:l[k]? = some p) (h:(l.set k q)[j]? = some r):(j=k∧r=q)∨(j≠k∧l[j]? = some r):=by
 obtain⟨hlt,rfl⟩:=List.getElem?_eq_some_iff.1 hk
 rw [List.getElem?_set]at h
 by_cases e:k=j
 ·subst e
  simp [hlt]at h
  exact .inl ⟨rfl,h.symm⟩
 ·simp [e]at h
  exact .inr ⟨fun e'=>e e'.symm,by simpa using h⟩
theorem Fr.same {l:List PlV} (h:Fr l) {k:Nat} {p q:PlV} (hk:l[k]? = some p) (e1:q.id=p.id) (e2:q.par=p.par):Fr (l.set k q):=by
 have hi:=zig hk e1
 refine⟨by simpa using h.two,fun r hr=> ?_,fun r hr=> ?_,by rw [hi];exact h.uniq,fun i r h2 hr=> ?_,?_⟩
 ·rcases zcG hk hr with ⟨rfl,rfl⟩ | ⟨_,hr⟩
  ·rw [e1];exact h.root p hk
  ·exact h.root r hr
 ·rcases zcG hk hr with ⟨rfl,rfl⟩ | ⟨_,hr⟩
  ·rw [e1];exact h.trash p hk
  ·exact h.trash r hr
 ·rw [zhc hi]
  rcases zcG hk hr with ⟨rfl,rfl⟩ | ⟨_,hr⟩
  ·rw [e2];exact h.par _ p h2 hk
  ·exact h.par i r h2 hr
 ·obtain⟨rk,hrk⟩:=h.rank
  refine⟨rk,fun i r h2 hr=> ?_⟩
  rcases zcG hk hr with ⟨rfl,rfl⟩ | ⟨_,hr⟩
  ·rw [e1,e2];exact hrk _ p h2 hk
  ·exact hrk i r h2 hr
theorem Fr.add {l:List PlV} (h:Fr l) {q:PlV} (hn:posP l q.id=none) {j:Nat} (hp:posP l q.par=some j):Fr (l++[q]):=by
 have hne:∀p∈l,p.id≠q.id:=posP_none.1 hn
 have hget:∀i r,(l++[q])[i]? = some r→(i=l.length∧r=q)∨(i<l.length∧l[i]? = some r):=fun i r hr=>by
  rw [List.getElem?_append]at hr
  split at hr
  ·exact .inr ⟨by assumption,hr⟩
  ·rename_i hge
   have:i-l.length=0:=by
    have:=(List.getElem?_eq_some_iff.1 hr).1
    simp at this;omega
   rw [this]at hr
   simp at hr
   exact .inl ⟨by omega,hr.symm⟩
 have h2:=h.two
 refine⟨by simp;omega,fun r hr=> ?_,fun r hr=> ?_,?_,fun i r hi hr=> ?_,?_⟩
 ·rcases hget _ _ hr with ⟨e,_⟩ | ⟨_,hr⟩
  ·omega
  ·exact h.root r hr
 ·rcases hget _ _ hr with ⟨e,_⟩ | ⟨_,hr⟩
  ·omega
  ·exact h.trash r hr
 ·rw [List.map_append,List.nodup_append]
  refine⟨h.uniq,by simp,fun a ha b hb e=> ?_⟩
  obtain⟨p,hp1,rfl⟩:=List.mem_map.1 ha
  simp at hb
  exact hne p hp1 (e.trans hb)
 ·rcases hget _ _ hr with ⟨_,rfl⟩ | ⟨_,hr⟩
  ·exact⟨j,zdm hp⟩
  ·obtain⟨m,hm⟩:=h.par i r hi hr
   exact⟨m,zdm hm⟩
 ·obtain⟨rk,hrk⟩:=h.rank
  have hpar:∀i r,2≤i→l[i]? = some r→r.par≠q.id:=fun i r hi hr e=>by
   obtain⟨m,hm⟩:=h.par i r hi hr
   rw [e,hn]at hm
   cases hm
  have hqp:q.par≠q.id:=fun e=>by rw [e,hn]at hp;cases hp
  refine⟨fun x=>if x=q.id then rk q.par+1 else rk x,fun i r hi hr=> ?_⟩
  rcases hget _ _ hr with ⟨_,rfl⟩ | ⟨_,hr⟩
  ·simp [hqp]
  ·have:=hne r (List.mem_of_getElem? hr)
   simp only [hpar i r hi hr,this,if_false]
   exact hrk i r hi hr
theorem Fr.move {l:List PlV} (h:Fr l) {k:Nat} {p q:PlV} (hk2:2≤k) (hk:l[k]? = some p) (e1:q.id=p.id) {j:Nat} (hp:posP l q.par=some j) (hu:zay l (l.length+1) q.par p.id=false):Fr (l.set k q):=by
 have hi:=zig hk e1
 refine⟨by simpa using h.two,fun r hr=> ?_,fun r hr=> ?_,by rw [hi];exact h.uniq,fun i r h2 hr=> ?_,?_⟩
 ·rcases zcG hk hr with ⟨rfl,rfl⟩ | ⟨_,hr⟩
  ·rw [e1];exact h.root p hk
  ·exact h.root r hr
 ·rcases zcG hk hr with ⟨rfl,rfl⟩ | ⟨_,hr⟩
  ·rw [e1];exact h.trash p hk
  ·exact h.trash r hr
 ·rw [zhc hi]
  rcases zcG hk hr with ⟨rfl,rfl⟩ | ⟨_,hr⟩
  ·exact⟨j,hp⟩
  ·exact h.par i r h2 hr
 ·obtain⟨rk,hrk⟩:=h.rank
  have hU:∀i r,2≤i→l[i]? = some r→r.id≠p.id→zay l (l.length+1) r.id p.id=zay l (l.length+1) r.par p.id:=fun i r hi2 hr hne=>by
   have hpos:=zbn h.uniq hr
   obtain⟨m,hm⟩:=h.par i r hi2 hr
   have c1:=zlC l rk (rk r.id)
   have c2:=zmg hrk hi2 hr
   have h2:=h.two
   rw [znq h p.id hrk (l.length+1) (l.length+2) r.id i hpos (by omega) (by omega)]
   conv=>lhs;unfold zay
   simp only [hne,if_false,hpos,hr,show ¬ i<2 by omega]
  refine⟨fun x=>if zay l (l.length+1) x p.id=true then rk x+rk q.par+1 else rk x,fun i r h2 hr=> ?_⟩
  have hself:zay l (l.length+1) p.id p.id=true:=by unfold zay;simp
  rcases zcG hk hr with ⟨rfl,rfl⟩ | ⟨hne,hr⟩
  ·show (if zay l (l.length+1) r.par p.id=true then rk r.par+rk r.par+1 else rk r.par)<(if zay l (l.length+1) r.id p.id=true then rk r.id+rk r.par+1 else rk r.id)
   rw [e1,hself,hu]
   simp
   omega
  ·have hid:r.id≠p.id:=fun e=>by
    have a1:=zbn h.uniq hr
    have a2:=zbn h.uniq hk
    rw [e,a2]at a1
    cases a1
    exact hne rfl
   show (if zay l (l.length+1) r.par p.id=true then rk r.par+rk q.par+1 else rk r.par)<(if zay l (l.length+1) r.id p.id=true then rk r.id+rk q.par+1 else rk r.id)
   rw [hU i r h2 hr hid]
   have:=hrk i r h2 hr
   by_cases e:zay l (l.length+1) r.par p.id=true
   ·simp only [e,if_true];omega
   ·simp only [e];simpa using this
theorem zdD {l:List PlV} {i:IdV} (h:zae l i=true):∃k p,posP l i=some k∧l[k]? = some p∧p.kind=0∧zar p.name=false:=by
 unfold zae at h
 cases hp:posP l i with
 | none=>rw [hp]at h;cases h
 | some k=>
  rw [hp]at h
  cases hk:l[k]? with
  | none=>simp only [hk]at h;cases h
  | some p=>
   simp only [hk]at h
   simp [zcJ]at h
   exact⟨k,p,rfl,hk,h.1,h.2⟩
theorem Fr.do {l:List PlV} (h:Fr l) (o:OpV) (hn:o.kind=0→posP l o.at'=none):Fr (doV l o):=by
 unfold doV
 by_cases h0:o.kind=0
 ·rw [if_pos h0]
  by_cases ht:zae l o.par=true
  ·rw [if_pos ht]
   obtain⟨k,p,hp,_⟩:=zdD ht
   exact h.add (q:=newP o) (hn h0) hp
  ·rw [if_neg ht];exact h
 ·rw [if_neg h0]
  cases hp:posP l o.node with
  | none=>exact h
  | some k=>
   obtain⟨p,hk,hid⟩:=zbm hp
   simp only [hk]
   by_cases h1:o.kind=1
   ·rw [if_pos h1]
    by_cases hm:zbX l o k=true
    ·rw [if_pos hm]
     unfold zbX at hm
     simp only [Bool.and_eq_true,decide_eq_true_eq,Bool.not_eq_true']at hm
     obtain⟨j,q,hj,_⟩:=zdD hm.1.2
     exact h.move (q:=zdp o p) hm.1.1 hk rfl hj (by rw [hid];exact hm.2)
    ·rw [if_neg hm];exact h
   ·rw [if_neg h1]
    by_cases h2:o.kind=2
    ·rw [if_pos h2]
     by_cases hc:2≤k∧p.kind=1
     ·rw [if_pos hc];exact h.same hk rfl rfl
     ·rw [if_neg hc];exact h
    ·rw [if_neg h2]
     by_cases hc:k≠1∧p.kind=0
     ·rw [if_pos hc];exact h.same hk rfl rfl
     ·rw [if_neg hc];exact h
end Go.Proofs.YtlpnibbdmkeklaaGreatDoor
namespace Go.Proofs.YtlpnibbdmkeklaaGreatDoor
open Go.RowKit Go.Maps
set_option linter.unusedVariables false
set_option maxRecDepth 100000
theorem Tryz.laidOut9:laidOutB Tryz.prog=true:=by kernel_rfl
theorem Tryz.row9:(81:TypeId)<Tryz.prog.types.size:=of_decide_eq_true (by kernel_rfl)
theorem lawId:Keyed Tryz.prog 81:=Keyed.of_law (deep_law_laid Tryz.laidOut9 (m:=2) (by omega) Tryz.row9 (by kernel_rfl) (by kernel_rfl))
def kId (i:IdV):Lit:=.string (keyBytes [.int .i64 i.1,.int .i64 i.2])
def okI (i:IdV):Prop:=(Lit.int .i64 i.1).wf=true∧(Lit.int .i64 i.2).wf=true
def zap (i:IdV):Value:=.agg #[.int .i64 i.1,.int .i64 i.2]
theorem keyI {i:IdV} (h:okI i):keyOf Tryz.prog 81 (zap i)=some (kId i):=by
 obtain⟨wa,wb⟩:=h
 obtain⟨m,hm⟩:∃m,Tryz.prog.types.size=m+1:=⟨Tryz.prog.types.size-1,by kernel_rfl⟩
 have hu:Tryz.prog.underlying 3=some (.int .i64):=by kernel_rfl
 have hc:Tryz.prog.cellsOf 81=2:=by kernel_rfl
 have hc1:Tryz.prog.cellsOf 3=1:=by kernel_rfl
 have hkt:Tryz.prog.keyType 81=true:=by kernel_rfl
 unfold keyOf zap kId
 simp only [Tryz.underlying81]
 rw [if_pos (by simp [hkt,Value.formed,Tryz.underlying81,hc]),hm]
 unfold Program.keyLits
 simp only [Tryz.underlying81,Value.cells]
 simp [hc,hc1,Program.keyLits,hu,wa,wb]
theorem zrl {i j:IdV} (h:okI i) (k:okI j) (e:kId i=kId j):i=j:=by
 have h1:=lawId.inj (keyI h) (by rw [e];exact keyI k)
 unfold zap at h1
 simp at h1
 exact Prod.ext h1.1 h1.2
theorem intE:Tryz.prog.underlying 3=some (.int .i64):=by kernel_rfl
theorem zsw (w:World):(zeroValue 3).run Tryz.prog w=.ok (.int .i64 0) w:=by kernel_rfl
def AtM (w:World) (mb:Nat) (l:List PlV):Prop:=∃(D:DataW Unit) (n:Nat),w.ownsMap Tryz.prog 81 (plainElem Tryz.prog 3) mb n D∧n≤l.length∧∀i,okI i→Maps.has D (kId i)=(posP l i).isSome∧∀k,posP l i=some k→D.atKey (kId i) (.lit (.int .i64 0))=.lit (.int .i64 (k:Int))
theorem AtM.made (w:World):AtM (w.alloc (.map #[] 0)) w.heap.size []:=
 ⟨.map [],0,World.ownsMap_made _ _ _ _,Nat.le_refl _,fun i _=>⟨rfl,fun k h=>by cases h⟩⟩
theorem AtM.lt {w:World} {mb:Nat} {l:List PlV} (h:AtM w mb l):mb<w.heap.size:=by
 obtain⟨D,n,h,_⟩:=h
 exact h.lt
theorem AtM.isMap {w:World} {mb:Nat} {l:List PlV} (h:AtM w mb l):∃es clock,w.heap[mb]? = some (.map es clock):=by
 obtain⟨D,n,⟨es,c,h,_⟩,_⟩:=h
 exact⟨es,c,h⟩
theorem AtM.frm {w w':World} {mb:Nat} {l:List PlV} {S:List Nat} (h:AtM w mb l) (f:Frm w w' S) (hd:mb∉S):AtM w' mb l:=by
 have hlt:=h.lt
 obtain⟨D,n,⟨es,c,h1,h2⟩,h3⟩:=h
 exact⟨D,n,⟨es,c,(f.block mb hlt hd).trans h1,h2⟩,h3⟩
theorem AtM.ids {w:World} {mb:Nat} {l m:List PlV} (h:AtM w mb l) (e:l.map PlV.id=m.map PlV.id):AtM w mb m:=by
 obtain⟨D,n,h1,h2,h3⟩:=h
 have hl:l.length=m.length:=by have:=congrArg List.length e;simpa using this
 exact⟨D,n,h1,by omega,fun i hi=>by rw [←zhc e];exact h3 i hi⟩
theorem AtM.look {w:World} {mb:Nat} {l:List PlV} (h:AtM w mb l) {i:IdV} (hi:okI i):∃c:Int,(Instr.lookup 95 (.map (some mb)) (zap i) true).run Tryz.prog w=.ok (.tuple #[.int .i64 c,.bool (posP l i).isSome]) w∧∀k,posP l i=some k→c=(k:Int):=by
 obtain⟨D,n,h1,h2,h3⟩:=h
 obtain⟨v,ps,hrun,hv⟩:=h1.look_ok lawId Tryz.underlying95 (zsw w) (plainElem_int intE (by decide)) (keyI hi)
 obtain⟨c,rfl,hc,_⟩:=plainElem_int_inv intE hv
 refine⟨c,by rw [hrun,(h3 i hi).1],fun k hk=> ?_⟩
 have h4:=(congrArg Prod.fst hc)
 rw [(h3 i hi).2 k hk]at h4
 injection h4 with h4
 injection h4 with _ h4
 exact h4.symm
theorem zge {l:List PlV} {p:PlV} {i:IdV} (hn:posP l p.id=none):posP (l++[p]) i=if i=p.id then some l.length else posP l i:=by
 by_cases e:i=p.id
 ·rw [if_pos e,e]
  refine posP_some.2 ⟨by simp,by simp,fun j hj=> ?_⟩
  rw [List.getElem_append_left hj]
  exact posP_none.1 hn _ (List.getElem_mem hj)
 ·rw [if_neg e]
  cases h:posP l i with
  | some k=>exact zdm h
  | none=>
   refine posP_none.2 (fun q hq=> ?_)
   rcases List.mem_append.1 hq with hq | hq
   ·exact posP_none.1 h q hq
   ·have:q=p:=by simpa using hq
    rw [this];exact fun h=>e h.symm
theorem AtM.put {w:World} {mb:Nat} {l:List PlV} (h:AtM w mb l) (p:PlV) (hp:okI p.id) (hn:posP l p.id=none) (hl:l.length≤100000000):∃w',(Instr.mapUpdate 95 (.map (some mb)) (zap p.id) (.int .i64 (l.length:Int))).run Tryz.prog w=.ok () w'∧AtM w' mb (l++[p])∧w.grownBy w' (some mb):=by
 obtain⟨D,n,h1,h2,h3⟩:=h
 have hwf:(Lit.int .i64 (l.length:Int)).wf=true:=WalkArith.wf_i64 (by omega)
 obtain⟨w',hrun,h4,h5⟩:=h1.update lawId Tryz.underlying95 (by unfold maxLen;omega) (keyI hp) (plainElem_int intE hwf)
 refine⟨w',hrun,⟨_,n+1,h4,by simp;omega,fun i hi=> ?_⟩,h5⟩
 have hk:=lawId.key (keyI hp)
 rw [zge hn]
 by_cases e:i=p.id
 ·rw [if_pos e,e]
  exact⟨has_put_same h1.isMap hk _,fun k hk'=>by cases hk';exact atKey_put_same h1.isMap hk _ _⟩
 ·rw [if_neg e]
  have hne:kId i≠kId p.id:=fun e'=>e (zrl hi hp e')
  rw [has_put_other hne,atKey_put_other hne]
  exact h3 i hi
end Go.Proofs.YtlpnibbdmkeklaaGreatDoor
namespace Go.Proofs.YtlpnibbdmkeklaaGreatDoor
open Go.RowKit
set_option linter.unusedVariables false
set_option maxRecDepth 100000
def zbs:Obj:=.map #[{ key:=.string ⟨#[98,114]⟩,val:=.agg #[],born:=0 },{ key:=.string ⟨#[104,114]⟩,val:=.agg #[],born:=1 }] 2
theorem ziJ (W:World) (o o':Obj):({ (W.alloc o)with heap:=(W.alloc o).heap.setIfInBounds W.heap.size o' }:World)=W.alloc o':=by
 have e:(W.heap.push o).setIfInBounds W.heap.size o'=W.heap.push o':=by
  apply Array.ext'
  rw [Array.toList_setIfInBounds,Array.toList_push,Array.toList_push]
  rw [List.set_append_right _ _ (by simp)]
  simp
 show ({ W with heap:=(W.heap.push o).setIfInBounds W.heap.size o' }:World)={ W with heap:=W.heap.push o' }
 rw [e]
theorem zqB (W:World):(Instr.mapUpdate 108 (.map (some W.heap.size)) (.string ⟨#[98,114]⟩) (.agg #[])).run Tryz.prog (W.alloc (.map #[] 0))=.ok () (W.alloc (.map #[{ key:=.string ⟨#[98,114]⟩,val:=.agg #[],born:=0 }] 1)):=by
 rw [run_mapUpdate_first (P:=Tryz.prog) (W.alloc (.map #[] 0)) 108 9 96 W.heap.size 0 ⟨#[98,114]⟩ (.agg #[]) Tryz.underlying108 Tryz.underlying9 (heap_alloc_new W _),ziJ]
theorem zqz (W:World):(Instr.mapUpdate 108 (.map (some W.heap.size)) (.string ⟨#[104,114]⟩) (.agg #[])).run Tryz.prog (W.alloc (.map #[{ key:=.string ⟨#[98,114]⟩,val:=.agg #[],born:=0 }] 1))=.ok () (W.alloc zbs):=by
 have hb:=heap_alloc_new W (.map #[{ key:=.string ⟨#[98,114]⟩,val:=.agg #[],born:=0 }] 1)
 have hf:Instr.findNow .string (.string ⟨#[104,114]⟩) ([{ key:=.string ⟨#[98,114]⟩,val:=.agg #[],born:=0 }]:List MapEntry) 0=some none:=rfl
 have hc:(Instr.checkKey false 10000 9 (.string ⟨#[104,114]⟩)).run Tryz.prog (W.alloc (.map #[{ key:=.string ⟨#[98,114]⟩,val:=.agg #[],born:=0 }] 1))=.ok () (W.alloc (.map #[{ key:=.string ⟨#[98,114]⟩,val:=.agg #[],born:=0 }] 1)):=MapKept.run_checkKey (k:=.string ⟨#[104,114]⟩) Tryz.underlying9 (by simp [MapKept.IsKey]) false 9999
 simp [Instr.mapUpdate,run_underlying Tryz.underlying108,MapKept.run_getObj_map hb,hc,MapKept.run_findKey Tryz.underlying9 hf,MapKept.run_setObj_map _ hb,Result.andThen]
 exact ziJ W _ _
theorem zqt (g:Nat) (w:World) (cs:Array Value) (hl:Loc w g cs 110) (c3:Value) (h3:w.cell? ⟨g,3,none⟩=some c3) :
  Calls Tryz.prog 119 #[.pointer (some ⟨g,0,none⟩)] w fun e w'=>e=.returned (.tuple #[])∧w'=(w.setCell ⟨g,3,none⟩ (.map (some w.heap.size))).alloc zbs:=by
 have hmm:= @run_makeMap Tryz.prog
 have h1:=zqB w
 have h2:=zqz w
 have hg:=hl.lt
 have f3:=hl.frozen 3
 go_enter Tryz.func119,Tryz.ntmps119
 go_wp2
 go_end0
 exact⟨rfl,rfl⟩
theorem disable (w:World):(callFunc 176 #[]).run Tryz.prog w=.ok (.value (.tuple #[])) w:=run_call_mark0 Tryz.func176 (by kernel_rfl) (by kernel_rfl) (by kernel_rfl) .disable (by kernel_rfl) w
theorem enable (w:World):(callFunc 178 #[]).run Tryz.prog w=.ok (.value (.tuple #[])) w:=run_call_mark0 Tryz.func178 (by kernel_rfl) (by kernel_rfl) (by kernel_rfl) .enable (by kernel_rfl) w
theorem acquire (a:Addr) (w:World):(callFunc 179 #[.pointer (some a)]).run Tryz.prog w=.ok (.value (.tuple #[])) w:=run_call_marked Tryz.func179 (by kernel_rfl) (by kernel_rfl) (by kernel_rfl) .acquire (by kernel_rfl) a w
theorem releaseMerge (a:Addr) (w:World):(callFunc 181 #[.pointer (some a)]).run Tryz.prog w=.ok (.value (.tuple #[])) w:=run_call_marked Tryz.func181 (by kernel_rfl) (by kernel_rfl) (by kernel_rfl) .releaseMerge (by kernel_rfl) a w
theorem zeJ (a:Addr) (x:Value) (u:FrameMode) (w:World) (hc:w.cell? a=some x) (hz:w.frozen? a=false) :
  CallsD Tryz.prog 151 #[.pointer (some a),.bool true] u w fun e u' w'=>u'=u∧(e=.returned (.tuple #[])∧w'=w.drew.setCell a (.int .u32 1)):=by
 have hc':w.drew.cell? a=some x:=by go_simp
 have hz':w.drew.frozen? a=false:=by go_simp
 have hst:=run_call_store (P:=Tryz.prog) Tryz.func167 (by kernel_rfl) (by kernel_rfl) (by kernel_rfl) (by kernel_rfl) (k:=.u32) (y:=1) hc' hz'
 go_enter_d Tryz.func151,Tryz.ntmps151
 go_wp2
 go_region_calls
 all_goals (go_end0;exact⟨rfl,rfl⟩)
theorem zeq (a:Addr) (u:FrameMode) (w:World) (hc:w.cell? a=some (.int .i32 1)) (hz:w.frozen? a=false) :
  CallsD Tryz.prog 150 #[.pointer (some a)] u w fun e u' w'=>u'=u∧(e=.returned (.tuple #[])∧w'=w.setCell a (.int .i32 0)):=by
 have hd:=disable
 have he:=enable
 have hr:=releaseMerge
 have hadd:=run_call_add (P:=Tryz.prog) Tryz.func182 (by kernel_rfl) (by kernel_rfl) (by kernel_rfl) .i32 (by kernel_rfl) (y:= -1) (s:=0) hc hz (by simp [go_sem];rfl)
 have hcv:=run_convert_to_unsafe (P:=Tryz.prog) (src:=220) (dst:=224) Tryz.underlying220 Tryz.underlying224 (by kernel_rfl) hc
 go_enter_d Tryz.func150,Tryz.ntmps150
 go_wp2
 go_end0
 go_wp2
 go_end0
 exact⟨rfl,rfl⟩
theorem zjf (a:Addr) (w:World) (hc:w.cell? a=some (.int .i32 0)) (hz:w.frozen? a=false) :
  Calls Tryz.prog 149 #[.pointer (some a)] w fun e w'=>e=.returned (.tuple #[])∧w'=w.setCell a (.int .i32 1):=by
 have hd:=disable
 have he:=enable
 have ha:=acquire
 have hcas:=run_call_cas_hit (P:=Tryz.prog) Tryz.func177 (by kernel_rfl) (by kernel_rfl) (by kernel_rfl) .i32 (by kernel_rfl) (y:=1) hc hz
 have hc':(w.setCell a (.int .i32 1)).cell? a=some (.int .i32 1):=World.cell?_setCell_same w a _ hc
 have hcv:=run_convert_to_unsafe (P:=Tryz.prog) (src:=220) (dst:=224) Tryz.underlying220 Tryz.underlying224 (by kernel_rfl) hc'
 go_enter Tryz.func149,Tryz.ntmps149
 go_wp2
 first | go_end0 | (simp only [Exit.inBlock,Exit.then];refine bodyPost_ret (results_none rfl _ _ _) rfl ?_) | refine bodyPost_ret (results_none rfl _ _ _) rfl ?_
 go_wp2
 go_end0
 exact⟨rfl,rfl⟩
def vs0:Array Value:= #[.int .u32 0,.int .i32 0,.int .u32 0,.map none]
def vs1 (m:Nat):Array Value:= #[.int .u32 1,.int .i32 0,.int .u32 0,.map (some m)]
theorem zdh (a:Addr) (x:Int) (w:World) (hc:w.cell? a=some (.int .u32 x)) (b:Bool) (hb:(x != 0)=b) :
  Calls Tryz.prog 137 #[.pointer (some a)] w fun e w'=>e=.returned (.bool b)∧w'=w:=by
 have hlo:=run_call_load (P:=Tryz.prog) Tryz.func148 (by kernel_rfl) (by kernel_rfl) (by kernel_rfl) .u32 (by kernel_rfl) hc
 go_enter Tryz.func137,Tryz.ntmps137
 go_wp2
 go_ret
 exact⟨rfl,rfl⟩
theorem Frm.drew (w:World) (S:List Nat):Frm w w.drew S:=Frm.ofBelow ((Below.refl _ _).drew) S
theorem zmE (w:World) (a:Addr) (v:Value):(w.setCell a v).os=w.os:=by unfold World.setCell;repeat (first | rfl | split)
theorem zkP (w:World) (a:Addr) (v:Value):(w.setCell a v).tape=w.tape:=by unfold World.setCell;repeat (first | rfl | split)
theorem zic (w:World) (a:Addr) (v:Value):(w.setCell a v).output=w.output:=by unfold World.setCell;repeat (first | rfl | split)
theorem Frm.set (w:World) (g j:Nat) (v:Value):Frm w (w.setCell ⟨g,j,none⟩ v) [g]:=
 ⟨zmE w _ v,zkP w _ v,zic w _ v,by simp,fun i _ hn=>heap_setCell_other w ⟨g,j,none⟩ i v (fun e=>hn (by simp;exact e))⟩
theorem Frm.alloc (w:World) (o:Obj) (S:List Nat):Frm w (w.alloc o) S:=Frm.ofBelow ((Below.refl _ _).alloc (Nat.le_refl _) _) S
set_option maxHeartbeats 1600000 in
theorem zpD (g:Nat) (w:World) (hl:Loc w g vs0 110) :
  Calls Tryz.prog 138 #[.pointer (some ⟨g,0,none⟩),.func (.func 119) #[.pointer (some ⟨g,0,none⟩)] #[]] w fun e w'=>e=.returned (.tuple #[])∧∃m,w.heap.size≤m∧Loc w' g (vs1 m) 110∧w'.heap[m]? = some zbs∧Frm w w' [g]:=by
 have h1:w.cell? ⟨g,1,none⟩=some (.int .i32 0):=hl.cell 1
 have f1:=hl.frozen 1
 have l1:Loc (w.setCell ⟨g,1,none⟩ (.int .i32 1)) g #[.int .u32 0,.int .i32 1,.int .u32 0,.map none] 110:=hl.set 1 (.int .i32 1)
 have F1:=Frm.set w g 1 (.int .i32 1)
 have hnot:∀(x:Bool) (w:World),(Op.unary .not (.bool x)).run Tryz.prog w=.ok (.bool (!x)) w:=fun _ _=>rfl
 go_enter_defers Tryz.func138,Tryz.ntmps138
 go_wp2_with (go_at_call 149;refine (zjf ⟨g,1,none⟩ _ (by go_simp) (by go_simp)).mono ?_;rintro e w' ⟨rfl,rfl⟩)
 generalize w.setCell ⟨g,1,none⟩ (.int .i32 1)=w1 at *
 refine (zdh ⟨g,0,none⟩ 0 w1 (l1.cell 0) false (by simp)).mono ?_
 rintro e w1 ⟨rfl,rfl⟩
 go_wp2_with fail
 refine (zqt g w1 _ l1 _ (l1.cell 3)).mono ?_
 rintro e w2 ⟨rfl,hw2⟩
 have l2:Loc w2 g #[.int .u32 0,.int .i32 1,.int .u32 0,.map (some w1.heap.size)] 110:=by rw [hw2];exact (l1.set 3 (.map (some w1.heap.size))).alloc _
 have m2:w2.heap[w1.heap.size]? = some zbs:=by rw [hw2];have:=heap_alloc_new (w1.setCell ⟨g,3,none⟩ (.map (some w1.heap.size))) zbs;rwa [show (w1.setCell ⟨g,3,none⟩ (.map (some w1.heap.size))).heap.size=w1.heap.size by simp]at this
 have F2:Frm w1 w2 [g]:=by rw [hw2];exact (Frm.set w1 g 3 _).trans (Frm.alloc _ _ _)
 have hne:w1.heap.size≠g:=by have:=l1.lt;omega
 have F12:=F1.trans F2
 have hmm:=F1.size
 clear hw2
 generalize w1.heap.size=m at *
 go_wp2_with fail
 refine leaves_cons (f:=151) (args:= #[.pointer (some ⟨g,0,none⟩),.bool true]) (by simp) (by simp [go_sem]) ?_
 refine (zeJ ⟨g,0,none⟩ (.int .u32 0) .returning _ (l2.cell 0) (l2.frozen 0)).mono ?_
 rintro e u' w3 ⟨rfl,rfl,hw3⟩
 have ld:Loc w2.drew g #[.int .u32 0,.int .i32 1,.int .u32 0,.map (some m)] 110:=l2.frm (Frm.drew w2 []) (by simp)
 have l3:Loc w3 g #[.int .u32 1,.int .i32 1,.int .u32 0,.map (some m)] 110:=by rw [hw3];exact ld.set 0 (.int .u32 1)
 have F3:Frm w2 w3 [g]:=by rw [hw3];exact (Frm.drew w2 _).trans (Frm.set _ g 0 _)
 clear hw3
 refine leaves_cons (f:=150) (args:= #[.pointer (some ⟨g,1,none⟩)]) (by simp [settle]) (by simp [go_sem]) ?_
 refine (zeq ⟨g,1,none⟩ _ _ (l3.cell 1) (l3.frozen 1)).mono ?_
 rintro e u' w4 ⟨rfl,rfl,hw4⟩
 have l4:Loc w4 g (vs1 m) 110:=by rw [hw4];exact l3.set 1 (.int .i32 0)
 have F4:Frm w3 w4 [g]:=by rw [hw4];exact Frm.set _ g 1 _
 have hm:m<w2.heap.size:=by
  by_cases h:m<w2.heap.size
  ·exact h
  ·rw [Array.getElem?_eq_none (by omega)]at m2;cases m2
 have F34:=F3.trans F4
 have m4:w4.heap[m]? = some zbs:=(F34.block m hm (by simpa using hne)).trans m2
 simp [Leaves,settle,results,Tryz.results138]
 exact⟨m,hmm,l4,m4,F12.trans F34⟩
def VMade (B:Nat) (w:World) (g:Nat):Prop:=∃m,B≤m∧Loc w g (vs1 m) 110∧w.heap[m]? = some zbs
def VSet (B:Nat) (w:World) (g:Nat):Prop:=Loc w g vs0 110∨VMade B w g
theorem zrN (B g:Nat) (w:World) (h:VSet B w g) (hB:B≤w.heap.size) :
  Calls Tryz.prog 118 #[.pointer (some ⟨g,0,none⟩),.func (.func 119) #[.pointer (some ⟨g,0,none⟩)] #[]] w fun e w'=>e=.returned (.tuple #[])∧VMade B w' g∧Frm w w' [g]:=by
 have hnot:∀(x:Bool) (w:World),(Op.unary .not (.bool x)).run Tryz.prog w=.ok (.bool (!x)) w:=fun _ _=>rfl
 rcases h with hl | ⟨m,hbm,hl,hm⟩
 ·have h0:w.cell? ⟨g,0,none⟩=some (.int .u32 0):=hl.cell 0
  go_enter Tryz.func118,Tryz.ntmps118
  go_wp2_with fail
  refine (zdh ⟨g,0,none⟩ 0 w h0 false (by simp)).mono ?_
  rintro e w ⟨rfl,rfl⟩
  go_wp2_with fail
  refine (zpD g w hl).mono ?_
  rintro e w' ⟨rfl,m,hbm,l',m',F'⟩
  go_wp2_with fail
  go_end0
  exact⟨rfl,⟨m,Nat.le_trans hB hbm,l',m'⟩,F'⟩
 ·have h0:w.cell? ⟨g,0,none⟩=some (.int .u32 1):=hl.cell 0
  go_enter Tryz.func118,Tryz.ntmps118
  go_wp2_with fail
  refine (zdh ⟨g,0,none⟩ 1 w h0 true (by simp)).mono ?_
  rintro e w ⟨rfl,rfl⟩
  go_wp2_with fail
  go_end0
  exact⟨rfl,⟨m,hbm,hl,hm⟩,Frm.refl _ _⟩
def zgw (s:ByteArray):Bool:=s == ⟨#[98,114]⟩ || s == ⟨#[104,114]⟩
theorem zex (w:World) (m:Nat) (s:ByteArray) (hm:w.heap[m]? = some zbs) :
  (Instr.lookup 108 (.map (some m)) (.string s) true).run Tryz.prog w=.ok (.tuple #[.agg #[],.bool (zgw s)]) w:=by
 have hc:(Instr.checkKey false 10000 9 (.string s)).run Tryz.prog w=.ok () w:=MapKept.run_checkKey (k:=.string s) Tryz.underlying9 (by simp [MapKept.IsKey]) false 9999
 have hz:(zeroValue 96).run Tryz.prog w=.ok (.agg #[]) w:=by kernel_rfl
 have hb:w.heap[m]? = some (.map #[{ key:=.string ⟨#[98,114]⟩,val:=.agg #[],born:=0 },{ key:=.string ⟨#[104,114]⟩,val:=.agg #[],born:=1 }] 2):=hm
 by_cases h1:(s == ⟨#[98,114]⟩)=true
 ·have hf:Instr.findNow .string (.string s) ([{ key:=.string ⟨#[98,114]⟩,val:=.agg #[],born:=0 },{ key:=.string ⟨#[104,114]⟩,val:=.agg #[],born:=1 }]:List MapEntry) 0=some (some (0,.agg #[])):=by simp [Instr.findNow,Instr.sameNow,h1]
  simp [Instr.lookup,run_underlying Tryz.underlying108,MapKept.run_getObj_map hb,hc,MapKept.run_findKey Tryz.underlying9 hf,Result.andThen,zgw,h1]
 ·have h1':(s == ⟨#[98,114]⟩)=false:=by simpa using h1
  by_cases h2:(s == ⟨#[104,114]⟩)=true
  ·have hf:Instr.findNow .string (.string s) ([{ key:=.string ⟨#[98,114]⟩,val:=.agg #[],born:=0 },{ key:=.string ⟨#[104,114]⟩,val:=.agg #[],born:=1 }]:List MapEntry) 0=some (some (1,.agg #[])):=by simp [Instr.findNow,Instr.sameNow,h1',h2]
   simp [Instr.lookup,run_underlying Tryz.underlying108,MapKept.run_getObj_map hb,hc,MapKept.run_findKey Tryz.underlying9 hf,Result.andThen,zgw,h1',h2]
  ·have h2':(s == ⟨#[104,114]⟩)=false:=by simpa using h2
   have hf:Instr.findNow .string (.string s) ([{ key:=.string ⟨#[98,114]⟩,val:=.agg #[],born:=0 },{ key:=.string ⟨#[104,114]⟩,val:=.agg #[],born:=1 }]:List MapEntry) 0=some none:=by simp [Instr.findNow,Instr.sameNow,h1',h2']
   simp [Instr.lookup,run_underlying Tryz.underlying108,MapKept.run_getObj_map hb,hc,MapKept.run_findKey Tryz.underlying9 hf,hz,Result.andThen,zgw,h1',h2']
theorem zoc (l:List Int) (b:ByteArray) (h:b.data.toList=l.map (fun n=>UInt8.ofNat n.toNat)):str l=b:=
 ByteArray.ext (Array.ext' (by rw [zci,h]))
open Classical in
theorem ziG (l:List Int) (hl:okB l):zgw (str l)=decide (Void l):=by
 have e1:(⟨#[98,114]⟩:ByteArray)=str [98,114]:=(zoc _ _ rfl).symm
 have e2:(⟨#[104,114]⟩:ByteArray)=str [104,114]:=(zoc _ _ rfl).symm
 have hb:∀k,okB k→(str l == str k)=decide (l=k):=fun k hk=>by
  by_cases h:l=k
  ·subst h;rw [(MapKept.bytes_beq _ _).2 rfl];simp
  ·rw [decide_eq_false h,←Bool.not_eq_true,MapKept.bytes_beq]
   intro e
   exact h (zmf hl hk (by rw [e]))
 unfold zgw
 rw [e1,e2,hb _ zou,hb _ zoi]
 unfold Void
 rw [Bool.eq_iff_iff]
 simp
open Classical in
set_option maxHeartbeats 1600000 in
theorem zia (B g:Nat) (w:World) (v:Value) (l:List Int) (h:VSet B w g) (hBB:B≤w.heap.size) (hv:∀w',Frm w w' [g]→Byt w' v l) :
  Calls Tryz.prog 85 #[.pointer (some ⟨g,0,none⟩),v] w fun e w'=>e=.returned (.bool (decide (Void l)))∧VMade B w' g∧Frm w w' [g]:=by
 have hmf:∀(fn:Fn) (first cap:Array Value) (w:World),(Instr.makeFunc fn first cap).run Tryz.prog w=.ok (.func fn first cap) w:=fun _ _ _ _=>rfl
 have hg:g<w.heap.size:=by
  rcases h with h | ⟨m,_,h,_⟩
  ·exact h.lt
  ·exact h.lt
 obtain⟨a1,k1,rfl,_⟩:=(hv w (Frm.refl _ _)).shape
 have HV:=hide hv
 clear hv
 go_enter Tryz.func85,Tryz.ntmps85
 go_wp2_with fail
 refine (zrN B g w h hBB).mono ?_
 rintro e w1 ⟨rfl,⟨m,hbm,l1,m1⟩,F1⟩
 have h3:w1.cell? ⟨g,3,none⟩=some (.map (some m)):=l1.cell 3
 have h3d:w1.drew.cell? ⟨g,3,none⟩=some (.map (some m)):=l1.cell 3
 have h3a:(w1.alloc (.cells #[] 96)).cell? ⟨g,3,none⟩=some (.map (some m)):=(l1.alloc _).cell 3
 have hlt:m<w1.heap.size:=by
  by_cases h:m<w1.heap.size
  ·exact h
  ·rw [Array.getElem?_eq_none (by omega)]at m1;cases m1
 have hb1:Byt w1 _ l:=zaa HV w1 F1
 have c1:=zbG w1.drew _ l (hb1.keep ((Below.refl _ _).drew))
 have c2:=zbG (w1.alloc (.cells #[] 96)).drew _ l (hb1.keep (((Below.refl _ _).alloc (Nat.le_refl _) _).drew))
 have q1:=fun s=>zex w1.drew m s m1
 have q2:=fun s=>zex (w1.alloc (.cells #[] 96)).drew m s ((heap_alloc_old w1 _ hlt).trans m1)
 have HS:=hide (ziG l hb1.1)
 generalize str l=s at *
 generalize l.length=n at *
 go_wp2_with fail
 go_region
 all_goals
  go_wp2_with fail
  go_ret
  exact⟨by rw [←zaa HS];rfl,⟨m,hbm,(l1.alloc _).all ((Below.refl _ _).drew),(heap_alloc_old w1 _ hlt).trans m1⟩,F1.trans ((Frm.alloc w1 _ _).trans (Frm.drew _ _))⟩
def fs0 (o p:Value):Array Value:= #[o,p,.int .u32 0,.int .i32 0,.int .u32 0,.map none]
def fs1 (o p:Value) (m:Nat):Array Value:= #[o,p,.int .u32 1,.int .i32 0,.int .u32 0,.map (some m)]
def zmN (B:Nat) (o p:Value) (w:World) (g:Nat):Prop:=∃m,B≤m∧Loc w g (fs1 o p m) 112∧w.heap[m]? = some zbs
def FSet (B:Nat) (o p:Value) (w:World) (g:Nat):Prop:=Loc w g (fs0 o p) 112∨zmN B o p w g
theorem zos (o p:Value) (g:Nat) (w:World) (cs:Array Value) (hl:Loc w g cs 112) (c3:Value) (h3:w.cell? ⟨g,5,none⟩=some c3) :
  Calls Tryz.prog 119 #[.pointer (some ⟨g,2,none⟩)] w fun e w'=>e=.returned (.tuple #[])∧w'=(w.setCell ⟨g,5,none⟩ (.map (some w.heap.size))).alloc zbs:=by
 have hmm:= @run_makeMap Tryz.prog
 have h1:=zqB w
 have h2:=zqz w
 have hg:=hl.lt
 have f3:=hl.frozen 5
 go_enter Tryz.func119,Tryz.ntmps119
 go_wp2
 go_end0
 exact⟨rfl,rfl⟩
set_option maxHeartbeats 1600000 in
theorem zoV (o p:Value) (g:Nat) (w:World) (hl:Loc w g (fs0 o p) 112) :
  Calls Tryz.prog 138 #[.pointer (some ⟨g,2,none⟩),.func (.func 119) #[.pointer (some ⟨g,2,none⟩)] #[]] w fun e w'=>e=.returned (.tuple #[])∧∃m,w.heap.size≤m∧Loc w' g (fs1 o p m) 112∧w'.heap[m]? = some zbs∧Frm w w' [g]:=by
 have h1:w.cell? ⟨g,3,none⟩=some (.int .i32 0):=hl.cell 3
 have f1:=hl.frozen 3
 have l1:Loc (w.setCell ⟨g,3,none⟩ (.int .i32 1)) g #[o,p,.int .u32 0,.int .i32 1,.int .u32 0,.map none] 112:=hl.set 3 (.int .i32 1)
 have F1:=Frm.set w g 3 (.int .i32 1)
 have hnot:∀(x:Bool) (w:World),(Op.unary .not (.bool x)).run Tryz.prog w=.ok (.bool (!x)) w:=fun _ _=>rfl
 go_enter_defers Tryz.func138,Tryz.ntmps138
 go_wp2_with (go_at_call 149;refine (zjf ⟨g,3,none⟩ _ (by go_simp) (by go_simp)).mono ?_;rintro e w' ⟨rfl,rfl⟩)
 generalize w.setCell ⟨g,3,none⟩ (.int .i32 1)=w1 at *
 refine (zdh ⟨g,2,none⟩ 0 w1 (l1.cell 2) false (by simp)).mono ?_
 rintro e w1 ⟨rfl,rfl⟩
 go_wp2_with fail
 refine (zos o p g w1 _ l1 _ (l1.cell 5)).mono ?_
 rintro e w2 ⟨rfl,hw2⟩
 have l2:Loc w2 g #[o,p,.int .u32 0,.int .i32 1,.int .u32 0,.map (some w1.heap.size)] 112:=by rw [hw2];exact (l1.set 5 (.map (some w1.heap.size))).alloc _
 have m2:w2.heap[w1.heap.size]? = some zbs:=by rw [hw2];have:=heap_alloc_new (w1.setCell ⟨g,5,none⟩ (.map (some w1.heap.size))) zbs;rwa [show (w1.setCell ⟨g,5,none⟩ (.map (some w1.heap.size))).heap.size=w1.heap.size by simp]at this
 have F2:Frm w1 w2 [g]:=by rw [hw2];exact (Frm.set w1 g 5 _).trans (Frm.alloc _ _ _)
 have hne:w1.heap.size≠g:=by have:=l1.lt;omega
 have F12:=F1.trans F2
 have hmm:=F1.size
 clear hw2
 generalize w1.heap.size=m at *
 go_wp2_with fail
 refine leaves_cons (f:=151) (args:= #[.pointer (some ⟨g,2,none⟩),.bool true]) (by simp) (by simp [go_sem]) ?_
 refine (zeJ ⟨g,2,none⟩ (.int .u32 0) .returning _ (l2.cell 2) (l2.frozen 2)).mono ?_
 rintro e u' w3 ⟨rfl,rfl,hw3⟩
 have ld:Loc w2.drew g #[o,p,.int .u32 0,.int .i32 1,.int .u32 0,.map (some m)] 112:=l2.frm (Frm.drew w2 []) (by simp)
 have l3:Loc w3 g #[o,p,.int .u32 1,.int .i32 1,.int .u32 0,.map (some m)] 112:=by rw [hw3];exact ld.set 2 (.int .u32 1)
 have F3:Frm w2 w3 [g]:=by rw [hw3];exact (Frm.drew w2 _).trans (Frm.set _ g 2 _)
 clear hw3
 refine leaves_cons (f:=150) (args:= #[.pointer (some ⟨g,3,none⟩)]) (by simp [settle]) (by simp [go_sem]) ?_
 refine (zeq ⟨g,3,none⟩ _ _ (l3.cell 3) (l3.frozen 3)).mono ?_
 rintro e u' w4 ⟨rfl,rfl,hw4⟩
 have l4:Loc w4 g (fs1 o p m) 112:=by rw [hw4];exact l3.set 3 (.int .i32 0)
 have F4:Frm w3 w4 [g]:=by rw [hw4];exact Frm.set _ g 3 _
 have hm:m<w2.heap.size:=by
  by_cases h:m<w2.heap.size
  ·exact h
  ·rw [Array.getElem?_eq_none (by omega)]at m2;cases m2
 have F34:=F3.trans F4
 have m4:w4.heap[m]? = some zbs:=(F34.block m hm (by simpa using hne)).trans m2
 simp [Leaves,settle,results,Tryz.results138]
 exact⟨m,hmm,l4,m4,F12.trans F34⟩
theorem zrc (B:Nat) (o p:Value) (g:Nat) (w:World) (h:FSet B o p w g) (hB:B≤w.heap.size) :
  Calls Tryz.prog 118 #[.pointer (some ⟨g,2,none⟩),.func (.func 119) #[.pointer (some ⟨g,2,none⟩)] #[]] w fun e w'=>e=.returned (.tuple #[])∧zmN B o p w' g∧Frm w w' [g]:=by
 have hnot:∀(x:Bool) (w:World),(Op.unary .not (.bool x)).run Tryz.prog w=.ok (.bool (!x)) w:=fun _ _=>rfl
 rcases h with hl | ⟨m,hbm,hl,hm⟩
 ·have h0:w.cell? ⟨g,2,none⟩=some (.int .u32 0):=hl.cell 2
  go_enter Tryz.func118,Tryz.ntmps118
  go_wp2_with fail
  refine (zdh ⟨g,2,none⟩ 0 w h0 false (by simp)).mono ?_
  rintro e w ⟨rfl,rfl⟩
  go_wp2_with fail
  refine (zoV o p g w hl).mono ?_
  rintro e w' ⟨rfl,m,hbm,l',m',F'⟩
  go_wp2_with fail
  go_end0
  exact⟨rfl,⟨m,Nat.le_trans hB hbm,l',m'⟩,F'⟩
 ·have h0:w.cell? ⟨g,2,none⟩=some (.int .u32 1):=hl.cell 2
  go_enter Tryz.func118,Tryz.ntmps118
  go_wp2_with fail
  refine (zdh ⟨g,2,none⟩ 1 w h0 true (by simp)).mono ?_
  rintro e w ⟨rfl,rfl⟩
  go_wp2_with fail
  go_end0
  exact⟨rfl,⟨m,hbm,hl,hm⟩,Frm.refl _ _⟩
open Classical in
set_option maxHeartbeats 1600000 in
theorem zjz (B:Nat) (o p:Value) (g:Nat) (w:World) (v:Value) (l:List Int) (h:FSet B o p w g) (hBB:B≤w.heap.size) (hv:∀w',Frm w w' [g]→Byt w' v l) :
  Calls Tryz.prog 85 #[.pointer (some ⟨g,2,none⟩),v] w fun e w'=>e=.returned (.bool (decide (Void l)))∧zmN B o p w' g∧Frm w w' [g]:=by
 have hmf:∀(fn:Fn) (first cap:Array Value) (w:World),(Instr.makeFunc fn first cap).run Tryz.prog w=.ok (.func fn first cap) w:=fun _ _ _ _=>rfl
 have hg:g<w.heap.size:=by
  rcases h with h | ⟨m,_,h,_⟩
  ·exact h.lt
  ·exact h.lt
 obtain⟨a1,k1,rfl,_⟩:=(hv w (Frm.refl _ _)).shape
 have HV:=hide hv
 clear hv
 go_enter Tryz.func85,Tryz.ntmps85
 go_wp2_with fail
 refine (zrc B o p g w h hBB).mono ?_
 rintro e w1 ⟨rfl,⟨m,hbm,l1,m1⟩,F1⟩
 have h3:w1.cell? ⟨g,5,none⟩=some (.map (some m)):=l1.cell 5
 have h3d:w1.drew.cell? ⟨g,5,none⟩=some (.map (some m)):=l1.cell 5
 have h3a:(w1.alloc (.cells #[] 96)).cell? ⟨g,5,none⟩=some (.map (some m)):=(l1.alloc _).cell 5
 have hlt:m<w1.heap.size:=by
  by_cases h:m<w1.heap.size
  ·exact h
  ·rw [Array.getElem?_eq_none (by omega)]at m1;cases m1
 have hb1:Byt w1 _ l:=zaa HV w1 F1
 have c1:=zbG w1.drew _ l (hb1.keep ((Below.refl _ _).drew))
 have c2:=zbG (w1.alloc (.cells #[] 96)).drew _ l (hb1.keep (((Below.refl _ _).alloc (Nat.le_refl _) _).drew))
 have q1:=fun s=>zex w1.drew m s m1
 have q2:=fun s=>zex (w1.alloc (.cells #[] 96)).drew m s ((heap_alloc_old w1 _ hlt).trans m1)
 have HS:=hide (ziG l hb1.1)
 generalize str l=s at *
 generalize l.length=n at *
 go_wp2_with fail
 go_region
 all_goals
  go_wp2_with fail
  go_ret
  exact⟨by rw [←zaa HS];rfl,⟨m,hbm,(l1.alloc _).all ((Below.refl _ _).drew),(heap_alloc_old w1 _ hlt).trans m1⟩,F1.trans ((Frm.alloc w1 _ _).trans (Frm.drew _ _))⟩
def zdo (n:Nat) (left:Int):Int:=if (n:Int)≤left then left-n else -1
theorem zcM {n:Nat} {left:Int} (h:(n:Int)≤left):zdo n left=left-n:=if_pos h
theorem zbM {n:Nat} {left:Int} (h:¬ (n:Int)≤left):zdo n left = -1:=if_neg h
theorem zkg (w:World) (a:Option Addr) (n cap:Nat) (left:Int) (hn:n≤maxLen) (h0:0≤left) (h1:left≤1000000000) :
  Calls Tryz.prog 31 #[.slice a n cap,.int .i64 left] w fun e w'=>e=.returned (.int .i64 (zdo n left))∧w'=w:=by
 unfold maxLen at hn
 by_cases h:(n:Int)≤left
 ·have HR:=hide (zcM h)
  have hd:¬ left-(n:Int)<0:=by omega
  go_enter Tryz.func31,Tryz.ntmps31
  go_wp2
  go_ret
  exact⟨by rw [zaa HR];rfl,rfl⟩
 ·have HR:=hide (zbM h)
  have hd:left-(n:Int)<0:=by omega
  go_enter Tryz.func31,Tryz.ntmps31
  go_wp2
  go_ret
  exact⟨by rw [zaa HR];rfl,rfl⟩
theorem zpC (w:World) (a:Option Addr) (n cap:Nat) (left:Int) (hn:n≤maxLen) (h0:0≤left) (h1:left≤1000000000) :
  Calls Tryz.prog 72 #[.slice a n cap,.int .i64 left] w fun e w'=>e=.returned (.int .i64 (zdo n left))∧w'=w:=by
 unfold maxLen at hn
 by_cases h:(n:Int)≤left
 ·have HR:=hide (zcM h)
  have hd:¬ left-(n:Int)<0:=by omega
  go_enter Tryz.func72,Tryz.ntmps72
  go_wp2
  go_ret
  exact⟨by rw [zaa HR];rfl,rfl⟩
 ·have HR:=hide (zbM h)
  have hd:left-(n:Int)<0:=by omega
  go_enter Tryz.func72,Tryz.ntmps72
  go_wp2
  go_ret
  exact⟨by rw [zaa HR];rfl,rfl⟩
set_option maxRecDepth 8000 in
set_option maxHeartbeats 1600000 in
theorem zpx (w:World) (v:Value) (o:OpV) (left:Int) (h:RdOp w v o) (h0:0≤left) (h1:left≤1000000000) :
  Calls Tryz.prog 34 #[v,.int .i64 left] w fun e w'=>e=.returned (.int .i64 (zdo (o.key.length+o.name.length+o.text.length) left))∧Below w.heap.size w w':=by
 obtain⟨k,n,t,rfl,hk,hn,ht⟩:=h
 have m1:=hk.2.1
 have m2:=hn.2.1
 have m3:=ht.2.1
 obtain⟨ak,ck,rfl,_,_⟩:=hk.shape
 obtain⟨an,cn,rfl,_,_⟩:=hn.shape
 obtain⟨at',ct,rfl,_,_⟩:=ht.shape
 clear hk hn ht
 generalize o.key.length=nK at *
 generalize o.name.length=nN at *
 generalize o.text.length=nT at *
 have HA:=hide ((Below.refl w.heap.size w).alloc (Nat.le_refl _) (.cells #[.int .i64 o.kind,.int .i64 o.atN,.int .i64 o.atR,.int .i64 o.nodeN,.int .i64 o.nodeR,.int .i64 o.parN,.int .i64 o.parR,.slice ak nK ck,.int .i64 o.elem,.slice an nN cn,.slice at' nT ct,.bool o.gone] 77))
 unfold zaU
 go_enter Tryz.func34,Tryz.ntmps34
 go_wp2_with fail
 refine (zpC _ _ _ _ left m1 h0 h1).mono ?_
 rintro e w1 ⟨rfl,rfl⟩
 by_cases h2:(nK:Int)≤left
 ·rw [zcM h2]
  have hd:¬ left-(nK:Int)<0:=by omega
  go_wp2_with fail
  refine (zkg _ _ _ _ (left-(nK:Int)) m2 (by omega) (by omega)).mono ?_
  rintro e w2 ⟨rfl,rfl⟩
  by_cases h3:(nN:Int)≤left-(nK:Int)
  ·rw [zcM h3]
   have hd2:¬ left-(nK:Int)-(nN:Int)<0:=by omega
   go_wp2_with fail
   refine (zkg _ _ _ _ (left-(nK:Int)-(nN:Int)) m3 (by omega) (by omega)).mono ?_
   rintro e w2 ⟨rfl,rfl⟩
   by_cases h4:(nT:Int)≤left-(nK:Int)-(nN:Int)
   ·rw [zcM h4]
    have HR:=hide (show zdo (nK+nN+nT) left=left-(nK:Int)-(nN:Int)-(nT:Int) by rw [zcM (by omega)];omega)
    have hd3:¬ left-(nK:Int)-(nN:Int)-(nT:Int)<0:=by omega
    go_wp2_with fail
    go_ret
    exact⟨by rw [zaa HR];rfl,zaa HA⟩
   ·rw [zbM h4]
    have HR:=hide (show zdo (nK+nN+nT) left = -1 by rw [zbM (by omega)])
    go_wp2_with fail
    go_ret
    exact⟨by rw [zaa HR];rfl,zaa HA⟩
  ·rw [zbM h3]
   have HR:=hide (show zdo (nK+nN+nT) left = -1 by rw [zbM (by omega)])
   go_wp2_with fail
   go_ret
   exact⟨by rw [zaa HR];rfl,zaa HA⟩
 ·rw [zbM h2]
  have HR:=hide (show zdo (nK+nN+nT) left = -1 by rw [zbM (by omega)])
  go_wp2_with fail
  go_ret
  exact⟨by rw [zaa HR];rfl,zaa HA⟩
def zdV (n r n' r':Int):Bool:=n == n' && r == r'
set_option maxHeartbeats 1600000 in
theorem zke (w:World) (n r n' r':Int) :
  Calls Tryz.prog 67 #[.agg #[.int .i64 n,.int .i64 r],.agg #[.int .i64 n',.int .i64 r']] w fun e w'=>e=.returned (.bool (zdV n r n' r'))∧Below w.heap.size w w':=by
 have HB:=hide (((Below.refl w.heap.size w).alloc (Nat.le_refl _) (.cells #[.int .i64 n,.int .i64 r] 81)).alloc (by simp) (.cells #[.int .i64 n',.int .i64 r'] 81))
 by_cases h1:n=n'
 ·subst h1
  by_cases h2:r=r'
  ·subst h2
   go_enter Tryz.func67,Tryz.ntmps67
   go_wp2
   go_ret
   exact⟨by simp [zdV],zaa HB⟩
  ·have HE:=hide (show zdV n r n r'=false by simp [zdV,h2])
   have q:(r == r')=false:=by simpa using h2
   go_enter Tryz.func67,Tryz.ntmps67
   go_wp2
   go_ret
   exact⟨by rw [zaa HE];rfl,zaa HB⟩
 ·have HE:=hide (show zdV n r n' r'=false by simp [zdV,h1])
  have q:(n == n')=false:=by simpa using h1
  go_enter Tryz.func67,Tryz.ntmps67
  go_wp2
  go_ret
  exact⟨by rw [zaa HE];rfl,zaa HB⟩
set_option maxHeartbeats 1600000 in
theorem zfe (w:World) (n r:Int) :
  Calls Tryz.prog 46 #[.agg #[.int .i64 n,.int .i64 r]] w fun e w'=>e=.returned (.agg #[.int .i64 n,.int .i64 r])∧Below w.heap.size w w':=by
 have HB:=hide ((((Below.refl w.heap.size w).alloc (Nat.le_refl _) (.cells #[.int .i64 n,.int .i64 r] 74)).alloc (by simp) (.cells #[.int .i64 n,.int .i64 r] 81)).alloc (by simp;omega) (.cells #[.int .i64 n,.int .i64 r] 81))
 go_enter Tryz.func46,Tryz.ntmps46
 go_wp2
 refine bodyPost_ret (v:=.agg #[.int .i64 n,.int .i64 r]) (by simp [results,Tryz.results46,go_sem]) rfl ⟨rfl,?_⟩
 exact zaa HB
theorem zgf {a b:List Int} {k:Nat} (h:a.take k=b.take k) (ha:k<a.length) (hb:k<b.length) (e:a[k]=b[k]):a.take (k+1)=b.take (k+1):=by
 rw [List.take_succ_eq_append_getElem ha,List.take_succ_eq_append_getElem hb,h,e]
theorem zji {a b:List Int} {k:Nat} (ha:k<a.length) (hb:k<b.length) (e:a[k]≠b[k]):decide (a=b)=false:=by
 simp only [decide_eq_false_iff_not]
 intro h;subst h;exact e rfl
set_option maxHeartbeats 1600000 in
set_option maxRecDepth 1000000 in
theorem zlR (w:World) (u v:Value) (a b:List Int) (hu:Byt w u a) (hv:Byt w v b) :
  Calls Tryz.prog 8 #[u,v] w fun e w'=>e=.returned (.bool (decide (a=b)))∧Below w.heap.size w w':=by
 have hma:=hu.2.1
 have hmb:=hv.2.1
 unfold maxLen at hma hmb
 by_cases hl:a.length=b.length
 ·by_cases h0:a.length=0
  ·have ha:a=[]:=List.eq_nil_of_length_eq_zero h0
   have hb:b=[]:=List.eq_nil_of_length_eq_zero (by omega)
   subst ha hb
   obtain⟨a1,c1,rfl,_⟩:=hu.shape
   obtain⟨a2,c2,rfl,_⟩:=hv.shape
   go_enter Tryz.func8,Tryz.ntmps8
   go_wp2
   refine wp_loop_rounds 1 ?_
   rw [rounds_succ]
   go_wp2
   go_ret
   exact⟨rfl,Below.refl _ _⟩
  ·obtain⟨hoka,_,⟨rfl,rfl⟩ | ⟨x,cap,rfl,hc,rfl⟩ | ⟨p,off,cap,rfl,h1,h2,h3,h4,h5⟩⟩:=hu
   ·simp at h0
   ·simp at h0
   obtain⟨hokb,_,⟨rfl,rfl⟩ | ⟨x,cap,rfl,hc,rfl⟩ | ⟨q,off',cap',rfl,g1,g2,g3,g4,g5⟩⟩:=hv
   ·simp at hl;simp [hl]at h0
   ·simp at hl;simp [hl]at h0
   generalize hA:a.length=n at *
   have HL:=hide hl
   clear hl
   rw [←zaa HL]
   go_enter Tryz.func8,Tryz.ntmps8
   go_wp2
   go_loopw [5] (fun i wr=>∃k:Nat,k≤n∧i=.int .i64 k∧Hid (a.take k=b.take k)∧Below w.heap.size w wr) (fun i _=>n-(intOf i).toNat)
   case atStart=>exact⟨0,Nat.zero_le _,rfl,hide rfl,Below.refl _ _⟩
   case round=>
    obtain⟨k,hk,rfl,ht,hB⟩:=hrel
    by_cases hlt:k<n
    ·obtain⟨x,hx⟩:∃x,x=a.getD k 0:=⟨_,rfl⟩
     obtain⟨y,hy⟩:∃y,y=b.getD k 0:=⟨_,rfl⟩
     have c1:wr.cell? ⟨p,off+k,none⟩=some (.int .u8 x):=by rw [hx];exact (hB.cell (p:=⟨p,off+k,none⟩) h4).trans (h5 k hlt)
     have c2:wr.cell? ⟨q,off' + k,none⟩=some (.int .u8 y):=by rw [hy];exact (hB.cell (p:=⟨q,off' + k,none⟩) g4).trans (g5 k (by have:=zaa HL;omega))
     have hka:k<a.length:=by omega
     have hkb:k<b.length:=by have:=zaa HL;omega
     rw [zcF hka]at hx
     rw [zcF hkb]at hy
     have HX:=hide hx
     have HY:=hide hy
     have hlt':(k:Int)<(n:Int):=by omega
     clear hx hy h5 g5
     by_cases hxy:x=y
     ·have hne:(x != y)=false:=by simp [hxy]
      clear hxy
      go_wp2
      go_quiet (fail)
      go_wp2
      go_roundw
      case rel=>exact⟨k+1,by omega,by go_num,hide (zgf (zaa ht) hka hkb (by rw [←zaa HX,←zaa HY];simpa using hne)),below_drewN hB _⟩
      case measure=>simp [intOf];omega
     ·have hne:(x != y)=true:=by simp [hxy]
      have hd:decide (a=b)=false:=zji hka hkb (by rw [←zaa HX,←zaa HY];exact hxy)
      have HD:=hide hd
      clear hxy hd
      go_wp2
      go_quiet (fail)
      go_wp2
      go_ret
      exact⟨by rw [zaa HD];rfl,below_drewN hB _⟩
    ·have e:k=n:=by omega
     have hd:decide (a=b)=true:=by
      have h:=zaa ht
      rw [List.take_of_length_le (by omega),List.take_of_length_le (by have:=zaa HL;omega)]at h
      simpa using h
     have HD:=hide hd
     clear hd ht
     subst e
     go_wp2
     go_ret
     exact⟨by rw [zaa HD];rfl,hB⟩
 ·have hd:decide (a=b)=false:=by
   simp only [decide_eq_false_iff_not]
   intro h;subst h;exact hl rfl
  have hne:((a.length:Int) != (b.length:Int))=true:=by simp;omega
  have HD:=hide hd
  clear hd
  obtain⟨a1,c1,rfl,_⟩:=hu.shape
  obtain⟨a2,c2,rfl,_⟩:=hv.shape
  go_enter Tryz.func8,Tryz.ntmps8
  go_wp2
  go_ret
  exact⟨by rw [zaa HD];rfl,Below.refl _ _⟩
set_option maxHeartbeats 1600000 in
set_option maxRecDepth 1000000 in
theorem zrn (w:World) (u v:Value) (a b:List Int) (hu:Ints w u a) (hv:Ints w v b) :
  Calls Tryz.prog 101 #[u,v] w fun e w'=>e=.returned (.bool (decide (a=b)))∧Below w.heap.size w w':=by
 have hma:=hu.2.1
 have hmb:=hv.2.1
 unfold maxLen at hma hmb
 by_cases hl:a.length=b.length
 ·by_cases h0:a.length=0
  ·have ha:a=[]:=List.eq_nil_of_length_eq_zero h0
   have hb:b=[]:=List.eq_nil_of_length_eq_zero (by omega)
   subst ha hb
   obtain⟨a1,c1,rfl,_⟩:=hu.shape
   obtain⟨a2,c2,rfl,_⟩:=hv.shape
   go_enter Tryz.func101,Tryz.ntmps101
   go_wp2
   refine wp_loop_rounds 1 ?_
   rw [rounds_succ]
   go_wp2
   go_ret
   exact⟨rfl,Below.refl _ _⟩
  ·obtain⟨hoka,_,⟨rfl,rfl⟩ | ⟨x,cap,rfl,hc,rfl⟩ | ⟨p,off,cap,rfl,h1,h2,h3,h4,h5⟩⟩:=hu
   ·simp at h0
   ·simp at h0
   obtain⟨hokb,_,⟨rfl,rfl⟩ | ⟨x,cap,rfl,hc,rfl⟩ | ⟨q,off',cap',rfl,g1,g2,g3,g4,g5⟩⟩:=hv
   ·simp at hl;simp [hl]at h0
   ·simp at hl;simp [hl]at h0
   generalize hA:a.length=n at *
   have HL:=hide hl
   clear hl
   rw [←zaa HL]
   go_enter Tryz.func101,Tryz.ntmps101
   go_wp2
   go_loopw [5] (fun i wr=>∃k:Nat,k≤n∧i=.int .i64 k∧Hid (a.take k=b.take k)∧Below w.heap.size w wr) (fun i _=>n-(intOf i).toNat)
   case atStart=>exact⟨0,Nat.zero_le _,rfl,hide rfl,Below.refl _ _⟩
   case round=>
    obtain⟨k,hk,rfl,ht,hB⟩:=hrel
    by_cases hlt:k<n
    ·obtain⟨x,hx⟩:∃x,x=a.getD k 0:=⟨_,rfl⟩
     obtain⟨y,hy⟩:∃y,y=b.getD k 0:=⟨_,rfl⟩
     have c1:wr.cell? ⟨p,off+k,none⟩=some (.int .i64 x):=by rw [hx];exact (hB.cell (p:=⟨p,off+k,none⟩) h4).trans (h5 k hlt)
     have c2:wr.cell? ⟨q,off' + k,none⟩=some (.int .i64 y):=by rw [hy];exact (hB.cell (p:=⟨q,off' + k,none⟩) g4).trans (g5 k (by have:=zaa HL;omega))
     have hka:k<a.length:=by omega
     have hkb:k<b.length:=by have:=zaa HL;omega
     rw [zcF hka]at hx
     rw [zcF hkb]at hy
     have HX:=hide hx
     have HY:=hide hy
     have hlt':(k:Int)<(n:Int):=by omega
     clear hx hy h5 g5
     by_cases hxy:x=y
     ·have hne:(x != y)=false:=by simp [hxy]
      clear hxy
      go_wp2
      go_quiet (fail)
      go_wp2
      go_roundw
      case rel=>exact⟨k+1,by omega,by go_num,hide (zgf (zaa ht) hka hkb (by rw [←zaa HX,←zaa HY];simpa using hne)),below_drewN hB _⟩
      case measure=>simp [intOf];omega
     ·have hne:(x != y)=true:=by simp [hxy]
      have hd:decide (a=b)=false:=zji hka hkb (by rw [←zaa HX,←zaa HY];exact hxy)
      have HD:=hide hd
      clear hxy hd
      go_wp2
      go_quiet (fail)
      go_wp2
      go_ret
      exact⟨by rw [zaa HD];rfl,below_drewN hB _⟩
    ·have e:k=n:=by omega
     have hd:decide (a=b)=true:=by
      have h:=zaa ht
      rw [List.take_of_length_le (by omega),List.take_of_length_le (by have:=zaa HL;omega)]at h
      simpa using h
     have HD:=hide hd
     clear hd ht
     subst e
     go_wp2
     go_ret
     exact⟨by rw [zaa HD];rfl,hB⟩
 ·have hd:decide (a=b)=false:=by
   simp only [decide_eq_false_iff_not]
   intro h;subst h;exact hl rfl
  have hne:((a.length:Int) != (b.length:Int))=true:=by simp;omega
  have HD:=hide hd
  clear hd
  obtain⟨a1,c1,rfl,_⟩:=hu.shape
  obtain⟨a2,c2,rfl,_⟩:=hv.shape
  go_enter Tryz.func101,Tryz.ntmps101
  go_wp2
  go_ret
  exact⟨by rw [zaa HD];rfl,Below.refl _ _⟩
theorem ziR (w:World) (u v:Value) (a:List Int) (hu:Byt w u a) (hv:Byt w v a):Calls Tryz.prog 8 #[u,v] w fun e w'=>e=.returned (.bool true)∧Below w.heap.size w w':=by
 refine (zlR w u v a a hu hv).mono ?_
 rintro e w' ⟨rfl,h⟩
 exact⟨by simp,h⟩
theorem zfA (w:World) (n r:Int):Calls Tryz.prog 67 #[.agg #[.int .i64 n,.int .i64 r],.agg #[.int .i64 n,.int .i64 r]] w fun e w'=>e=.returned (.bool true)∧Below w.heap.size w w':=by
 refine (zke w n r n r).mono ?_
 rintro e w' ⟨rfl,h⟩
 exact⟨by simp [zdV],h⟩
theorem zpb (w:World) (u v:Value) (a:List Int) (hu:Ints w u a) (hv:Ints w v a):Calls Tryz.prog 101 #[u,v] w fun e w'=>e=.returned (.bool true)∧Below w.heap.size w w':=by
 refine (zrn w u v a a hu hv).mono ?_
 rintro e w' ⟨rfl,h⟩
 exact⟨by simp,h⟩
set_option maxHeartbeats 3200000 in
theorem zoO (w:World) (u v:Value) (o:OpV) (hu:RdOp w u o) (hv:RdOp w v o) :
  Calls Tryz.prog 66 #[u,v] w fun e w'=>e=.returned (.bool true)∧Below w.heap.size w w':=by
 obtain⟨k1,n1,t1,rfl,hk1,hn1,ht1⟩:=hu
 obtain⟨k2,n2,t2,rfl,hk2,hn2,ht2⟩:=hv
 obtain⟨ak1,ck1,rfl,_,_⟩:=hk1.shape
 obtain⟨an1,cn1,rfl,_,_⟩:=hn1.shape
 obtain⟨at1,ct1,rfl,_,_⟩:=ht1.shape
 obtain⟨ak2,ck2,rfl,_,_⟩:=hk2.shape
 obtain⟨an2,cn2,rfl,_,_⟩:=hn2.shape
 obtain⟨at2,ct2,rfl,_,_⟩:=ht2.shape
 have H:=hide (And.intro hk1 (And.intro hn1 (And.intro ht1 (And.intro hk2 (And.intro hn2 ht2)))))
 clear hk1 hn1 ht1 hk2 hn2 ht2
 unfold zaU
 have hA:Below w.heap.size w ((w.alloc (.cells #[.int .i64 o.kind,.int .i64 o.atN,.int .i64 o.atR,.int .i64 o.nodeN,.int .i64 o.nodeR,.int .i64 o.parN,.int .i64 o.parR,.slice ak1 o.key.length ck1,.int .i64 o.elem,.slice an1 o.name.length cn1,.slice at1 o.text.length ct1,.bool o.gone] 83)).alloc (.cells #[.int .i64 o.kind,.int .i64 o.atN,.int .i64 o.atR,.int .i64 o.nodeN,.int .i64 o.nodeR,.int .i64 o.parN,.int .i64 o.parR,.slice ak2 o.key.length ck2,.int .i64 o.elem,.slice an2 o.name.length cn2,.slice at2 o.text.length ct2,.bool o.gone] 83)):=((Below.refl _ _).alloc (Nat.le_refl _) _).alloc (by simp) _
 go_enter Tryz.func66,Tryz.ntmps66
 go_wp2_with fail
 generalize hW:((w.alloc (.cells #[.int .i64 o.kind,.int .i64 o.atN,.int .i64 o.atR,.int .i64 o.nodeN,.int .i64 o.nodeR,.int .i64 o.parN,.int .i64 o.parR,.slice ak1 o.key.length ck1,.int .i64 o.elem,.slice an1 o.name.length cn1,.slice at1 o.text.length ct1,.bool o.gone] 83)).alloc (.cells #[.int .i64 o.kind,.int .i64 o.atN,.int .i64 o.atR,.int .i64 o.nodeN,.int .i64 o.nodeR,.int .i64 o.parN,.int .i64 o.parR,.slice ak2 o.key.length ck2,.int .i64 o.elem,.slice an2 o.name.length cn2,.slice at2 o.text.length ct2,.bool o.gone] 83))=W at *
 have HW:=hide hW
 clear hW
 refine (zfA _ o.atN o.atR).mono ?_
 rintro e w1 ⟨rfl,hB1⟩
 have c11_3:=cell_later hB1 (show W.cell? ⟨w.heap.size,3,none⟩=some (.int .i64 o.nodeN) by rw [←zaa HW];simp)
 have c11_4:=cell_later hB1 (show W.cell? ⟨w.heap.size,4,none⟩=some (.int .i64 o.nodeR) by rw [←zaa HW];simp)
 have c11_5:=cell_later hB1 (show W.cell? ⟨w.heap.size,5,none⟩=some (.int .i64 o.parN) by rw [←zaa HW];simp)
 have c11_6:=cell_later hB1 (show W.cell? ⟨w.heap.size,6,none⟩=some (.int .i64 o.parR) by rw [←zaa HW];simp)
 have c11_7:=cell_later hB1 (show W.cell? ⟨w.heap.size,7,none⟩=some (.slice ak1 o.key.length ck1) by rw [←zaa HW];simp)
 have c11_8:=cell_later hB1 (show W.cell? ⟨w.heap.size,8,none⟩=some (.int .i64 o.elem) by rw [←zaa HW];simp)
 have c11_9:=cell_later hB1 (show W.cell? ⟨w.heap.size,9,none⟩=some (.slice an1 o.name.length cn1) by rw [←zaa HW];simp)
 have c11_10:=cell_later hB1 (show W.cell? ⟨w.heap.size,10,none⟩=some (.slice at1 o.text.length ct1) by rw [←zaa HW];simp)
 have c11_11:=cell_later hB1 (show W.cell? ⟨w.heap.size,11,none⟩=some (.bool o.gone) by rw [←zaa HW];simp)
 have c12_3:=cell_later hB1 (show W.cell? ⟨w.heap.size+1,3,none⟩=some (.int .i64 o.nodeN) by rw [←zaa HW];simp)
 have c12_4:=cell_later hB1 (show W.cell? ⟨w.heap.size+1,4,none⟩=some (.int .i64 o.nodeR) by rw [←zaa HW];simp)
 have c12_5:=cell_later hB1 (show W.cell? ⟨w.heap.size+1,5,none⟩=some (.int .i64 o.parN) by rw [←zaa HW];simp)
 have c12_6:=cell_later hB1 (show W.cell? ⟨w.heap.size+1,6,none⟩=some (.int .i64 o.parR) by rw [←zaa HW];simp)
 have c12_7:=cell_later hB1 (show W.cell? ⟨w.heap.size+1,7,none⟩=some (.slice ak2 o.key.length ck2) by rw [←zaa HW];simp)
 have c12_8:=cell_later hB1 (show W.cell? ⟨w.heap.size+1,8,none⟩=some (.int .i64 o.elem) by rw [←zaa HW];simp)
 have c12_9:=cell_later hB1 (show W.cell? ⟨w.heap.size+1,9,none⟩=some (.slice an2 o.name.length cn2) by rw [←zaa HW];simp)
 have c12_10:=cell_later hB1 (show W.cell? ⟨w.heap.size+1,10,none⟩=some (.slice at2 o.text.length ct2) by rw [←zaa HW];simp)
 have c12_11:=cell_later hB1 (show W.cell? ⟨w.heap.size+1,11,none⟩=some (.bool o.gone) by rw [←zaa HW];simp)
 replace hA:=zad hA hB1
 clear hB1 HW
 go_wp2_with fail
 refine (zfA _ o.nodeN o.nodeR).mono ?_
 rintro e w2 ⟨rfl,hB2⟩
 have c21_5:=cell_later hB2 c11_5
 have c21_6:=cell_later hB2 c11_6
 have c21_7:=cell_later hB2 c11_7
 have c21_8:=cell_later hB2 c11_8
 have c21_9:=cell_later hB2 c11_9
 have c21_10:=cell_later hB2 c11_10
 have c21_11:=cell_later hB2 c11_11
 have c22_5:=cell_later hB2 c12_5
 have c22_6:=cell_later hB2 c12_6
 have c22_7:=cell_later hB2 c12_7
 have c22_8:=cell_later hB2 c12_8
 have c22_9:=cell_later hB2 c12_9
 have c22_10:=cell_later hB2 c12_10
 have c22_11:=cell_later hB2 c12_11
 replace hA:=zad hA hB2
 clear c11_3 c11_4 c11_5 c11_6 c11_7 c11_8 c11_9 c11_10 c11_11 c12_3 c12_4 c12_5 c12_6 c12_7 c12_8 c12_9 c12_10 c12_11
 clear hB2
 go_wp2_with fail
 refine (zfA _ o.parN o.parR).mono ?_
 rintro e w3 ⟨rfl,hB3⟩
 have c31_7:=cell_later hB3 c21_7
 have c31_8:=cell_later hB3 c21_8
 have c31_9:=cell_later hB3 c21_9
 have c31_10:=cell_later hB3 c21_10
 have c31_11:=cell_later hB3 c21_11
 have c32_7:=cell_later hB3 c22_7
 have c32_8:=cell_later hB3 c22_8
 have c32_9:=cell_later hB3 c22_9
 have c32_10:=cell_later hB3 c22_10
 have c32_11:=cell_later hB3 c22_11
 replace hA:=zad hA hB3
 clear c21_5 c21_6 c21_7 c21_8 c21_9 c21_10 c21_11 c22_5 c22_6 c22_7 c22_8 c22_9 c22_10 c22_11
 clear hB3
 go_wp2_with fail
 refine (zpb _ _ _ o.key ((zaa H).1.keep hA) ((zaa H).2.2.2.1.keep hA)).mono ?_
 rintro e w4 ⟨rfl,hB4⟩
 have c41_8:=cell_later hB4 c31_8
 have c41_9:=cell_later hB4 c31_9
 have c41_10:=cell_later hB4 c31_10
 have c41_11:=cell_later hB4 c31_11
 have c42_8:=cell_later hB4 c32_8
 have c42_9:=cell_later hB4 c32_9
 have c42_10:=cell_later hB4 c32_10
 have c42_11:=cell_later hB4 c32_11
 replace hA:=zad hA hB4
 clear c31_7 c31_8 c31_9 c31_10 c31_11 c32_7 c32_8 c32_9 c32_10 c32_11
 clear hB4
 go_wp2_with fail
 refine (ziR _ _ _ o.name ((zaa H).2.1.keep hA) ((zaa H).2.2.2.2.1.keep hA)).mono ?_
 rintro e w5 ⟨rfl,hB5⟩
 have c51_10:=cell_later hB5 c41_10
 have c51_11:=cell_later hB5 c41_11
 have c52_10:=cell_later hB5 c42_10
 have c52_11:=cell_later hB5 c42_11
 replace hA:=zad hA hB5
 clear c41_8 c41_9 c41_10 c41_11 c42_8 c42_9 c42_10 c42_11
 clear hB5
 go_wp2_with fail
 refine (ziR _ _ _ o.text ((zaa H).2.2.1.keep hA) ((zaa H).2.2.2.2.2.keep hA)).mono ?_
 rintro e w6 ⟨rfl,hB6⟩
 have c61_11:=cell_later hB6 c51_11
 have c62_11:=cell_later hB6 c52_11
 replace hA:=zad hA hB6
 clear c51_10 c51_11 c52_10 c52_11
 clear hB6
 go_wp2_with fail
 go_ret
 exact⟨rfl,hA⟩
theorem Tryz.info3:(Tryz.prog.info? 3).map (fun i=>(i.zero,i.size,i.bytes))=some (some (.int .i64 0),1,8):=by kernel_rfl
def zbV (l:List Int) (k:Nat):List Int:=l.take k++List.replicate (l.length-k) 0
theorem ziS (l:List Int) (k:Nat) (h:k≤l.length):(zbV l k).length=l.length:=by simp [zbV];omega
theorem zeT (l:List Int):valz (zbV l 0)=(madeCells #[Value.int .i64 0] l.length).toList:=by
 rw [toList_madeCells_one]
 simp [zbV,valz]
theorem znu (l:List Int):zbV l l.length=l:=by simp [zbV]
theorem zjx (l:List Int) (k i:Nat) (hk:k≤l.length):(zbV l k)[i]? = if i<k then l[i]? else if i<l.length then some 0 else none:=by
 have hm:min k l.length=k:=by omega
 unfold zbV
 rw [List.getElem?_append,List.length_take,hm]
 by_cases h:i<k
 ·simp [h]
 ·rw [if_neg h,if_neg h,List.getElem?_replicate]
  by_cases h2:i<l.length
  ·rw [if_pos h2,if_pos (by omega)]
  ·rw [if_neg h2,if_neg (by omega)]
theorem zmn (l:List Int) (k:Nat) (h:k<l.length):(valz (zbV l k)).set k (.int .i64 (l.getD k 0))=valz (zbV l (k+1)):=by
 apply List.ext_getElem?
 intro i
 unfold valz
 rw [List.getElem?_set,List.getElem?_map,List.getElem?_map,zjx l k i (by omega),zjx l (k+1) i (by omega),List.length_map,ziS l k (by omega)]
 by_cases hk:k=i
 ·subst hk;rw [if_pos rfl,if_pos h,if_pos (by omega)];simp [h]
 ·rw [if_neg hk]
  by_cases h2:i<k
  ·rw [if_pos h2,if_pos (by omega)]
  ·rw [if_neg h2,if_neg (show ¬ i<k+1 by omega)]
set_option maxHeartbeats 1600000 in
set_option maxRecDepth 1000000 in
theorem zrC (w:World) (v:Value) (l:List Int) (h:Ints w v l) (hs:l.length≤2097152) :
  Calls Tryz.prog 82 #[v] w fun e w'=>∃v',e=.returned v'∧OwnZ w' w.heap.size v' l∧v'≠.slice none 0 0∧Below w.heap.size w w':=by
 obtain⟨i0,hi,hz0,hz1,hz2⟩:=info_parts Tryz.info3
 obtain⟨hok,hm,⟨rfl,rfl⟩ | ⟨x,cap,rfl,hc,rfl⟩ | ⟨b,off,cap,rfl,h1,h2,h3,h4,h5⟩⟩:=h
 ·go_enter Tryz.func82,Tryz.ntmps82
  go_wp2_with (at_make;refine wpList_make_full _ rfl _ _ 75 rfl w.heap.size 3 i0 (.int .i64 0) 1 Tryz.underlying75 hi hz0 hz1 .i64 .i64 _ _ 0 rfl rfl rfl rfl ?c1 ?c2 ?c3 ?_)
  case c1=>omega
  case c2=>exact hm
  case c3=>exact Nat.le_refl _
  intro w1 hown hgrow
  have hB1:=Below.ofGrown hgrow
  have hown1:w1.ownsRow w.heap.size 3 1 (.slice (some ⟨w.heap.size,0,none⟩) 0 0) 0 (valz []):=by have e:=zeT [];rw [show zbV [] 0=[] from rfl]at e;rw [e];exact hown
  clear hown hgrow
  go_wp2
  refine wp_loop_rounds 1 ?_
  rw [rounds_succ]
  go_wp2
  go_ret
  exact⟨_,rfl,⟨zdc,hown1⟩,by simp,hB1⟩
 ·go_enter Tryz.func82,Tryz.ntmps82
  go_wp2_with (at_make;refine wpList_make_full _ rfl _ _ 75 rfl w.heap.size 3 i0 (.int .i64 0) 1 Tryz.underlying75 hi hz0 hz1 .i64 .i64 _ _ 0 rfl rfl rfl rfl ?c1 ?c2 ?c3 ?_)
  case c1=>omega
  case c2=>exact hm
  case c3=>exact Nat.le_refl _
  intro w1 hown hgrow
  have hB1:=Below.ofGrown hgrow
  have hown1:w1.ownsRow w.heap.size 3 1 (.slice (some ⟨w.heap.size,0,none⟩) 0 0) 0 (valz []):=by have e:=zeT [];rw [show zbV [] 0=[] from rfl]at e;rw [e];exact hown
  clear hown hgrow
  go_wp2
  refine wp_loop_rounds 1 ?_
  rw [rounds_succ]
  go_wp2
  go_ret
  exact⟨_,rfl,⟨zdc,hown1⟩,by simp,hB1⟩
 ·go_enter Tryz.func82,Tryz.ntmps82
  go_wp2_with (at_make;refine wpList_make_full _ rfl _ _ 75 rfl w.heap.size 3 i0 (.int .i64 0) 1 Tryz.underlying75 hi hz0 hz1 .i64 .i64 _ _ l.length rfl rfl rfl rfl ?c1 ?c2 ?c3 ?_)
  case c1=>rw [hz2];omega
  case c2=>exact hm
  case c3=>exact Nat.le_refl _
  intro w1 hown hgrow
  have hB1:=Below.ofGrown hgrow
  have hown1:w1.ownsRow w.heap.size 3 1 (.slice (some ⟨w.heap.size,0,none⟩) l.length l.length) l.length (valz (zbV l 0)):=by rw [zeT];exact hown
  clear hown hgrow
  go_wp2
  go_loopw [4] (fun i wr=>∃k:Nat,k≤l.length∧i=.int .i64 k∧wr.ownsRow w.heap.size 3 1 (.slice (some ⟨w.heap.size,0,none⟩) l.length l.length) l.length (valz (zbV l k))∧Below w.heap.size w wr) (fun i _=>l.length-(intOf i).toNat)
  case atStart=>exact⟨0,Nat.zero_le _,rfl,hown1,hB1⟩
  case round=>
   obtain⟨k,hk,rfl,hw,hB⟩:=hrel
   clear hown1 hB1
   have hcx:k<l.length→wr.cell? ⟨b,off+k,none⟩=some (.int .i64 (l.getD k 0)):=fun hlt=>(hB.cell (p:=⟨b,off+k,none⟩) h4).trans (h5 k hlt)
   have hcy:k<l.length→wr.cell? ⟨w.heap.size,k,none⟩=some (.int .i64 ((zbV l k).getD k 0)):=fun hlt=>by
    rw [hw.cellAt k (by omega),zeM (by rw [ziS l k hk];exact hlt)]
   have hfr:=hw.frozenAt k
   have hst:=hw.stored k (.int .i64 (l.getD k 0))
   have R:k<l.length→(wr.setCell ⟨w.heap.size,k,none⟩ (.int .i64 (l.getD k 0))).ownsRow w.heap.size 3 1 (.slice (some ⟨w.heap.size,0,none⟩) l.length l.length) l.length (valz (zbV l (k+1)))∧Below w.heap.size w (wr.setCell ⟨w.heap.size,k,none⟩ (.int .i64 (l.getD k 0))):=fun hlt=>by
    rw [←zmn l k hlt]
    exact⟨hst.1,hB.setCell (p:=⟨w.heap.size,k,none⟩) (Nat.le_refl _) _⟩
   have HR:=hide R
   clear R hst
   go_wp2
   ·have hlt:k<l.length:=by assumption
    have R:=zaa HR hlt
    rw [zcF hlt]at R
    go_roundw
    case rel=>exact⟨k+1,by omega,by go_num,R.1,R.2⟩
    case measure=>simp [intOf];omega
   ·have e:k=l.length:=by omega
    subst e
    go_ret
    rw [znu]at hw
    exact⟨_,rfl,⟨hok,hw⟩,by simp,hB⟩
end Go.Proofs.YtlpnibbdmkeklaaGreatDoor
