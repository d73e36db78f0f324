/- Own texts joined: NodeS, Tool, MkupS, TagW, NodeW. -/
import Derived.Test.YtgjolijncmkkhaaGreatDoorQa
namespace Go.Proofs.YtgjolijncmkkhaaGreatDoor
open Go.RowKit
set_option linter.unusedVariables false
def okK {α:Type} (f:α->Int->Bool×Int):List α->Int->Bool×Int
 | [],left=>(true,left)
 | x::r,left=>if (f x left).1=true then okK f r (f x left).2 else (false,(f x left).2)
def zba (l:Xg):Bool:=decide (l=[98,114]) || decide (l=[104,114])
theorem zdF (l:Xg):zba l=true↔Void l:=by unfold zba Void;rw [Bool.or_eq_true,decide_eq_true_eq,decide_eq_true_eq]
def ztJ (l:List (Xg×Xg)) (i:Nat):Bool:=zaJ (l.getD i ([],[])).1 && zoZ (l.getD i ([],[])).2 && (decide (i=0) || zfd (l.getD (i-1) ([],[])).1 (l.getD i ([],[])).1)
theorem zoE (l:List (Xg×Xg)) (i:Nat):ztJ l i=true↔zda l i:=by
 unfold ztJ zda
 rw [Bool.and_eq_true,Bool.and_eq_true,zby,zop,Bool.or_eq_true,decide_eq_true_eq,and_assoc]
 constructor
 ·rintro⟨h1,h2,h3⟩
  exact⟨h1,h2,fun h=>h3.resolve_left (by omega)⟩
 ·rintro⟨h1,h2,h3⟩
  refine⟨h1,h2,?_⟩
  by_cases h:i=0
  ·exact .inl h
  ·exact .inr (h3 (by omega))
def zpv (l:List (Xg×Xg)):Bool:=decide (l.length<=4) && (List.range l.length).all (ztJ l)
theorem zuu (l:List (Xg×Xg)):zpv l=true↔zaC l:=by
 unfold zpv zaC
 rw [Bool.and_eq_true,decide_eq_true_eq,List.all_eq_true]
 constructor
 ·rintro⟨h1,h2⟩;exact⟨h1,fun i hi=>(zoE l i).1 (h2 i (List.mem_range.2 hi))⟩
 ·rintro⟨h1,h2⟩;exact⟨h1,fun i hi=>(zoE l i).2 (h2 i (List.mem_range.1 hi))⟩
def zqM {α:Type} (t:Nd α):Prop:=t.name.length=0∧t.attrs.length=0∧t.kids.length=0∧zar t.text
def zbk {α:Type} (t:Nd α):Bool:=decide (t.name.length=0) && decide (t.attrs.length=0) && decide (t.kids.length=0) && zoZ t.text
theorem zbK {α:Type} (t:Nd α):zbk t=true↔zqM t:=by
 unfold zbk zqM
 rw [Bool.and_eq_true,Bool.and_eq_true,Bool.and_eq_true,zop,decide_eq_true_eq,decide_eq_true_eq,decide_eq_true_eq,and_assoc,and_assoc]
def ziw {α:Type} (t:Nd α):Prop:=t.kind=0∧zat t.name∧t.text.length=0∧zaC t.attrs∧¬ (Void t.name∧0<t.kids.length)
def zbq {α:Type} (t:Nd α):Bool:=decide (t.kind=0) && zaJ t.name && decide (t.text.length=0) && zpv t.attrs && !(zba t.name && decide (0<t.kids.length))
theorem zbH {α:Type} (t:Nd α):zbq t=true↔ziw t:=by
 unfold zbq ziw
 rw [Bool.and_eq_true,Bool.and_eq_true,Bool.and_eq_true,Bool.and_eq_true,zby,zuu,decide_eq_true_eq,decide_eq_true_eq,Bool.not_eq_true',<-Bool.not_eq_true,Bool.and_eq_true,zdF,decide_eq_true_eq,and_assoc,and_assoc,and_assoc]
def okT:(n:Nat)->Int->Tr n->Int->Bool×Int
 | 0=>fun _ t _=>t.elim
 | n+1=>fun deep t left=>if left-1<0∨20<deep then (false,left-1) else if t.kind=1 then (zbk t,left-1) else if zbq t=true then okK (okT n (deep+1)) t.kids (left-1) else (false,left-1)
theorem zdy (n:Nat) (deep:Int) (t:Tr (n+1)) (left:Int):okT (n+1) deep t left=if left-1<0∨20<deep then (false,left-1) else if t.kind=1 then (zbk t,left-1) else if zbq t=true then okK (okT n (deep+1)) t.kids (left-1) else (false,left-1):=rfl
theorem zyz {α:Type} {f:α->Int->Bool×Int} {l:List α} {k:Nat} {left:Int} (h:k<l.length):okK f (l.drop k) left=if (f l[k] left).1=true then okK f (l.drop (k+1)) (f l[k] left).2 else (false,(f l[k] left).2):=by
 rw [List.drop_eq_getElem_cons h];rfl
theorem zwC {α:Type} {f:α->Int->Bool×Int} (hf:∀x left,0<=left->-1<=(f x left).2∧(f x left).2<=left∧((f x left).1=true->0<=(f x left).2)) (l:List α) (left:Int) (h0:0<=left) : -1<=(okK f l left).2∧(okK f l left).2<=left∧((okK f l left).1=true->0<=(okK f l left).2):=by
 induction l generalizing left with
 | nil=>exact⟨by simp [okK];omega,by simp [okK],fun _=>by simpa [okK]using h0⟩
 | cons x r ih=>
  have h:=hf x left h0
  rw [okK]
  by_cases hb:(f x left).1=true
  ·rw [if_pos hb]
   have:=ih (f x left).2 (h.2.2 hb)
   exact⟨this.1,by omega,this.2.2⟩
  ·rw [if_neg hb]
   exact⟨h.1,h.2.1,fun e=>by cases e⟩
theorem znY (n:Nat) (deep:Int) (t:Tr n) (left:Int) (h0:0<=left) : -1<=(okT n deep t left).2∧(okT n deep t left).2<=left∧((okT n deep t left).1=true->0<=(okT n deep t left).2):=by
 induction n generalizing deep left with
 | zero=>exact t.elim
 | succ n ih=>
  unfold okT
  by_cases h1:left-1<0∨20<deep
  ·rw [if_pos h1];exact⟨by simp;omega,by simp;omega,fun e=>by cases e⟩
  ·rw [if_neg h1]
   by_cases h2:t.kind=1
   ·rw [if_pos h2];exact⟨by simp;omega,by simp;omega,fun _=>by simp;omega⟩
   ·rw [if_neg h2]
    by_cases h3:zbq t=true
    ·rw [if_pos h3]
     have:=zwC (f:=okT n (deep+1)) (fun x l hl=>ih (deep+1) x l hl) t.kids (left-1) (by omega)
     exact⟨this.1,by omega,this.2.2⟩
    ·rw [if_neg h3];exact⟨by simp;omega,by simp;omega,fun e=>by cases e⟩
theorem znb (w:Xk) (v:Xl) (l:Xg) (h:Byt w v l) (hn:Void l):Calls Tryz.prog 77 #[v] w fun e w'=>e=.returned (.bool true)∧w'=w:=by
 refine (zon w v l h).mono ?_
 rintro e w' ⟨rfl,h⟩
 exact⟨by simp [hn],h⟩
theorem zyl (w:Xk) (v:Xl) (l:Xg) (h:Byt w v l) (hn:¬ Void l):Calls Tryz.prog 77 #[v] w fun e w'=>e=.returned (.bool false)∧w'=w:=by
 refine (zon w v l h).mono ?_
 rintro e w' ⟨rfl,h⟩
 exact⟨by simp [hn],h⟩
theorem zhf (w:Xk) (v:Xl) (l:List (Xg×Xg)) (h:RdAttrs w v l) (hn:zaC l):Calls Tryz.prog 76 #[v] w fun e w'=>e=.returned (.bool true)∧Below w.heap.size w w':=by
 refine (zmi w v l h).mono ?_
 rintro e w' ⟨rfl,h⟩
 exact⟨by simp [hn],h⟩
theorem zxj (w:Xk) (v:Xl) (l:List (Xg×Xg)) (h:RdAttrs w v l) (hn:¬ zaC l):Calls Tryz.prog 76 #[v] w fun e w'=>e=.returned (.bool false)∧Below w.heap.size w w':=by
 refine (zmi w v l h).mono ?_
 rintro e w' ⟨rfl,h⟩
 exact⟨by simp [hn],h⟩
def zhe (n:Nat):Prop:=∀(w0 w:Xk) (a b c d e:Xl) (t:Tr n) (deep left:Int) (g:Nat),RdNode n w0 [a,b,c,d,e] t->Below w0.heap.size w0 w->w0.heap.size<=g->Loc w g #[.int .i64 left] 3->0<=left->left<=1000000->0<=deep->deep<=1000->
  Calls Tryz.prog 37 #[.agg #[a,b,c,d,e],.int .i64 deep,.pointer (some ⟨g,0,none⟩)] w fun e w'=>e=.returned (.bool (okT n deep t left).1)∧Loc w' g #[.int .i64 (okT n deep t left).2] 3∧Frm w w' [g]
theorem zAb (w:Xk) (g:Nat) (left x:Int) (A:Array Xl) (T:Xm) (h:Loc w g #[.int .i64 left] 3):Loc ((w.setCell ⟨g,0,none⟩ (.int .i64 x)).alloc (.cells A T)) g #[.int .i64 x] 3∧Loc ((w.setCell ⟨g,0,none⟩ (.int .i64 x)).alloc (.cells A T)) w.heap.size A T∧Frm w ((w.setCell ⟨g,0,none⟩ (.int .i64 x)).alloc (.cells A T)) [g]:=by
 refine⟨(h.set 0 _).alloc _,?_,(zaq _ _ _ _).trans (Frm.ofBelow ((Below.refl _ _).alloc (Nat.le_refl _) _) [g])⟩
 have:=Loc.made (w.setCell ⟨g,0,none⟩ (.int .i64 x)) A T
 simpa using this
set_option maxHeartbeats 3200000 in
theorem zrz (n:Nat) (H:zhe n):zhe (n+1):=by
 intro w0 w a b c d e t deep left g hr hB hg hl h0 h1 da ca
 have Ia:=hr
 obtain⟨_,_,_,_,e0,k1,k2,hb,hc,hd,he⟩:=hr
 simp only [List.cons.injEq,and_true]at e0
 obtain⟨rfl,rfl,rfl,rfl,rfl⟩:=e0
 obtain⟨ab,cb,rfl,_,_⟩:=hb.shape
 obtain⟨ac,cc,rfl,_,_⟩:=hc.shape
 obtain⟨ad,cd,rfl,_,_⟩:=Elems.shape hd
 obtain⟨ae,ce,rfl,_,_⟩:=Elems.shape he
 obtain⟨lg,lb,hf⟩:=zAb w g left (left-1) #[.int .i64 t.kind,.slice ab t.name.length cb,.slice ac t.text.length cc,.slice ad t.attrs.length cd,.slice ae t.kids.length ce] 29 hl
 have ea:=hl.lt
 have Ya:=hl.cell 0
 have ga:=hl.frozen 0
 simp at Ya
 have ba:w.heap.size≠g:=by omega
 by_cases hA:left-1<0
 ·have HE:=hide (show okT (n+1) deep t left=(false,left-1) by unfold okT;rw [if_pos (.inl hA)])
  have HP:=hide (And.intro lg hf)
  clear lg lb hf hl
  go_enter Tryz.func37,Tryz.ntmps37
  go_wp2_with fail
  go_ret
  exact⟨by rw [zaa HE];rfl,by rw [zaa HE];exact (zaa HP).1,(zaa HP).2⟩
 have ia:decide (left-1<0)=false:=by simpa using hA
 by_cases hD:20<deep
 ·have HE:=hide (show okT (n+1) deep t left=(false,left-1) by unfold okT;rw [if_pos (.inr hD)])
  have HP:=hide (And.intro lg hf)
  clear lg lb hf hl
  go_enter Tryz.func37,Tryz.ntmps37
  go_wp2_with fail
  go_ret
  exact⟨by rw [zaa HE];rfl,by rw [zaa HE];exact (zaa HP).1,(zaa HP).2⟩
 have ka:¬ 20<deep:=hD
 have Ma:=hB.trans (hf.below hB.size (fun q hq=>by simp at hq;omega))
 by_cases hK:t.kind=1
 ·have Ga:okT (n+1) deep t left=(zbk t,left-1):=by unfold okT;rw [if_neg (by omega),if_pos hK]
  have dk:(t.kind == 1)=true:=by simp [hK]
  have HP:=hide (And.intro lg hf)
  have Da:=hide Ma
  clear lg lb hf hl Ma
  by_cases q1:t.name.length=0
  ·have d1:((t.name.length:Int) == 0)=true:=beq_iff_eq.2 (by omega)
   by_cases q2:t.attrs.length=0
   ·have d2:((t.attrs.length:Int) == 0)=true:=beq_iff_eq.2 (by omega)
    by_cases q3:t.kids.length=0
    ·have d3:((t.kids.length:Int) == 0)=true:=beq_iff_eq.2 (by omega)
     by_cases q4:zar t.text
     ·have HE:=hide (Ga.trans (by rw [(zbK t).2 ⟨q1,q2,q3,q4⟩]:(zbk t,left-1)=(true,left-1)))
      have HQ:=hide q4
      clear Ga q1 q2 q3 q4 hK
      go_enter Tryz.func37,Tryz.ntmps37
      go_wp2_with fail
      refine (zgk _ _ t.text (hc.keep (zaa Da)) (zaa HQ)).mono ?_
      rintro e w1 ⟨rfl,rfl⟩
      go_wp2_with fail
      go_ret
      exact⟨by rw [zaa HE];rfl,by rw [zaa HE];exact (zaa HP).1,(zaa HP).2⟩
     ·have HE:=hide (Ga.trans (by rw [Bool.eq_false_iff.2 (fun h=>q4 ((zbK t).1 h).2.2.2)]:(zbk t,left-1)=(false,left-1)))
      have HQ:=hide q4
      clear Ga q1 q2 q3 q4 hK
      go_enter Tryz.func37,Tryz.ntmps37
      go_wp2_with fail
      refine (zrr _ _ t.text (hc.keep (zaa Da)) (zaa HQ)).mono ?_
      rintro e w1 ⟨rfl,rfl⟩
      go_wp2_with fail
      go_ret
      exact⟨by rw [zaa HE];rfl,by rw [zaa HE];exact (zaa HP).1,(zaa HP).2⟩
    ·have d3:((t.kids.length:Int) == 0)=false:=beq_eq_false_iff_ne.2 (by omega)
     have HE:=hide (Ga.trans (by rw [Bool.eq_false_iff.2 (fun h=>q3 ((zbK t).1 h).2.2.1)]:(zbk t,left-1)=(false,left-1)))
     clear Ga q1 q2 q3 hK
     go_enter Tryz.func37,Tryz.ntmps37
     go_wp2_with fail
     go_ret
     exact⟨by rw [zaa HE];rfl,by rw [zaa HE];exact (zaa HP).1,(zaa HP).2⟩
   ·have d2:((t.attrs.length:Int) == 0)=false:=beq_eq_false_iff_ne.2 (by omega)
    have HE:=hide (Ga.trans (by rw [Bool.eq_false_iff.2 (fun h=>q2 ((zbK t).1 h).2.1)]:(zbk t,left-1)=(false,left-1)))
    clear Ga q1 q2 hK
    go_enter Tryz.func37,Tryz.ntmps37
    go_wp2_with fail
    go_ret
    exact⟨by rw [zaa HE];rfl,by rw [zaa HE];exact (zaa HP).1,(zaa HP).2⟩
  ·have d1:((t.name.length:Int) == 0)=false:=beq_eq_false_iff_ne.2 (by omega)
   have HE:=hide (Ga.trans (by rw [Bool.eq_false_iff.2 (fun h=>q1 ((zbK t).1 h).1)]:(zbk t,left-1)=(false,left-1)))
   clear Ga q1 hK
   go_enter Tryz.func37,Tryz.ntmps37
   go_wp2_with fail
   go_ret
   exact⟨by rw [zaa HE];rfl,by rw [zaa HE];exact (zaa HP).1,(zaa HP).2⟩
 have dk:(t.kind == 1)=false:=by simpa using hK
 have Ba:¬ ziw t->okT (n+1) deep t left=(false,left-1):=fun h=>by unfold okT;rw [if_neg (by omega),if_neg hK,if_neg (fun e=>h ((zbH t).1 e))]
 have Aa:ziw t->okT (n+1) deep t left=okK (okT n (deep+1)) t.kids (left-1):=fun h=>by rw [zdy,if_neg (by omega),if_neg hK,if_pos ((zbH t).2 h)]
 have HP:=hide (And.intro lg (And.intro lb hf))
 have Da:=hide Ma
 clear lg lb hf hl Ma hK
 by_cases z0:t.kind=0
 ·have dz:(t.kind != 0)=false:=by simp [z0]
  by_cases z1:zat t.name
  ·by_cases z2:t.text.length=0
   ·by_cases z3:zaC t.attrs
    ·have H1:=hide z1
     have H3:=hide z3
     by_cases z4:Void t.name
     ·have H4:=hide z4
      by_cases z5:0<t.kids.length
      ·have HE:=hide (Ba (fun h=>h.2.2.2.2 ⟨z4,z5⟩))
       clear Ba Aa z0 z1 z3 z4 hc Ia he
       generalize t.text.length=nT at *
       generalize t.kids.length=nK at *
       subst z2
       have La:decide (0<nK)=true:=by simp;omega
       go_enter Tryz.func37,Tryz.ntmps37
       go_wp2_with fail
       refine (zbV _ _ t.name (hb.keep (zaa Da)) (zaa H1)).mono ?_
       rintro e w1 ⟨rfl,rfl⟩
       go_wp2_with fail
       refine (zhf _ _ t.attrs (hd.keep (zaa Da)) (zaa H3)).mono ?_
       rintro e w1 ⟨rfl,Ca⟩
       have lb:=(zaa HP).2.1.all Ca
       have u1:=lb.cell 1
       have u4:=lb.cell 4
       simp at u1 u4
       have Fa:=(zaa Da).trans (Ca.mono (zaa Da).size)
       have HQ:=hide (And.intro ((zaa HP).1.all Ca) ((zaa HP).2.2.trans (Frm.ofBelow Ca [g])))
       clear lb Ca
       go_wp2_with fail
       refine (znb _ _ t.name (hb.keep Fa) (zaa H4)).mono ?_
       rintro e w2 ⟨rfl,rfl⟩
       go_wp2_with fail
       go_ret
       exact⟨by rw [zaa HE];rfl,by rw [zaa HE];exact (zaa HQ).1,(zaa HQ).2⟩
      ·have HE:=hide (Aa ⟨z0,z1,z2,z3,fun h=>z5 h.2⟩)
       have Va:t.kids.length=0:=by omega
       have Xa:t.kids=[]:=List.eq_nil_of_length_eq_zero Va
       have HK:=hide (show okK (okT n (deep+1)) t.kids (left-1)=(true,left-1) by rw [Xa];rfl)
       clear he z5 Xa
       generalize t.kids.length=nK at *
       subst Va
       clear Ba Aa z0 z1 z3 z4 hc Ia
       generalize t.text.length=nT at *
       subst z2
       go_enter Tryz.func37,Tryz.ntmps37
       go_wp2_with fail
       refine (zbV _ _ t.name (hb.keep (zaa Da)) (zaa H1)).mono ?_
       rintro e w1 ⟨rfl,rfl⟩
       go_wp2_with fail
       refine (zhf _ _ t.attrs (hd.keep (zaa Da)) (zaa H3)).mono ?_
       rintro e w1 ⟨rfl,Ca⟩
       have lb:=(zaa HP).2.1.all Ca
       have u1:=lb.cell 1
       have u4:=lb.cell 4
       simp at u1 u4
       have Fa:=(zaa Da).trans (Ca.mono (zaa Da).size)
       have HQ:=hide (And.intro ((zaa HP).1.all Ca) (And.intro lb ((zaa HP).2.2.trans (Frm.ofBelow Ca [g]))))
       clear lb Ca
       go_wp2_with fail
       refine (znb _ _ t.name (hb.keep Fa) (zaa H4)).mono ?_
       rintro e w2 ⟨rfl,rfl⟩
       go_wp2_with fail
       refine wp_loop_rounds 1 ?_
       rw [rounds_succ]
       go_wp2_with fail
       go_ret
       exact⟨by rw [zaa HE,zaa HK];rfl,by rw [zaa HE,zaa HK];exact (zaa HQ).1,(zaa HQ).2.2⟩
     ·have H4:=hide z4
      have HE:=hide (Aa ⟨z0,z1,z2,z3,fun h=>z4 h.1⟩)
      clear Ba Aa z0 z1 z3 z4 hc Ia
      generalize t.text.length=nT at *
      subst z2
      go_enter Tryz.func37,Tryz.ntmps37
      go_wp2_with fail
      refine (zbV _ _ t.name (hb.keep (zaa Da)) (zaa H1)).mono ?_
      rintro e w1 ⟨rfl,rfl⟩
      go_wp2_with fail
      refine (zhf _ _ t.attrs (hd.keep (zaa Da)) (zaa H3)).mono ?_
      rintro e w1 ⟨rfl,Ca⟩
      have lb:=(zaa HP).2.1.all Ca
      have u1:=lb.cell 1
      have u4:=lb.cell 4
      simp at u1 u4
      have Fa:=(zaa Da).trans (Ca.mono (zaa Da).size)
      have HQ:=hide (And.intro ((zaa HP).1.all Ca) (And.intro lb ((zaa HP).2.2.trans (Frm.ofBelow Ca [g]))))
      clear lb Ca
      go_wp2_with fail
      refine (zyl _ _ t.name (hb.keep Fa) (zaa H4)).mono ?_
      rintro e w2 ⟨rfl,rfl⟩
      go_wp2_with fail
      go_loopw [7] (fun i wr=>∃(k:Nat) (lk:Int),k<=t.kids.length∧i=.int .i64 k∧0<=lk∧lk<=1000000∧Loc wr g #[.int .i64 lk] 3∧Loc wr w.heap.size #[.int .i64 t.kind,.slice ab t.name.length cb,.slice ac 0 cc,.slice ad t.attrs.length cd,.slice ae t.kids.length ce] 29∧Frm w wr [g]∧Hid (okK (okT n (deep+1)) t.kids (left-1)=okK (okT n (deep+1)) (t.kids.drop k) lk)) (fun i _=>t.kids.length-(intOf i).toNat)
      case atStart=>exact⟨0,left-1,Nat.zero_le _,rfl,by omega,by omega,(zaa HQ).1,(zaa HQ).2.1,(zaa HQ).2.2,hide rfl⟩
      case round=>
       obtain⟨k,lk,hk,rfl,Ra,Za,rg,rb,rf,HK⟩:=hrel
       have v4:=rb.cell 4
       simp at v4
       have ja:=Elems.shape he
       have Ha:Below w0.heap.size w0 wr:=hB.trans (rf.below hB.size (fun q hq=>by simp at hq;omega))
       by_cases hlt:k<t.kids.length
       ·have aa:=he.1
        obtain⟨_,⟨_,e⟩ | ⟨_,_,_,_,e⟩ | ⟨b,Ka,ha,e,g1,g2,g3,g4,g5⟩⟩:=he
        ·rw [e]at hlt;simp at hlt
        ·rw [e]at hlt;simp at hlt
        simp only [Value.slice.injEq,true_and]at e
        obtain⟨rfl,rfl⟩:=e
        obtain⟨c0,c1,c2,c3,c4,e0,e1,e2,e3,e4,hx⟩:=ziZ (g5 k hlt)
        replace e0:=(Ha.cell (p:=⟨b,Ka+k*5,none⟩) g4).trans e0
        replace e1:=(Ha.cell (p:=⟨b,Ka+k*5+1,none⟩) g4).trans e1
        replace e2:=(Ha.cell (p:=⟨b,Ka+k*5+2,none⟩) g4).trans e2
        replace e3:=(Ha.cell (p:=⟨b,Ka+k*5+3,none⟩) g4).trans e3
        replace e4:=(Ha.cell (p:=⟨b,Ka+k*5+4,none⟩) g4).trans e4
        have Oa:(k:Int)<(t.kids.length:Int):=by omega
        have Wa:=znY n (deep+1) t.kids[k] lk Ra
        have La:=zyz (f:=okT n (deep+1)) (left:=lk) hlt
        have HR:=hide (And.intro rg (And.intro rb rf))
        have Pa:=hide La
        have Qa:=hide Wa
        unfold maxLen at aa
        clear g5 rg rb rf La Wa HQ u1 u4
        go_wp2_with fail
        refine (H w0 wr c0 c1 c2 c3 c4 t.kids[k] (deep+1) lk g hx Ha hg (zaa HR).1 Ra Za (by omega) (by omega)).mono ?_
        rintro e w3 ⟨rfl,Ua,Na⟩
        have Sa:=(zaa HR).2.1.frm Na (by simp;omega)
        have Ta:=(zaa HR).2.2.trans Na
        have Ja:=hide (And.intro Ua (And.intro Sa Ta))
        clear Ua Na Sa Ta e0 e1 e2 e3 e4 hx v4 HR
        generalize okT n (deep+1) t.kids[k] lk=res at *
        obtain⟨rb,rl⟩:=res
        cases rb with
        | true=>
         have q1:0<=rl:=(zaa Qa).2.2 rfl
         have q2:rl<=lk:=(zaa Qa).2.1
         have HF:=hide ((zaa HK).trans ((zaa Pa).trans (if_pos rfl)))
         clear Qa Pa HK
         go_wp2_with fail
         go_roundw
         case rel=>exact⟨k+1,rl,by omega,by go_num,q1,by omega,(zaa Ja).1,(zaa Ja).2.1,(zaa Ja).2.2,HF⟩
         case measure=>simp [intOf];omega
        | false=>
         have HF:=hide ((zaa HK).trans ((zaa Pa).trans (if_neg (by simp))))
         go_wp2_with fail
         go_ret
         exact⟨by rw [zaa HE,zaa HF];rfl,by rw [zaa HE,zaa HF];exact (zaa Ja).1,(zaa Ja).2.2⟩
       ·have HF:=hide ((zaa HK).trans (show okK (okT n (deep+1)) (t.kids.drop k) lk=(true,lk) by rw [List.drop_of_length_le (by omega)];rfl))
        have Oa:¬ (k:Int)<(t.kids.length:Int):=by omega
        have HR:=hide (And.intro rg (And.intro rb rf))
        clear rg rb rf he HQ u1 u4 HK
        go_wp2_with fail
        go_ret
        exact⟨by rw [zaa HE,zaa HF];rfl,by rw [zaa HE,zaa HF];exact (zaa HR).1,(zaa HR).2.2⟩
    ·have HE:=hide (Ba (fun h=>z3 h.2.2.2.1))
     have H1:=hide z1
     have H3:=hide z3
     clear Ba Aa z0 z1 z3 hc Ia
     generalize t.text.length=nT at *
     subst z2
     go_enter Tryz.func37,Tryz.ntmps37
     go_wp2_with fail
     refine (zbV _ _ t.name (hb.keep (zaa Da)) (zaa H1)).mono ?_
     rintro e w1 ⟨rfl,rfl⟩
     go_wp2_with fail
     refine (zxj _ _ t.attrs (hd.keep (zaa Da)) (zaa H3)).mono ?_
     rintro e w1 ⟨rfl,Ca⟩
     go_wp2_with fail
     go_ret
     exact⟨by rw [zaa HE];rfl,by rw [zaa HE];exact (zaa HP).1.all Ca,(zaa HP).2.2.trans (Frm.ofBelow Ca [g])⟩
   ·have HE:=hide (Ba (fun h=>z2 h.2.2.1))
    have H1:=hide z1
    clear Ba Aa z0 z1 hc Ia
    generalize t.text.length=nT at *
    have fa:0<nT:=by omega
    have La:decide (0<nT)=true:=by simp;omega
    clear z2
    go_enter Tryz.func37,Tryz.ntmps37
    go_wp2_with fail
    refine (zbV _ _ t.name (hb.keep (zaa Da)) (zaa H1)).mono ?_
    rintro e w1 ⟨rfl,rfl⟩
    go_wp2_with fail
    go_ret
    exact⟨by rw [zaa HE];rfl,by rw [zaa HE];exact (zaa HP).1,(zaa HP).2.2⟩
  ·have HE:=hide (Ba (fun h=>z1 h.2.1))
   have H1:=hide z1
   clear Ba Aa z0 z1
   go_enter Tryz.func37,Tryz.ntmps37
   go_wp2_with fail
   refine (zqG _ _ t.name (hb.keep (zaa Da)) (zaa H1)).mono ?_
   rintro e w1 ⟨rfl,rfl⟩
   go_wp2_with fail
   go_ret
   exact⟨by rw [zaa HE];rfl,by rw [zaa HE];exact (zaa HP).1,(zaa HP).2.2⟩
 ·have dz:(t.kind != 0)=true:=by simp [z0]
  have HE:=hide (Ba (fun h=>z0 h.1))
  clear Ba Aa z0
  go_enter Tryz.func37,Tryz.ntmps37
  go_wp2_with fail
  go_ret
  exact⟨by rw [zaa HE];rfl,by rw [zaa HE];exact (zaa HP).1,(zaa HP).2.2⟩
theorem zui (n:Nat):zhe n:=by
 induction n with
 | zero=>exact fun _ _ _ _ _ _ _ t=>t.elim
 | succ n ih=>exact zrz n ih
def okN (n:Nat) (t:Tr (n+1)):Bool:=decide (t.kind=0) && (okT (n+1) 1 t 120).1
set_option maxHeartbeats 1600000 in
theorem zvV (n:Nat) (w:Xk) (a b c d e:Xl) (t:Tr (n+1)) (h:RdNode (n+1) w [a,b,c,d,e] t) :
  Calls Tryz.prog 16 #[.agg #[a,b,c,d,e]] w fun e w'=>e=.returned (.bool (okN n t))∧Below w.heap.size w w':=by
 have h':=h
 obtain⟨_,_,_,_,e0,k1,k2,hb,hc,hd,he⟩:=h
 simp only [List.cons.injEq,and_true]at e0
 obtain⟨rfl,rfl,rfl,rfl,rfl⟩:=e0
 obtain⟨ab,cb,rfl,_,_⟩:=hb.shape
 obtain⟨ac,cc,rfl,_,_⟩:=hc.shape
 obtain⟨ad,cd,rfl,_,_⟩:=Elems.shape hd
 obtain⟨ae,ce,rfl,_,_⟩:=Elems.shape he
 have hA:Below w.heap.size w ((w.alloc (.cells #[.int .i64 t.kind,.slice ab t.name.length cb,.slice ac t.text.length cc,.slice ad t.attrs.length cd,.slice ae t.kids.length ce] 29)).alloc (.cells #[.int .i64 120] 3)):=((Below.refl _ _).alloc (Nat.le_refl _) _).alloc (by simp) _
 have lg:=Loc.made (w.alloc (.cells #[.int .i64 t.kind,.slice ab t.name.length cb,.slice ac t.text.length cc,.slice ad t.attrs.length cd,.slice ae t.kids.length ce] 29)) #[.int .i64 120] 3
 simp only [World.size_alloc]at lg
 by_cases hk:t.kind=0
 ·have dk:(t.kind == 0)=true:=by simp [hk]
  have HE:=hide (show okN n t=(okT (n+1) 1 t 120).1 by unfold okN;simp [hk])
  have HP:=hide (And.intro hA lg)
  clear hA lg hk
  go_enter Tryz.func16,Tryz.ntmps16
  go_wp2_with fail
  refine (zui (n+1) w _ _ _ _ _ _ t 1 120 (w.heap.size+1) h' (zaa HP).1 (by omega) (zaa HP).2 (by omega) (by omega) (by omega) (by omega)).mono ?_
  rintro e w1 ⟨rfl,Ba,Aa⟩
  have HB:=hide ((zaa HP).1.trans (Aa.below (zaa HP).1.size (fun q hq=>by simp at hq;omega)))
  clear Ba Aa
  go_wp2_with fail
  go_ret
  exact⟨by rw [zaa HE];rfl,zaa HB⟩
 ·have dk:(t.kind == 0)=false:=by simpa using hk
  have HE:=hide (show okN n t=false by unfold okN;simp [hk])
  have HP:=hide hA
  clear hA lg hk
  go_enter Tryz.func16,Tryz.ntmps16
  go_wp2_with fail
  go_ret
  exact⟨by rw [zaa HE];rfl,zaa HP⟩
set_option maxRecDepth 100000
theorem two (w:Xk) (A Z:Array Xl) (TA T:Xm):Loc ((w.alloc (.cells A TA)).alloc (.cells Z T)) w.heap.size A TA∧Loc ((w.alloc (.cells A TA)).alloc (.cells Z T)) (w.heap.size+1) Z T∧Below w.heap.size w ((w.alloc (.cells A TA)).alloc (.cells Z T)):=by
 refine⟨(Loc.made w A TA).alloc _,?_,((Below.refl _ _).alloc (Nat.le_refl _) _).alloc (by simp) _⟩
 have:=Loc.made (w.alloc (.cells A TA)) Z T
 simp only [World.size_alloc]at this
 exact this
theorem Elems.at {α:Type} {w:Xk} {size m:Nat} {a:Xi} {cap k:Nat} {l:List α} {R:Xj->α->Prop} (h:Elems w size (.slice a m cap) l R) (hk:k<l.length) :
  ∃b off,a=some ⟨b,off,none⟩∧b<w.heap.size∧m=l.length∧m<=cap∧∃C:Xj,C.length=size∧(∀j,j<size->w.cell? ⟨b,off+k*size+j,none⟩=C[j]?)∧R C l[k]:=by
 obtain⟨_,⟨_,e⟩ | ⟨_,_,_,_,e⟩ | ⟨b,off,c,e,g1,g2,g3,g4,g5⟩⟩:=h
 ·subst e;simp at hk
 ·subst e;simp at hk
 ·injection e with e1 e2 e3
  subst e1 e2 e3
  exact⟨b,off,rfl,g4,rfl,g1,g5 k hk⟩
theorem Loc.five {w:Xk} {g:Nat} {a b c d e:Xl} {T:Xm} (h:Loc w g #[a,b,c,d,e] T) :
  w.cell? ⟨g,0,none⟩=some a∧w.cell? ⟨g,1,none⟩=some b∧w.cell? ⟨g,2,none⟩=some c∧w.cell? ⟨g,3,none⟩=some d∧w.cell? ⟨g,4,none⟩=some e:=
 ⟨h.cell 0,h.cell 1,h.cell 2,h.cell 3,h.cell 4⟩
def zdf (x:Xg×Xg):Xg:=[32]++x.1++[61,34]++say true x.2++[34]
def zaz (l:List (Xg×Xg)):Xg:=(l.map zdf).flatten
def mkup:(n:Nat)->Tr n->Xg
 | 0=>fun _=>[]
 | n+1=>fun t=>if t.kind=1 then say false t.text else [60]++t.name++zaz t.attrs++[62]++(if zba t.name=true then [] else (t.kids.map (mkup n)).flatten++[60,47]++t.name++[62])
theorem zhR (n:Nat) (t:Tr (n+1)):mkup (n+1) t=if t.kind=1 then say false t.text else [60]++t.name++zaz t.attrs++[62]++(if zba t.name=true then [] else (t.kids.map (mkup n)).flatten++[60,47]++t.name++[62]):=rfl
theorem zlH {α β:Type} (f:α->List β) (l:List α) (j:Nat) (h:j<l.length):((l.take (j+1)).map f).flatten=((l.take j).map f).flatten++f l[j]:=by
 rw [List.take_succ_eq_append_getElem h,List.map_append,List.flatten_append]
 simp
theorem zpH {α β:Type} (f:α->List β) (l:List α) (j:Nat):((l.take j).map f).flatten.length<=(l.map f).flatten.length:=by
 have:(l.map f).flatten=((l.take j).map f).flatten++((l.drop j).map f).flatten:=by rw [<-List.flatten_append,<-List.map_append,List.take_append_drop]
 rw [this,List.length_append]
 omega
theorem zBr:okB [60]:=fun x hx=>by simp at hx;omega
theorem zBE:okB [61,34]:=fun x hx=>by simp at hx;omega
theorem zAt:okB [60,47]:=fun x hx=>by simp at hx;omega
theorem zzY:zaO (⟨#[60]⟩,[60]):=⟨rfl,zBr⟩
theorem zzC:zaO (⟨#[32]⟩,[32]):=⟨rfl,fun x hx=>by simp at hx;omega⟩
theorem zzU:zaO (⟨#[34]⟩,[34]):=⟨rfl,fun x hx=>by simp at hx;omega⟩
theorem zsW:zaO (⟨#[62]⟩,[62]):=⟨rfl,fun x hx=>by simp at hx;omega⟩
theorem zzF:zaO (⟨#[61,34]⟩,[61,34]):=⟨rfl,zBE⟩
theorem zxW:zaO (⟨#[60,47]⟩,[60,47]):=⟨rfl,zAt⟩
theorem zzD (B g cap:Nat) (w:Xk) (L:Xg) (s1 s2:ByteArray) (m1 m2:Xg) (hw:Wr B w g L) (hB:B<=w.heap.size) (h1:zaO (s1,m1)) (h2:zaO (s2,m2)) (hlen:L.length+m1.length+m2.length<=100000000) :
  Calls Tryz.prog 61 #[.pointer (some ⟨g,0,none⟩),.slice (some ⟨w.heap.size,0,none⟩) 2 cap] (w.alloc (.cells #[.string s1,.string s2] 9)) fun e w'=>e=.returned (.tuple #[])∧Wr B w' g (L++m1++m2)∧Frp (MtW B g) w w':=by
 have hb:Below w.heap.size w (w.alloc (.cells #[.string s1,.string s2] 9)):=(Below.refl _ _).alloc (Nat.le_refl _) _
 have h:=zmW B g w.heap.size cap _ L [(s1,m1),(s2,m2)] (hw.keep hb) (Nat.le_trans hB hb.size) (Loc.made w #[.string s1,.string s2] 9) (zBy h1 h2) (by simp) (by simp;omega)
 refine h.mono ?_
 rintro e w' ⟨rfl,h1,h2⟩
 exact⟨rfl,by simpa using h1,(Frp.ofBelow hb _).trans h2⟩
theorem zof (B g cap:Nat) (w:Xk) (L:Xg) (s1 s2 s3:ByteArray) (m1 m2 m3:Xg) (hw:Wr B w g L) (hB:B<=w.heap.size) (h1:zaO (s1,m1)) (h2:zaO (s2,m2)) (h3:zaO (s3,m3)) (hlen:L.length+m1.length+m2.length+m3.length<=100000000) :
  Calls Tryz.prog 61 #[.pointer (some ⟨g,0,none⟩),.slice (some ⟨w.heap.size,0,none⟩) 3 cap] (w.alloc (.cells #[.string s1,.string s2,.string s3] 9)) fun e w'=>e=.returned (.tuple #[])∧Wr B w' g (L++m1++m2++m3)∧Frp (MtW B g) w w':=by
 have hb:Below w.heap.size w (w.alloc (.cells #[.string s1,.string s2,.string s3] 9)):=(Below.refl _ _).alloc (Nat.le_refl _) _
 have h:=zmW B g w.heap.size cap _ L [(s1,m1),(s2,m2),(s3,m3)] (hw.keep hb) (Nat.le_trans hB hb.size) (Loc.made w #[.string s1,.string s2,.string s3] 9) (zAY h1 h2 h3) (by simp) (by simp;omega)
 refine h.mono ?_
 rintro e w' ⟨rfl,h1,h2⟩
 exact⟨rfl,by simpa using h1,(Frp.ofBelow hb _).trans h2⟩
theorem zdB (B g i:Nat) (cs:Array Xl):¬ MtW B g i (.cells cs 29 (0,0)):=zmV (by decide) (by decide)
theorem zxk (B g i:Nat) (cs:Array Xl):¬ MtW B g i (.cells cs 132 (0,0)):=zmV (by decide) (by decide)
set_option maxHeartbeats 6400000 in
theorem zzP (w0 w:Xk) (B g:Nat) (L:Xg) (kd:Int) (b c d e:Xl) (name text:Xg) (attrs:List (Xg×Xg)) (a5:Xi) (n5 c5:Nat) (hw:Wr B w g L) (hB:B<=w.heap.size) (hb:Byt w0 b name) (hc:Byt w0 c text) (hd:RdAttrs w0 d attrs) (he:e=.slice a5 n5 c5)
  (hW:Below w0.heap.size w0 w) (h0:w0.heap.size<=B) (hg0:w0.heap.size<=g) (hlen:L.length+1+name.length+(zaz attrs).length+1<=100000000) :
  Calls Tryz.prog 59 #[.pointer (some ⟨g,0,none⟩),.agg #[.int .i64 kd,b,c,d,e]] w fun e w'=>e=.returned (.tuple #[])∧Wr B w' g (L++[60]++name++zaz attrs++[62])∧Frp (MtW B g) w w':=by
 subst he
 obtain⟨ab,cb,rfl,_,_⟩:=hb.shape
 obtain⟨ac,cc,rfl,_,_⟩:=hc.shape
 obtain⟨ad,cd,rfl,_,_⟩:=Elems.shape hd
 have Ga:Below w.heap.size w (w.alloc (.cells #[.int .i64 kd,.slice ab name.length cb,.slice ac text.length cc,.slice ad attrs.length cd,.slice a5 n5 c5] 29)):=(Below.refl _ _).alloc (Nat.le_refl _) _
 have l1:=Loc.made w #[.int .i64 kd,.slice ab name.length cb,.slice ac text.length cc,.slice ad attrs.length cd,.slice a5 n5 c5] 29
 have F1:Frp (MtW B g) w _:=Frp.ofBelow Ga (MtW B g)
 have Xa:=hide (hw.keep Ga)
 have ca:=hW.trans (Ga.mono hW.size)
 have Qa:=Nat.le_trans hB Ga.size
 have v1:=zbf _ _ name (hb.keep ca)
 obtain⟨x0,x1,x2,x3,x4⟩:=l1.five
 have ma:(attrs.length:Int)<=9223372036854775807:=by have:=hd.1;unfold maxLen at this;omega
 have hp:=zzD B g 2 _ L ⟨#[60]⟩ (str name) [60] name (zaa Xa) Qa zzY (zke hb.1) (by simp;omega)
 simp only [World.size_alloc]at hp
 have HP:=hide hp
 clear hp
 clear hw Xa
 generalize str name=sn at *
 go_enter Tryz.func59,Tryz.ntmps59
 go_wp2_with fail
 refine (zaa HP).mono ?_
 clear HP
 rintro e w2 ⟨rfl,Ia,F2⟩
 have Wa:=F1.trans F2
 have l2:=l1.frp F2 (zdB _ _ _ _)
 clear x0 x1 x2 x3 x4 v1
 have c3:w2.cell? ⟨w.heap.size,3,none⟩=some (.slice ad attrs.length cd):=l2.cell 3
 have oa:B<=w2.heap.size:=Nat.le_trans hB Wa.size
 obtain⟨A0,Ka⟩:∃A0,A0=L++[60]++name:=⟨_,rfl⟩
 rw [<-Ka]at Ia
 have ha:=hide Ka
 have na:A0.length+(zaz attrs).length+1<=100000000:=by
  rw [Ka];simp only [List.length_append,List.length_cons,List.length_nil];omega
 have HW:=hide (fun (W:Xk) (F:Frp (MtW B g) w W)=>hW.trans (FrpW.toBelow F hW.size h0 hg0))
 clear Ka l1 l2 F1 F2
 go_wp2_with fail
 go_loopw [15] (fun i wr=>∃j:Nat,j<=attrs.length∧i=.int .i64 j∧Wr B wr g (A0++zaz (attrs.take j))∧Frp (MtW B g) w wr) (fun i _=>attrs.length-(intOf i).toNat)
 case atStart=>exact⟨0,Nat.zero_le _,rfl,by simpa [zaz]using Ia,Wa⟩
 case round=>
  obtain⟨j,hj,rfl,hr,hf⟩:=hrel
  have Ya:B<=wr.heap.size:=Nat.le_trans hB hf.size
  by_cases hjl:j<attrs.length
  ·have Ja:zaz (attrs.take (j+1))=zaz (attrs.take j)++zdf attrs[j]:=zlH zdf attrs j hjl
   have Sa:(zaz (attrs.take (j+1))).length<=(zaz attrs).length:=zpH zdf attrs (j+1)
   obtain⟨pb,Ba,rfl,Ta,la,_,C,hC,Aa,Va⟩:=hd.at hjl
   clear la
   obtain⟨x,hx⟩:∃x,x=attrs[j]:=⟨_,rfl⟩
   rw [<-hx]at Va Ja
   obtain⟨y0,y1,rfl,Oa,Ua⟩:=Va
   have q0:=Aa 0 (by omega)
   have q1:=Aa 1 (by omega)
   simp only [List.getElem?_cons_zero,List.getElem?_cons_succ,Nat.add_zero]at q0 q1
   obtain⟨s0,g0,rfl,_,_⟩:=Oa.shape
   obtain⟨s1,g1,rfl,_,_⟩:=Ua.shape
   obtain⟨M,hM⟩:∃M,M=A0++zaz (attrs.take j):=⟨_,rfl⟩
   have HL:=hide (show A0++zaz (attrs.take (j+1))=M++[32]++x.1++[61,34]++say true x.2++[34] by rw [Ja,hM];simp [zdf])
   have ja:M.length+4+x.1.length+(say true x.2).length<=100000000:=by
    rw [Ja]at Sa
    rw [hM]
    simp only [List.length_append,zdf,List.length_cons,List.length_nil]at Sa ⊢
    omega
   rw [<-hM]at hr
   have fa:(j:Int)<(attrs.length:Int):=by omega
   have Za:=zaa HW wr hf
   have u0:wr.cell? ⟨pb,Ba+j*2,none⟩=some (.slice s0 x.1.length g0):=(Za.cell (p:=⟨pb,Ba+j*2,none⟩) Ta).trans q0
   have u1:wr.cell? ⟨pb,Ba+j*2+1,none⟩=some (.slice s1 x.2.length g1):=(Za.cell (p:=⟨pb,Ba+j*2+1,none⟩) Ta).trans q1
   have Ha:Below wr.heap.size wr (wr.alloc (.cells #[.slice s0 x.1.length g0,.slice s1 x.2.length g1] 132)):=(Below.refl _ _).alloc (Nat.le_refl _) _
   have a1:=Loc.made wr #[.slice s0 x.1.length g0,.slice s1 x.2.length g1] 132
   have Fa:=hf.trans (Frp.ofBelow Ha (MtW B g))
   have vx:=zbf _ _ x.1 (Oa.keep (zaa HW _ Fa))
   have b0:(wr.alloc (.cells #[.slice s0 x.1.length g0,.slice s1 x.2.length g1] 132)).cell? ⟨wr.heap.size,0,none⟩=some (.slice s0 x.1.length g0):=a1.cell 0
   have hp:=zof B g 3 _ M ⟨#[32]⟩ (str x.1) ⟨#[61,34]⟩ [32] x.1 [61,34] (hr.keep Ha) (Nat.le_trans Ya Ha.size) zzC (zke Oa.1) zzF (by simp;omega)
   simp only [World.size_alloc]at hp
   have HP:=hide hp
   clear hp
   generalize str x.1=sx at *
   clear hr Ja Sa hx hM Aa Ia hd Ha q0 q1 c3
   go_wp2_with fail
   refine (zaa HP).mono ?_
   clear HP
   rintro e w3 ⟨rfl,Ma,F3⟩
   have Ra:=Fa.trans F3
   have a3:=a1.frp F3 (zxk _ _ _ _)
   have b1:w3.cell? ⟨wr.heap.size,1,none⟩=some (.slice s1 x.2.length g1):=a3.cell 1
   obtain⟨M3,Pa⟩:∃M3,M3=M++[32]++x.1++[61,34]:=⟨_,rfl⟩
   have pa:M3.length+(say true x.2).length+1<=100000000:=by rw [Pa];simp only [List.length_append,List.length_cons,List.length_nil];omega
   rw [<-Pa]at Ma HL
   clear b0 vx Pa ja u0 u1
   go_wp2_with fail
   refine (zqe w0 w3 B g _ M3 x.2 true Ma (Nat.le_trans hB Ra.size) Ua (zaa HW _ Ra) h0 hg0 (by omega)).mono ?_
   rintro e w4 ⟨rfl,La,F4⟩
   have aa:=Ra.trans F4
   obtain⟨M4,Na⟩:∃M4,M4=M3++say true x.2:=⟨_,rfl⟩
   have ea:M4.length+1<=100000000:=by rw [Na,List.length_append];omega
   rw [<-Na]at La HL
   have ba:=hide (zgK B g 1 w4 M4 ⟨#[34]⟩ [34] La (Nat.le_trans hB aa.size) zzU (by simpa using ea))
   clear Ma La b1 Na
   go_wp2_with fail
   refine (zaa ba).mono ?_
   clear ba
   rintro e w5 ⟨rfl,Ca,F5⟩
   rw [<-zaa HL]at Ca
   have ka:=hide Ca
   clear Ca
   go_wp2_with fail
   go_roundw
   case rel=>exact⟨j+1,by omega,by go_num,zaa ka,aa.trans F5⟩
   case measure=>simp [intOf];omega
  ·have ga:j=attrs.length:=by omega
   subst ga
   rw [List.take_length]at hr
   obtain⟨A1,Da⟩:∃A1,A1=A0++zaz attrs:=⟨_,rfl⟩
   have ia:A1.length+1<=100000000:=by rw [Da,List.length_append];omega
   rw [<-Da]at hr
   have da:=hide Da
   have HP:=hide (zgK B g 1 wr A1 ⟨#[62]⟩ [62] hr Ya zsW (by simpa using ia))
   clear hr hd Da Ia c3
   go_wp2_with fail
   refine (zaa HP).mono ?_
   clear HP
   rintro e w5 ⟨rfl,Ca,F5⟩
   go_wp2_with fail
   go_end0
   exact⟨rfl,by rw [<-zaa ha,<-zaa da];exact Ca,hf.trans F5⟩
open Classical in
theorem zzM (B g:Nat) (w:Xk) (v:Xl) (l L:Xg) (h:Wr B w g L) (hB:B<=w.heap.size) (hv:∀w',Frm w w' [g]->Byt w' v l) :
  Calls Tryz.prog 60 #[.pointer (some ⟨g,1,none⟩),v] w fun e w'=>e=.returned (.bool (zba l))∧Wr B w' g L∧Frp (MtW B g) w w':=by
 obtain⟨o,ho,hs⟩:=h
 obtain⟨cs,hl,_,_,_⟩:=hs.loc
 refine (zzm B o g w v l hs hB hv).mono ?_
 rintro e w' ⟨rfl,hm,hf⟩
 have hd:decide (Void l)=zba l:=by
  rw [Bool.eq_iff_iff,zdF]
  simp
 refine⟨by rw [<-hd],⟨o,ho.frm hf (fun i hi Aa=> ?_),.inr hm⟩,FrpW.ofFrm hl hf⟩
 have e1:i=g:=by simpa using Aa
 have e2:o.ownBlock=some i:=by simpa [FB]using hi
 exact zhy (B:=B) ho hl (by rw [e2,e1])
def zrd (n:Nat):Prop:=∀(w0 w:Xk) (B g:Nat) (L:Xg) (a b c d e:Xl) (t:Tr n),RdNode n w0 [a,b,c,d,e] t->Below w0.heap.size w0 w->w0.heap.size<=B->w0.heap.size<=g->B<=w.heap.size->Wr B w g L->L.length+(mkup n t).length<=100000000->
  Calls Tryz.prog 29 #[.pointer (some ⟨g,0,none⟩),.agg #[a,b,c,d,e]] w fun e w'=>e=.returned (.tuple #[])∧Wr B w' g (L++mkup n t)∧Frp (MtW B g) w w'
theorem zjg {n:Nat} {w:Xk} {a b c d e:Xl} {t:Tr n} (h:RdNode n w [a,b,c,d,e] t):∃z ab nb cb ac nc cc ad nd cd ae ne ce,a=.int .i64 z∧b=.slice ab nb cb∧c=.slice ac nc cc∧d=.slice ad nd cd∧e=.slice ae ne ce:=by
 cases n with
 | zero=>exact absurd h (by unfold RdNode;exact id)
 | succ n=>
  obtain⟨_,_,_,_,e0,k1,k2,hb,hc,hd,he⟩:=h
  simp only [List.cons.injEq,and_true]at e0
  obtain⟨rfl,rfl,rfl,rfl,rfl⟩:=e0
  obtain⟨ab,cb,rfl,_,_⟩:=hb.shape
  obtain⟨ac,cc,rfl,_,_⟩:=hc.shape
  obtain⟨ad,cd,rfl,_,_⟩:=Elems.shape hd
  obtain⟨ae,ce,rfl,_,_⟩:=Elems.shape he
  exact⟨_,_,_,_,_,_,_,_,_,_,_,_,_,rfl,rfl,rfl,rfl,rfl⟩
set_option maxHeartbeats 6400000 in
theorem zxd (n:Nat) (H:zrd n):zrd (n+1):=by
 intro w0 w B g L a b c d e t ka hW h0 Ka hB hw Aa
 obtain⟨_,_,_,_,e0,k1,k2,hb,hc,hd,he⟩:=ka
 simp only [List.cons.injEq,and_true]at e0
 obtain⟨rfl,rfl,rfl,rfl,rfl⟩:=e0
 obtain⟨ab,cb,rfl,_,_⟩:=hb.shape
 obtain⟨ac,cc,rfl,_,_⟩:=hc.shape
 obtain⟨ad,cd,rfl,_,_⟩:=Elems.shape hd
 obtain⟨ae,ce,rfl,_,_⟩:=Elems.shape he
 have Na:Below w.heap.size w (w.alloc (.cells #[.int .i64 t.kind,.slice ab t.name.length cb,.slice ac t.text.length cc,.slice ad t.attrs.length cd,.slice ae t.kids.length ce] 29)):=(Below.refl _ _).alloc (Nat.le_refl _) _
 have l1:=Loc.made w #[.int .i64 t.kind,.slice ab t.name.length cb,.slice ac t.text.length cc,.slice ad t.attrs.length cd,.slice ae t.kids.length ce] 29
 have F1:Frp (MtW B g) w _:=Frp.ofBelow Na (MtW B g)
 have Qa:=hide (hw.keep Na)
 have Xa:=hW.trans (Na.mono hW.size)
 have Ma:=Nat.le_trans hB Na.size
 have Ga:=zhR n t
 obtain⟨x0,x1,x2,x3,x4⟩:=l1.five
 by_cases hz:t.kind=1
 ·have dz:(t.kind == 1)=true:=by simpa using hz
  rw [if_pos hz]at Ga
  rw [Ga]at Aa ⊢
  have HP:=hide (zqe w0 _ B g _ L t.text false (zaa Qa) Ma hc Xa h0 Ka Aa)
  clear hz Ga hw Qa
  go_enter Tryz.func29,Tryz.ntmps29
  go_wp2_with fail
  refine (zaa HP).mono ?_
  rintro e w2 ⟨rfl,Ca,F2⟩
  go_wp2_with fail
  (first | go_end0 | (simp only [Exit.inBlock,Exit.then];refine bodyPost_ret (results_none rfl _ _ _) rfl ?_) | refine bodyPost_ret (results_none rfl _ _ _) rfl ?_)
  exact⟨rfl,Ca,F1.trans F2⟩
 ·have dz:(t.kind == 1)=false:=by simpa using hz
  rw [if_neg hz]at Ga
  rw [Ga]at Aa ⊢
  obtain⟨G,hG⟩:∃G,G=L++([60]++t.name++zaz t.attrs++[62]++(if zba t.name=true then [] else (t.kids.map (mkup n)).flatten++[60,47]++t.name++[62])):=⟨_,rfl⟩
  rw [<-hG]
  have Sa:L.length+1+t.name.length+(zaz t.attrs).length+1<=100000000:=by
   simp only [List.length_append,List.length_cons,List.length_nil]at Aa
   omega
  have HP:=hide (zzP w0 _ B g L t.kind _ _ _ _ t.name t.text t.attrs ae t.kids.length ce (zaa Qa) Ma hb hc hd rfl Xa h0 Ka Sa)
  have HG:=hide hG
  have wa:(t.kids.length:Int)<=9223372036854775807:=by have:=he.1;unfold maxLen at this;omega
  clear hz Ga hG hw Qa
  go_enter Tryz.func29,Tryz.ntmps29
  go_wp2_with fail
  refine (zaa HP).mono ?_
  clear HP
  rintro e w2 ⟨rfl,Ca,F2⟩
  have Pa:=F1.trans F2
  have l2:=l1.frp F2 (zdB _ _ _ _)
  have HW:=hide (fun (W:Xk) (F:Frp (MtW B g) w W)=>hW.trans (FrpW.toBelow F hW.size h0 Ka))
  clear x0 x1 x2 x3 x4
  obtain⟨x0,x1,x2,x3,x4⟩:=l2.five
  obtain⟨A2,Da⟩:∃A2,A2=L++[60]++t.name++zaz t.attrs++[62]:=⟨_,rfl⟩
  rw [<-Da]at Ca
  have Ra:Below w2.heap.size w2 w2.drew:=(Below.refl _ _).drew
  have Fd:Frp (MtW B g) w2 w2.drew:=Frp.ofBelow Ra _
  have Va:=zaa HW _ (Pa.trans Fd)
  have ca:∀w',Frm w2.drew w' [g]->Byt w' (.slice ab t.name.length cb) t.name:=fun w' hf=>hb.keep (Va.trans (hf.below Va.size (fun q hq=>by
   have e:q=g:=by simpa using hq
   rw [e];exact Ka)))
  have HH:=hide (zzM B g w2.drew _ t.name A2 (Ca.keep Ra) (Nat.le_trans hB Pa.size) ca)
  clear ca Va
  go_wp2_with fail
  by_cases hv:zba t.name=true
  ·have HE:=hide (show L++([60]++t.name++zaz t.attrs++[62]++(if zba t.name=true then [] else (t.kids.map (mkup n)).flatten++[60,47]++t.name++[62]))=A2 by rw [if_pos hv,Da];simp)
   have Ua:=hide ((zaa HG).trans (zaa HE))
   rw [hv]at HH
   clear hv Da HE HG Aa Sa Ca l1 F2
   go_region_held3 (fun w'=>w'.cell? ⟨w.heap.size,1,none⟩=some (.slice ab t.name.length cb))
    (first | assumption | simp [*])
    ((go_at_call 60;refine (zaa HH).mono ?_;rintro e w3 ⟨rfl,Ia,F3⟩;have x1:w3.cell? ⟨w.heap.size,1,none⟩=some (.slice ab t.name.length cb):=(l2.frp (Fd.trans F3) (zdB _ _ _ _)).cell 1))
   all_goals
    go_wp2_with fail
    (first | go_end0 | (simp only [Exit.inBlock,Exit.then];refine bodyPost_ret (results_none rfl _ _ _) rfl ?_) | refine bodyPost_ret (results_none rfl _ _ _) rfl ?_)
    exact⟨rfl,by rw [zaa Ua];exact Ia,Pa.trans (Fd.trans F3)⟩
  ·have ba:zba t.name=false:=by simpa using hv
   have HE:=hide (show L++([60]++t.name++zaz t.attrs++[62]++(if zba t.name=true then [] else (t.kids.map (mkup n)).flatten++[60,47]++t.name++[62]))=A2++(t.kids.map (mkup n)).flatten++[60,47]++t.name++[62] by rw [if_neg hv,Da];simp)
   have Ua:=hide ((zaa HG).trans (zaa HE))
   have xa:A2.length+(t.kids.map (mkup n)).flatten.length+3+t.name.length<=100000000:=by
    rw [if_neg hv]at Aa
    rw [Da]
    simp only [List.length_append,List.length_cons,List.length_nil]at Aa ⊢
    omega
   rw [ba]at HH
   clear hv ba Da HE HG Aa Sa Ca l1 F2
   go_region_held3 (fun w'=>w'.cell? ⟨w.heap.size,1,none⟩=some (.slice ab t.name.length cb))
    (first | assumption | simp [*])
    ((go_at_call 60;refine (zaa HH).mono ?_;rintro e w3 ⟨rfl,Ia,F3⟩;have x1:w3.cell? ⟨w.heap.size,1,none⟩=some (.slice ab t.name.length cb):=(l2.frp (Fd.trans F3) (zdB _ _ _ _)).cell 1))
   have l3:=l2.frp (Fd.trans F3) (zdB _ _ _ _)
   have qa:=Pa.trans (Fd.trans F3)
   have c4:w3.cell? ⟨w.heap.size,4,none⟩=some (.slice ae t.kids.length ce):=l3.cell 4
   clear x0 x2 x3 x4 x1 Fd F3 Ra HH
   go_wp2_with fail
   go_loopw [25] (fun i wr=>∃j:Nat,j<=t.kids.length∧i=.int .i64 j∧Wr B wr g (A2++((t.kids.take j).map (mkup n)).flatten)∧Frp (MtW B g) w3 wr) (fun i _=>t.kids.length-(intOf i).toNat)
   case atStart=>exact⟨0,Nat.zero_le _,rfl,by simpa using Ia,Frp.refl _ _⟩
   case round=>
    obtain⟨j,hj,rfl,hr,hf⟩:=hrel
    have Ja:=qa.trans hf
    have aa:B<=wr.heap.size:=Nat.le_trans hB Ja.size
    by_cases hjl:j<t.kids.length
    ·have Ta:=zlH (mkup n) t.kids j hjl
     have Wa:=zpH (mkup n) t.kids (j+1)
     obtain⟨pb,Ba,rfl,Ha,pa,_,hC⟩:=he.at hjl
     clear pa
     obtain⟨c0,c1,c2,c3,ya,e0,e1,e2,e3,e4,hx⟩:=ziZ hC
     have La:=zaa HW wr Ja
     replace e0:=(La.cell (p:=⟨pb,Ba+j*5,none⟩) Ha).trans e0
     replace e1:=(La.cell (p:=⟨pb,Ba+j*5+1,none⟩) Ha).trans e1
     replace e2:=(La.cell (p:=⟨pb,Ba+j*5+2,none⟩) Ha).trans e2
     replace e3:=(La.cell (p:=⟨pb,Ba+j*5+3,none⟩) Ha).trans e3
     replace e4:=(La.cell (p:=⟨pb,Ba+j*5+4,none⟩) Ha).trans e4
     obtain⟨z,ea,la,ia,ga,na,ja,oa,ma,da,sa,ua,ra,rfl,rfl,rfl,rfl,rfl⟩:=zjg hx
     have Oa:Below wr.heap.size wr (wr.alloc (.cells #[.int .i64 z,.slice ea la ia,.slice ga na ja,.slice oa ma da,.slice sa ua ra] 29)):=(Below.refl _ _).alloc (Nat.le_refl _) _
     have Fa:Frp (MtW B g) wr _:=Frp.ofBelow Oa (MtW B g)
     have fa:(j:Int)<(t.kids.length:Int):=by omega
     have Za:(A2++((t.kids.take j).map (mkup n)).flatten).length+(mkup n t.kids[j]).length<=100000000:=by
      rw [Ta]at Wa
      simp only [List.length_append]at Wa ⊢
      omega
     have va:=hide (show A2++((t.kids.take (j+1)).map (mkup n)).flatten=A2++((t.kids.take j).map (mkup n)).flatten++mkup n t.kids[j] by rw [Ta,List.append_assoc])
     have HC:=hide (H w0 _ B g _ _ _ _ _ _ t.kids[j] hx (zaa HW _ (Ja.trans Fa)) h0 Ka (Nat.le_trans aa Oa.size) (hr.keep Oa) Za)
     clear hr Ta Wa hC Za hx Oa c4 Ia he
     go_wp2_with fail
     refine (zaa HC).mono ?_
     clear HC
     rintro e w9 ⟨rfl,Ya,F9⟩
     have HO:=hide (show Wr B w9 g (A2++((t.kids.take (j+1)).map (mkup n)).flatten) by rw [zaa va];exact Ya)
     clear Ya e0 e1 e2 e3 e4
     go_wp2_with fail
     go_roundw
     case rel=>exact⟨j+1,by omega,by go_num,zaa HO,hf.trans (Fa.trans F9)⟩
     case measure=>simp [intOf];omega
    ·have ha:j=t.kids.length:=by omega
     subst ha
     rw [List.take_length]at hr
     have x1:wr.cell? ⟨w.heap.size,1,none⟩=some (.slice ab t.name.length cb):=(l3.frp hf (zdB _ _ _ _)).cell 1
     have vx:=zbf wr _ t.name (hb.keep (zaa HW _ Ja))
     have HP:=hide (zof B g 3 wr _ ⟨#[60,47]⟩ (str t.name) ⟨#[62]⟩ [60,47] t.name [62] hr aa zxW (zke hb.1) zsW (by simp only [List.length_append,List.length_cons,List.length_nil];omega))
     generalize str t.name=sn at *
     clear hr he Ia c4 l3
     go_wp2_with fail
     refine (zaa HP).mono ?_
     clear HP
     rintro e w5 ⟨rfl,ta,F5⟩
     go_wp2_with fail
     go_end0
     exact⟨rfl,by rw [zaa Ua];exact ta,Ja.trans F5⟩
theorem zqJ:∀n,zrd n
 | 0=>fun w0 w B g L a b c d e t Aa=>absurd Aa (by unfold RdNode;exact id)
 | n+1=>zxd n (zqJ n)
end Go.Proofs.YtgjolijncmkkhaaGreatDoor
