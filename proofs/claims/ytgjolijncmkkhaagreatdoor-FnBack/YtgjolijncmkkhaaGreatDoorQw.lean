/- Own texts joined: MarkI. -/
import Derived.Test.YtgjolijncmkkhaaGreatDoorQa
import Derived.Test.YtgjolijncmkkhaaGreatDoorQb
import Derived.Test.YtgjolijncmkkhaaGreatDoorQc
import Derived.Test.YtgjolijncmkkhaaGreatDoorQq
namespace Go.Proofs.YtgjolijncmkkhaaGreatDoor
open Go.RowKit
set_option linter.unusedVariables false
set_option maxRecDepth 100000
set_option maxHeartbeats 3200000 in
theorem zuE (n:Nat) (w:Xk) (a b c d e:Xl) (t:Tr (n+1)) (h:RdNode (n+1) w [a,b,c,d,e] t) (hsz:szT (n+1) t<=2097152) :
  Calls Tryz.prog 11 #[.agg #[a,b,c,d,e]] w fun e w'=>∃v,e=.returned v∧Own w' w.heap.size v (zkf n t)∧Below w.heap.size w w':=by
 have Ba:(mkup (n+1) t).length<=100000000:=by have:=zpO (n+1) t;omega
 have Aa:Below w.heap.size w (w.alloc (.cells #[a,b,c,d,e] 29)):=(Below.refl _ _).alloc (Nat.le_refl _) _
 have l1:=Loc.made w #[a,b,c,d,e] 29
 have c1:=zcO n _ a b c d e t (h.keep Aa) hsz
 obtain⟨z,ab,nb,cb,ac,nc,cc,ad,nd,cd,ae,ne,ce,rfl,rfl,rfl,rfl,rfl⟩:=zjg h
 obtain⟨x0,x1,x2,x3,x4⟩:=l1.five
 unfold zkf
 by_cases hk:okN n t=true
 ·rw [hk]at c1
  simp only [hk,if_true]
  clear hk
  go_enter Tryz.func11,Tryz.ntmps11
  go_wp2_with fail
  refine c1.mono ?_
  rintro e w1 ⟨rfl,hb⟩
  have Ca:=Aa.trans (hb.mono Aa.size)
  have l2:=l1.all hb
  have Ha:Below w1.heap.size w1 (w1.alloc (.cells (ws0 (.slice none 0 0)) 86)):=(Below.refl _ _).alloc (Nat.le_refl _) _
  have g2:=Loc.made w1 (ws0 (.slice none 0 0)) 86
  have Da:=zal Ca Ha
  have l3:=l2.all Ha
  obtain⟨y0,y1,y2,y3,y4⟩:=l3.five
  have Ia:Wr w.heap.size (w1.alloc (.cells (ws0 (.slice none 0 0)) 86)) w1.heap.size []:=⟨.slice none 0 0,⟨zaI,World.ownsRow_nil _ _ _ _⟩,.inl g2⟩
  have HP:=hide (zqJ (n+1) w _ w.heap.size w1.heap.size [] _ _ _ _ _ t h Da (Nat.le_refl _) Ca.size Da.size Ia (by simpa using Ba))
  clear x0 x1 x2 x3 x4 Ia g2 l1 l2 Ba
  unfold ws0 at *
  go_wp2_with fail
  refine (zaa HP).mono ?_
  clear HP
  rintro e w3 ⟨rfl,⟨o,Fa,Ja⟩,F3⟩
  rw [List.nil_append]at Fa
  obtain⟨cs,_,_,c0,_⟩:=Ja.loc
  have La:=Da.trans (FrpW.toBelow F3 Da.size (Nat.le_refl _) Ca.size)
  obtain⟨a2,c2,Ka,_,_⟩:=Fa.byt.shape
  subst Ka
  go_wp2_with fail
  go_ret
  exact⟨_,rfl,Fa,La⟩
 ·have Ga:okN n t=false:=by simpa using hk
  rw [Ga]at c1
  simp only [Ga,Bool.false_eq_true,if_false]
  clear hk Ga
  go_enter Tryz.func11,Tryz.ntmps11
  go_wp2_with fail
  refine c1.mono ?_
  rintro e w1 ⟨rfl,hb⟩
  have Ca:=Aa.trans (hb.mono Aa.size)
  go_wp2_with fail
  go_ret
  exact⟨_,rfl,⟨zaI,World.ownsRow_nil _ _ _ _⟩,Ca⟩
end Go.Proofs.YtgjolijncmkkhaaGreatDoor
