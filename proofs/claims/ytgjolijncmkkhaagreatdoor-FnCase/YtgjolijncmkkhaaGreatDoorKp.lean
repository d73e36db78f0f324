/- Own texts joined: MkupT. -/
import Derived.Test.YtgjolijncmkkhaaGreatDoorKa
import Derived.Test.YtgjolijncmkkhaaGreatDoorKb
namespace Go.Proofs.YtgjolijncmkkhaaGreatDoor
open Go.RowKit
set_option linter.unusedVariables false
set_option maxRecDepth 100000
theorem zhg {α β:Type} (f:α->List β) (g:α->Nat) (H:∀x,(f x).length<=6*g x+6):∀l:List α,(l.map f).flatten.length<=6*(l.length+(l.map g).sum)
 | []=>by simp
 | x::l=>by
  have h1:=zhg f g H l
  have h2:=H x
  simp only [List.map_cons,List.flatten_cons,List.length_append,List.length_cons,List.sum_cons]
  omega
theorem zsC (l:List (Xg×Xg)):(zav l).length<=6*szA l:=by
 unfold zav szA
 refine zhg zcY (fun x=>x.1.length+x.2.length) (fun x=> ?_) l
 have:=zlT true x.2
 unfold zcY
 simp only [List.length_append,List.length_cons,List.length_nil]
 omega
theorem zgG:∀(n:Nat) (t:Tr n),(mkup n t).length<=6*szT n t+5
 | 0,t=>by show ([]:Xg).length<=_;simp
 | n+1,t=>by
  have h1:=zlT false t.text
  have h2:=zsC t.attrs
  have h3:=zhg (mkup n) (szT n) (fun x=>by have:=zgG n x;omega) t.kids
  have h4:szT (n+1) t=t.name.length+t.text.length+szA t.attrs+(t.kids.length+(t.kids.map (szT n)).sum):=rfl
  rw [zhu,h4]
  split
  ·omega
  ·split
   ·simp only [List.length_append,List.length_cons,List.length_nil]
    omega
   ·simp only [List.length_append,List.length_cons,List.length_nil]
    omega
set_option maxHeartbeats 1600000 in
theorem zqt (n:Nat) (w:Xk) (a b c d e:Xl) (t:Tr (n+1)) (h:RdNode (n+1) w [a,b,c,d,e] t) (hlen:(mkup (n+1) t).length<=100000000) :
  Calls Tryz.prog 18 #[.agg #[a,b,c,d,e]] w fun e w'=>∃v,e=.returned v∧Own w' w.heap.size v (if okN n t=true then mkup (n+1) t else [])∧Below w.heap.size w w':=by
 have Ba:Below w.heap.size w (w.alloc (.cells #[a,b,c,d,e] 29)):=(Below.refl _ _).alloc (Nat.le_refl _) _
 have l1:=Loc.made w #[a,b,c,d,e] 29
 have c1:=zne n _ a b c d e t (h.keep Ba)
 obtain⟨_,_,_,_,e0,k1,k2,hb,hc,hd,he⟩:=id h
 simp only [List.cons.injEq,and_true]at e0
 obtain⟨rfl,rfl,rfl,rfl,rfl⟩:=e0
 obtain⟨ab,cb,rfl,_,_⟩:=hb.shape
 obtain⟨ac,cc,rfl,_,_⟩:=hc.shape
 obtain⟨ad,cd,rfl,_,_⟩:=Elems.shape hd
 obtain⟨ae,ce,rfl,_,_⟩:=Elems.shape he
 clear hb hc hd he
 obtain⟨x0,x1,x2,x3,x4⟩:=l1.five
 by_cases hk:okN n t=true
 ·rw [hk]at c1
  simp only [hk,if_true]
  clear hk
  go_enter Tryz.func18,Tryz.ntmps18
  go_wp2_with fail
  refine c1.mono ?_
  rintro e w1 ⟨rfl,hb⟩
  have Aa:=Ba.trans (hb.mono Ba.size)
  obtain⟨y0,y1,y2,y3,y4⟩:=(l1.all hb).five
  clear x0 x1 x2 x3 x4
  go_wp2_with fail
  refine (zuF (n+1) w w1 w.heap.size _ [] _ _ _ _ _ t h Aa (Nat.le_refl _) Aa.size ⟨zaQ,World.ownsRow_nil _ _ _ _⟩ (by simpa using hlen)).mono ?_
  rintro e w2 ⟨v2,rfl,Da,F2⟩
  rw [List.nil_append]at Da
  obtain⟨a2,c2,Fa,_,_⟩:=Da.byt.shape
  subst Fa
  go_wp2_with fail
  go_ret
  exact⟨_,rfl,Da,Aa.trans (F2.toBelow Aa.size)⟩
 ·have Ca:okN n t=false:=by simpa using hk
  rw [Ca]at c1
  simp only [Ca,Bool.false_eq_true,if_false]
  clear hk Ca
  go_enter Tryz.func18,Tryz.ntmps18
  go_wp2_with fail
  refine c1.mono ?_
  rintro e w1 ⟨rfl,hb⟩
  have Aa:=Ba.trans (hb.mono Ba.size)
  go_wp2_with fail
  go_ret
  exact⟨_,rfl,⟨zaQ,World.ownsRow_nil _ _ _ _⟩,Aa⟩
end Go.Proofs.YtgjolijncmkkhaaGreatDoor
