/- Own texts joined: New, DrS, DrM, DrT. -/
import Derived.Test.YtgjolijncmkkhaaGreatDoorQa
import Derived.Test.YtgjolijncmkkhaaGreatDoorQe
import Derived.Test.YtgjolijncmkkhaaGreatDoorQf
import Derived.Deep.RegionHeld3
import Derived.Deep.RegionLaw
namespace Go.Proofs.YtgjolijncmkkhaaGreatDoor
open Go.RowKit
set_option linter.unusedVariables false
set_option maxRecDepth 100000
def zCj (w0:Xk) (g:Nat) (code:Xl) (l:Xg) (w:Xk) (e:Ending) (w':Xk):Prop:=∃kd a1 n1 c1 a2 n2 c2 a3 n3 c3 a4 n4 c4,e=.returned (.agg #[.int .i64 kd,.slice a1 n1 c1,.slice a2 n2 c2,.slice a3 n3 c3,.slice a4 n4 c4])∧RdX w' (List.range w.heap.size) [.int .i64 kd,.slice a1 n1 c1,.slice a2 n2 c2,.slice a3 n3 c3,.slice a4 n4 c4] 1000000∧Cur w0 w' g code l∧w.grownBy w' (some g)
def zkw:Prop:=∀(w0 w:Xk) (g:Nat) (code:Xl) (l:Xg),Cur w0 w g code l->Calls Tryz.prog 35 #[.pointer (some ⟨g,0,none⟩)] w (zCj w0 g code l w)
def zBn (w:Xk) (e:Ending) (w':Xk):Prop:=∃kd a1 n1 c1 a2 n2 c2 a3 n3 c3 a4 n4 c4,e=.returned (.agg #[.int .i64 kd,.slice a1 n1 c1,.slice a2 n2 c2,.slice a3 n3 c3,.slice a4 n4 c4])∧(∃(n:Nat) (t:Tr n),RdNode n w' [.int .i64 kd,.slice a1 n1 c1,.slice a2 n2 c2,.slice a3 n3 c3,.slice a4 n4 c4] t∧szT n t<=1000000)∧Below w.heap.size w w'
set_option maxHeartbeats 6400000 in
theorem zpA (hbent:zkw) (w:Xk) (code:Xl) (l:Xg) (h:Byt w code l):Calls Tryz.prog 14 #[code] w (zBn w):=by
 have Ba:=(Below.refl w.heap.size w).alloc (Nat.le_refl _) (.cells #[.int .i64 0,.slice none 0 0,.slice none 0 0,.slice none 0 0,.slice none 0 0] 29)
 have lr:=Loc.made w #[.int .i64 0,.slice none 0 0,.slice none 0 0,.slice none 0 0,.slice none 0 0] 29
 have HN:=hide (zvC _ code l (h.keep Ba))
 have HA:=hide (And.intro Ba lr)
 obtain⟨a0,c0,rfl,_,_⟩:=h.shape
 clear h Ba lr
 go_enter Tryz.func14,Tryz.ntmps14
 go_wp2_with fail
 refine (zaa HN).mono ?_
 rintro e w1 ⟨rfl,Ga,Ia⟩
 clear HN
 simp only [World.size_alloc]at Ga
 obtain⟨Ba,lr⟩:=zaa HA
 have Ca:=zal Ba Ia
 have Pa:=Ga.lt
 have Ja:=lr.all Ia
 have Qa:=Ja.lt
 have HB:=hide (hbent _ w1 _ _ l Ga)
 have Ka:=hide (And.intro Ca Ja)
 clear HA Ba lr Ia Ca Ja Ga
 go_wp2_with fail
 refine (zaa HB).mono ?_
 rintro e w3 ⟨kd,a1,n1,c1,a2,n2,c2,a3,n3,c3,a4,n4,c4,rfl,hR,Oa,Ha⟩
 obtain⟨La,Ma⟩:=zaa Ka
 have Na:=zfm La Ha (fun q hq=>by simp at hq;omega)
 have Aa:=Ma.frm (Frm.ofGrown Ha) (by simp)
 obtain⟨b5,f5⟩:=box5 Aa (.int .i64 kd) (.slice a1 n1 c1) (.slice a2 n2 c2) (.slice a3 n3 c3) (.slice a4 n4 c4)
 have Da:=hR.out f5 (by simp;omega)
 have Fa:=zfm Na (Frm.toGrown' f5) (fun q hq=>by simp at hq;omega)
 have HE:=hide (And.intro b5 (And.intro Da Fa))
 have z0:=Aa.frozen 0
 have z1:=Aa.frozen 1
 have z2:=Aa.frozen 2
 have z3:=Aa.frozen 3
 have z4:=Aa.frozen 4
 obtain⟨y0,y1,y2,y3,y4⟩:=zbb Aa
 clear HB Ka La Ma Na Aa b5 f5 hR Da Fa Oa Ha
 go_wp2_with fail
 obtain⟨b5,Da,Fa⟩:=zaa HE
 obtain⟨k0,k1,k2,k3,k4⟩:=zbb b5
 exact bodyPost_ret (v:=.agg #[.int .i64 kd,.slice a1 n1 c1,.slice a2 n2 c2,.slice a3 n3 c3,.slice a4 n4 c4]) (by simp [results,Tryz.results14,go_sem,k0,k1,k2,k3,k4]) rfl ⟨_,_,_,_,_,_,_,_,_,_,_,_,_,rfl,Da,Fa⟩
end Go.Proofs.YtgjolijncmkkhaaGreatDoor
