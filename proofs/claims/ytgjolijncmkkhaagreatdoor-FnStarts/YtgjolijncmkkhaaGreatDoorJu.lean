/- Own texts joined: New, DrS. -/
import Derived.Test.YtgjolijncmkkhaaGreatDoorJa
import Derived.Test.YtgjolijncmkkhaaGreatDoorJe
import Derived.Test.YtgjolijncmkkhaaGreatDoorJf
import Derived.Deep.RegionHeld3
import Derived.Deep.RegionLaw
namespace Go.Proofs.YtgjolijncmkkhaaGreatDoor
open Go.RowKit
set_option linter.unusedVariables false
theorem zwa (w:Xk) (m:Xg) (n:Nat) (hn:m.length=n):zxX (w.alloc (.cells (m.map (Value.int .i64)).toArray 3)) (.slice (some ⟨w.heap.size,0,none⟩) n n) m:=by
 subst hn
 refine⟨w.heap.size,0,m.length,rfl,by simp,fun i hi=> ?_⟩
 rw [World.cell?_alloc_at _ _ _ _ rfl]
 simp [hi]
set_option maxRecDepth 100000
def zAr (w0:Xk) (g:Nat) (code:Xl) (l:Xg) (w:Xk) (e:Ending) (w':Xk):Prop:=∃kd a1 n1 c1 a2 n2 c2 a3 n3 c3 a4 n4 c4,e=.returned (.agg #[.int .i64 kd,.slice a1 n1 c1,.slice a2 n2 c2,.slice a3 n3 c3,.slice a4 n4 c4])∧RdX w' (List.range w.heap.size) [.int .i64 kd,.slice a1 n1 c1,.slice a2 n2 c2,.slice a3 n3 c3,.slice a4 n4 c4] 1000000∧Cur w0 w' g code l∧w.grownBy w' (some g)
def zpl:Prop:=∀(w0 w:Xk) (g:Nat) (code:Xl) (l:Xg),Cur w0 w g code l->Calls Tryz.prog 35 #[.pointer (some ⟨g,0,none⟩)] w (zAr w0 g code l w)
def zzY (w:Xk) (e:Ending) (w':Xk):Prop:=∃id kd a1 n1 c1 a2 n2 c2 a3 n3 c3 a4 n4 c4,e=.returned (.tuple #[.int .i64 id,.agg #[.int .i64 kd,.slice a1 n1 c1,.slice a2 n2 c2,.slice a3 n3 c3,.slice a4 n4 c4]])∧(∃(n:Nat) (t:Tr n),RdNode n w' [.int .i64 kd,.slice a1 n1 c1,.slice a2 n2 c2,.slice a3 n3 c3,.slice a4 n4 c4] t∧szT n t<=1000000)∧Below w.heap.size w w'
set_option maxHeartbeats 6400000 in
theorem zob (hbent:zpl) (w:Xk) (code:Xl) (l:Xg) (h:Byt w code l):Calls Tryz.prog 19 #[code] w (zzY w):=by
 have Fa:=(Below.refl w.heap.size w).alloc (Nat.le_refl _) (.cells #[.int .i64 0,.slice none 0 0,.slice none 0 0,.slice none 0 0,.slice none 0 0] 29)
 have lr:=Loc.made w #[.int .i64 0,.slice none 0 0,.slice none 0 0,.slice none 0 0,.slice none 0 0] 29
 have HN:=hide (ztV _ code l (h.keep Fa))
 have HA:=hide (And.intro Fa lr)
 obtain⟨a0,c0,rfl,_,_⟩:=h.shape
 clear h Fa lr
 go_enter Tryz.func19,Tryz.ntmps19
 go_wp2_with fail
 refine (zaa HN).mono ?_
 rintro e w1 ⟨rfl,Ia,La⟩
 clear HN
 simp only [World.size_alloc]at Ia
 obtain⟨Fa,lr⟩:=zaa HA
 have Aa:=zam Fa La
 have Va:=Ia.lt
 have Qa:=lr.all La
 have Ta:=lr.lt
 have Ca:=(Below.refl w1.heap.size w1).alloc (Nat.le_refl _) (.cells #[.int .i64 0,.int .i64 1,.int .i64 7,.int .i64 8,.int .i64 (-1)] 3)
 have HP:=hide (zoe _ _ _ _ l (.slice (some ⟨w1.heap.size,0,none⟩) 5 5) [0,1,7,8,-1] (Ia.keepAll Ca) (by simp) (by simp) (zwa w1 [0,1,7,8,-1] 5 rfl) (fun a n c e=>by injection e with e;injection e with e;subst e;simp;omega))
 have HL:=hide (And.intro Aa (And.intro Ca (Qa.all Ca)))
 clear HA Fa lr La Aa Qa Ca Ia
 go_wp2_with fail
 refine (zaa HP).mono ?_
 rintro e w2 ⟨id,_,rfl,Pa,Ma⟩
 obtain⟨Aa,Ca,Oa⟩:=zaa HL
 have Ua:w.heap.size+1<=w1.heap.size:=by omega
 have Ga:=zjk (zam Aa Ca) Ma (fun q hq=>by simp at hq;omega)
 have Da:=Oa.frm (Frm.ofGrown Ma) (by simp)
 have Ta:=Da.lt
 have HB:=hide (hbent _ w2 _ _ l Pa)
 have Ra:=hide (And.intro Ga Da)
 clear HP HL Aa Ca Oa Pa Ma Ga Da
 go_wp2_with fail
 refine (zaa HB).mono ?_
 rintro e w3 ⟨kd,a1,n1,c1,a2,n2,c2,a3,n3,c3,a4,n4,c4,rfl,hR,Sa,Ka⟩
 obtain⟨Ga,Da⟩:=zaa Ra
 have Na:=zjk Ga Ka (fun q hq=>by simp at hq;omega)
 have Ba:=Da.frm (Frm.ofGrown Ka) (by simp)
 obtain⟨b5,f5⟩:=box5 Ba (.int .i64 kd) (.slice a1 n1 c1) (.slice a2 n2 c2) (.slice a3 n3 c3) (.slice a4 n4 c4)
 have Ja:=hR.out f5 (by simp;omega)
 have Ha:=zjk Na (Frm.toGrown' f5) (fun q hq=>by simp at hq;omega)
 have HE:=hide (And.intro b5 (And.intro Ja Ha))
 have z0:=Ba.frozen 0
 have z1:=Ba.frozen 1
 have z2:=Ba.frozen 2
 have z3:=Ba.frozen 3
 have z4:=Ba.frozen 4
 obtain⟨y0,y1,y2,y3,y4⟩:=zdo Ba
 clear HB Ra Ga Da Na Ba b5 f5 hR Ja Ha Sa Ka
 go_wp2_with fail
 obtain⟨b5,Ja,Ha⟩:=zaa HE
 obtain⟨k0,k1,k2,k3,k4⟩:=zdo b5
 exact bodyPost_ret (v:=.tuple #[.int .i64 id,.agg #[.int .i64 kd,.slice a1 n1 c1,.slice a2 n2 c2,.slice a3 n3 c3,.slice a4 n4 c4]]) (by simp [results,Tryz.results19,go_sem,k0,k1,k2,k3,k4]) rfl ⟨id,_,_,_,_,_,_,_,_,_,_,_,_,_,rfl,Ja,Ha⟩
end Go.Proofs.YtgjolijncmkkhaaGreatDoor
