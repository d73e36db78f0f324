/- Own texts joined: FoIz. -/
import Derived.Test.YtgjolijncmkkhaaGreatDoorJa
import Derived.Test.YtgjolijncmkkhaaGreatDoorJc
import Derived.Test.YtgjolijncmkkhaaGreatDoorJq
import Derived.Test.YtgjolijncmkkhaaGreatDoorJr
namespace Go.Proofs.YtgjolijncmkkhaaGreatDoor
open Go.RowKit Go.Maps
set_option linter.unusedVariables false
set_option maxRecDepth 100000
open Classical in
set_option maxHeartbeats 6400000 in
theorem zqL (n:Nat) (w:Xk) (t:Tr (n+1)) (a1 a2 a3 a4:Xi) (c1 c2 c3 c4:Nat) (hN:RdNode (n+1) w [.int .i64 t.kind,.slice a1 t.name.length c1,.slice a2 t.text.length c2,.slice a3 t.attrs.length c3,.slice a4 t.kids.length c4] t) (h1:Byt w (.slice a1 t.name.length c1) t.name) (hsz:szT (n+1) t<=2097152) :
  Calls Tryz.prog 79 #[.agg #[.int .i64 t.kind,.slice a1 t.name.length c1,.slice a2 t.text.length c2,.slice a3 t.attrs.length c3,.slice a4 t.kids.length c4]] w fun e w'=>e=.returned (.bool (okN n t && !zaz t.name))∧Below w.heap.size w w':=by
 refine zaF ?_
 intro Q HQ
 have hA:Below w.heap.size w ((w.alloc (.cells #[.int .i64 t.kind,.slice a1 t.name.length c1,.slice a2 t.text.length c2,.slice a3 t.attrs.length c3,.slice a4 t.kids.length c4] 29)).alloc (.cells vs0 82)):=zam ((Below.refl _ _).alloc (Nat.le_refl _) _) ((Below.refl _ _).alloc (Nat.le_refl _) _)
 have l0:=(Loc.made w #[.int .i64 t.kind,.slice a1 t.name.length c1,.slice a2 t.text.length c2,.slice a3 t.attrs.length c3,.slice a4 t.kids.length c4] 29).alloc (.cells vs0 82)
 have l1:=Loc.made (w.alloc (.cells #[.int .i64 t.kind,.slice a1 t.name.length c1,.slice a2 t.text.length c2,.slice a3 t.attrs.length c3,.slice a4 t.kids.length c4] 29)) vs0 82
 simp only [World.size_alloc]at l1
 have HN:=hide (zgh n _ _ _ _ _ _ t (hN.keep hA) hsz)
 have x0:=l0.cell 0
 have x1:=l0.cell 1
 have x2:=l0.cell 2
 have x3:=l0.cell 3
 have x4:=l0.cell 4
 have HX:=hide (And.intro hA (And.intro l0 (And.intro l1 h1)))
 clear hA l0 l1 hN h1
 unfold vs0 at *
 go_enter Tryz.func79,Tryz.ntmps79
 go_wp2_with fail
 refine (zaa HN).mono ?_
 rintro e w2 ⟨rfl,Ba⟩
 obtain⟨hA,l0,l1,h1⟩:=zaa HX
 have m0:=l0.all Ba
 have m1:=l1.all Ba
 have Aa:=zam hA Ba
 have Ha:=m1.lt
 clear HX HN hA l0 l1 Ba x0 x1 x2 x3 x4
 cases ho:okN n t with
 | false=>
  have HE:=hide (zaa HQ (.returned (.bool false)) w2 ⟨by rw [ho];rfl,Aa⟩)
  clear HQ Aa m0 m1 h1
  go_wp2_with fail
  exact zaa HE
 | true=>
  have Ca:∀w',Frm w2 w' [w.heap.size+1]->Byt w' (.slice a1 t.name.length c1) t.name:=fun w' f=>h1.keep (Aa.trans (f.below Aa.size (fun q hq=>by have e9:q=w.heap.size+1:=(by simpa using hq);omega)))
  have HC:=hide (zmk w2.heap.size (w.heap.size+1) w2 _ t.name (.inl m1) (Nat.le_refl _) Ca)
  have Da:decide (Void t.name)=zaz t.name:=by
   cases hv:zaz t.name with
   | true=>exact decide_eq_true ((zbC _).1 hv)
   | false=>exact decide_eq_false (fun e=>by rw [(zbC _).2 e]at hv;cases hv)
  rw [Da]at HC
  have x1:=m0.cell 1
  have Ga:=hide (fun w' f=>zaa HQ (.returned (.bool (!zaz t.name))) w' ⟨by rw [ho];rfl,Aa.trans ((show Frm w2 w' [w.heap.size+1] from f).below Aa.size (fun q hq=>by have e9:q=w.heap.size+1:=(by simpa using hq);omega))⟩)
  clear HQ Aa m0 m1 h1 Ca Da
  go_wp2_with fail
  refine (zaa HC).mono ?_
  rintro e w3 ⟨rfl,_,Fa⟩
  have HE:=hide (zaa Ga w3 Fa)
  clear Ga HC Fa
  go_wp2_with fail
  exact zaa HE
def FoRM (w:Xk) (b:Bool) (R:List PlV) (e:Ending) (w':Xk):Prop:=∃a c F,e=.returned (.tuple #[.agg #[.slice a R.length c],.bool b])∧OwPlsM w' (.slice a R.length c) R F∧F.Nodup∧(∀q∈F,w.heap.size<=q∧q<w'.heap.size)∧Below w.heap.size w w'
theorem FoRM.no {w w':Xk} (h:Below w.heap.size w w'):FoRM w false [] (.returned (.tuple #[.agg #[.slice none 0 0],.bool false])) w':=
 ⟨none,0,[],rfl,⟨[],[],rfl,rfl,fun i hi=>(by cases hi),World.ownsRow_nil _ _ _ _,rfl⟩,List.nodup_nil,fun q hq=>(by cases hq),h⟩
theorem ztv {n:Nat} {t:Tr (n+1)} (h:okN n t=true):t.kind=0∧t.text=[]:=by
 obtain⟨hk,ho⟩:=Bool.and_eq_true_iff.1 (show (decide (t.kind=0) && (okT (n+1) 1 t 120).1)=true from h)
 have hk:=of_decide_eq_true hk
 refine⟨hk,?_⟩
 rw [zbl]at ho
 rw [if_neg (by decide),if_neg (by omega)]at ho
 by_cases h3:zaM t=true
 ·exact List.eq_nil_of_length_eq_zero ((zba _).1 h3).2.2.1
 ·rw [if_neg h3]at ho;cases ho
theorem zoP (n:Nat) (w:Xk) (t:Tr (n+1)) (a1 a2 a3 a4 a5:Xi) (c1 c2 c3 c4 c5:Nat) (ops:List OpV) (hrd:RdNode (n+1) w [.int .i64 t.kind,.slice a1 t.name.length c1,.slice a2 t.text.length c2,.slice a3 t.attrs.length c3,.slice a4 t.kids.length c4] t) (h5:RdOps w (.slice a5 ops.length c5) ops)
  (hN:okN n t=true) (hO:opsB ops=true) (hsz:szT (n+1) t<=2097152) (hG:Glo w) (hz:ops=[]) :
  Calls Tryz.prog 81 #[.agg #[.int .i64 t.kind,.slice a1 t.name.length c1,.slice a2 t.text.length c2,.slice a3 t.attrs.length c3,.slice a4 t.kids.length c4],.slice a5 ops.length c5] w fun e w'=>∃g mb a c F B,e=.returned (.pointer (some ⟨g,0,none⟩))∧w.heap.size<=B∧FoS B w' g mb a c (zbG t ops) F∧Below w.heap.size w w':=by
 obtain⟨r1,r2⟩:=ztv hN
 obtain⟨kd,nm,tx,Aa,ks⟩:Nd (Tr n):=t
 obtain rfl:kd=0:=r1
 obtain rfl:tx=[]:=r2
 exact zoa n w nm Aa ks a1 a2 a3 a4 a5 c1 c2 c3 c4 c5 ops hrd h5 hN hO hsz hG hz
set_option maxHeartbeats 6400000 in
theorem ztk (n:Nat) (w:Xk) (t:Tr (n+1)) (a1 a2 a3 a4 a5:Xi) (c1 c2 c3 c4 c5:Nat) (ops:List OpV) (hN:RdNode (n+1) w [.int .i64 t.kind,.slice a1 t.name.length c1,.slice a2 t.text.length c2,.slice a3 t.attrs.length c3,.slice a4 t.kids.length c4] t) (h5:RdOps w (.slice a5 ops.length c5) ops) (hsz:szT (n+1) t<=2097152) (hG:Glo w) (hz:ops=[]) :
  Calls Tryz.prog 42 #[.agg #[.int .i64 t.kind,.slice a1 t.name.length c1,.slice a2 t.text.length c2,.slice a3 t.attrs.length c3,.slice a4 t.kids.length c4],.slice a5 ops.length c5] w fun e w'=>FoRM w (zeG t ops) (zfi t ops) e w':=by
 refine zaF ?_
 intro Q HQ
 have La:=hide hz
 clear hz
 have h1:Byt w (.slice a1 t.name.length c1) t.name:=by obtain⟨_,_,_,_,e,_,_,h,_⟩:=hN;cases e;exact h
 have hA:Below w.heap.size w ((w.alloc (.cells #[.int .i64 t.kind,.slice a1 t.name.length c1,.slice a2 t.text.length c2,.slice a3 t.attrs.length c3,.slice a4 t.kids.length c4] 29)).alloc (.cells #[.slice none 0 0] 107)):=zam ((Below.refl _ _).alloc (Nat.le_refl _) _) ((Below.refl _ _).alloc (Nat.le_refl _) _)
 have l0:=(Loc.made w #[.int .i64 t.kind,.slice a1 t.name.length c1,.slice a2 t.text.length c2,.slice a3 t.attrs.length c3,.slice a4 t.kids.length c4] 29).alloc (.cells #[.slice none 0 0] 107)
 have l1:=Loc.made (w.alloc (.cells #[.int .i64 t.kind,.slice a1 t.name.length c1,.slice a2 t.text.length c2,.slice a3 t.attrs.length c3,.slice a4 t.kids.length c4] 29)) #[.slice none 0 0] 107
 simp only [World.size_alloc]at l1
 have HN:=hide (zqL n _ t a1 a2 a3 a4 c1 c2 c3 c4 (hN.keep hA) (h1.keep hA) hsz)
 have x0:=l0.cell 0
 have x1:=l0.cell 1
 have x2:=l0.cell 2
 have x3:=l0.cell 3
 have x4:=l0.cell 4
 obtain⟨bb,Ha⟩:∃bb,bb=(okN n t && !zaz t.name):=⟨_,rfl⟩
 rw [<-Ha]at HN
 have Da:=hide Ha
 have HX:=hide (And.intro hA (And.intro l0 (And.intro l1 (And.intro hN (And.intro h5 hG)))))
 clear hA l0 l1 hN h1 h5 hG Ha
 go_enter Tryz.func42,Tryz.ntmps42
 go_wp2_with fail
 refine (zaa HN).mono ?_
 rintro e w2 ⟨rfl,Fa⟩
 obtain⟨hA,l0,l1,hN,h5,hG⟩:=zaa HX
 have m0:=l0.all Fa
 have m1:=l1.all Fa
 have Ba:=zam hA Fa
 clear HX HN hA l0 l1 Fa x0 x1 x2 x3 x4
 cases bb with
 | false=>
  have hb:=(zaa Da).symm
  have hB:zeG t ops=false:=by unfold zeG;rw [hb];rfl
  have hR:zfi t ops=[]:=by unfold zfi;rw [hB];rfl
  have r0:=m1.cell 0
  have rf:=m1.frozen 0
  have lX:=m1.set 0 (.slice none 0 0)
  have fX:=zal w2 (w.heap.size+1) 0 (.slice none 0 0)
  have HE:=hide (And.intro lX (zaa HQ (.returned (.tuple #[.agg #[.slice none 0 0],.bool false])) _ (by rw [hB,hR];exact FoRM.no (Ba.trans (fX.below Ba.size (fun q hq=>by have e9:q=w.heap.size+1:=(by simpa using hq);omega))))))
  clear HQ Ba m0 m1 lX fX hN h5 hG hB hR hb Da
  go_wp2_with fail
  have eX:=(zaa HE).1.cell 0
  exact bodyPost_ret (v:=.tuple #[.agg #[.slice none 0 0],.bool false]) (by simp [results,Tryz.results42,go_sem,eX]) rfl (zaa HE).2
 | true=>
  have hb:=(zaa Da).symm
  have HO:=hide (show Calls Tryz.prog 44 #[.slice a5 ops.length c5] w2 fun e w'=>e=.returned (.bool (opsB ops))∧Below w2.heap.size w2 w' by
   rw [zaa La]
   exact (zpz w2 a5 c5).mono fun e w' ⟨h1,h2⟩=>⟨h1,h2 ▸ Below.refl _ _⟩)
  have HY:=hide (And.intro Ba (And.intro m0 (And.intro m1 (And.intro hN (And.intro h5 (And.intro hG hb))))))
  clear Ba m0 m1 hN h5 hG hb Da
  go_wp2_with fail
  refine (zaa HO).mono ?_
  rintro e w3 ⟨rfl,Ca⟩
  obtain⟨Ba,m0,m1,hN,h5,hG,hb⟩:=zaa HY
  have n0:=m0.all Ca
  have n1:=m1.all Ca
  have Aa:=zam Ba Ca
  clear HO HY Ba m0 m1 Ca
  cases ho:opsB ops with
  | false=>
   have hB:zeG t ops=false:=by unfold zeG;rw [ho];simp
   have hR:zfi t ops=[]:=by unfold zfi;rw [hB];rfl
   have r0:=n1.cell 0
   have rf:=n1.frozen 0
   have lX:=n1.set 0 (.slice none 0 0)
   have fX:=zal w3 (w.heap.size+1) 0 (.slice none 0 0)
   have HE:=hide (And.intro lX (zaa HQ (.returned (.tuple #[.agg #[.slice none 0 0],.bool false])) _ (by rw [hB,hR];exact FoRM.no (Aa.trans (fX.below Aa.size (fun q hq=>by have e9:q=w.heap.size+1:=(by simpa using hq);omega))))))
   clear HQ Aa n0 n1 lX fX hN h5 hG hB hR hb
   go_wp2_with fail
   have eX:=(zaa HE).1.cell 0
   exact bodyPost_ret (v:=.tuple #[.agg #[.slice none 0 0],.bool false]) (by simp [results,Tryz.results42,go_sem,eX]) rfl (zaa HE).2
  | true=>
   have hB:zeG t ops=true:=by unfold zeG;rw [hb,ho];rfl
   have hR:zfi t ops=zbG t ops:=by unfold zfi;rw [hB];rfl
   have Ia:okN n t=true:=by cases hq:okN n t with | true=>rfl | false=>rw [hq]at hb;cases hb
   have HC:=hide (zoP n w3 t a1 a2 a3 a4 a5 c1 c2 c3 c4 c5 ops (hN.keep Aa) (h5.keep Aa) Ia ho hsz (hG.keep Aa) (zaa La))
   have y0:=n0.cell 0
   have y1:=n0.cell 1
   have y2:=n0.cell 2
   have y3:=n0.cell 3
   have y4:=n0.cell 4
   have HZ:=hide (And.intro Aa (And.intro n1 (And.intro hB hR)))
   clear Aa n0 n1 hN h5 hG hB hR hb ho Ia
   go_wp2_with fail
   refine (zaa HC).mono ?_
   rintro e w4 ⟨g,mb,a,c,F,B,rfl,Pa,hs,Ja⟩
   obtain⟨Aa,n1,hB,hR⟩:=zaa HZ
   obtain⟨cs,lg,Ka,_⟩:=hs.set.loc
   have g0:w4.cell? ⟨g,0,none⟩=some (.slice a (zbG t ops).length c):=(lg.cell 0).trans Ka
   have o1:=n1.all Ja
   have Ga:=zam Aa Ja
   have Qa:=n1.lt
   have r0:=o1.cell 0
   have rf:=o1.frozen 0
   have lX:=o1.set 0 (.slice a (zbG t ops).length c)
   have fX:=zal w4 (w.heap.size+1) 0 (.slice a (zbG t ops).length c)
   have Ma:=OwPlsM.lt hs.row
   have Na:=Aa.size
   have Oa:=fX.size
   have HE:=hide (And.intro lX (zaa HQ (.returned (.tuple #[.agg #[.slice a (zbG t ops).length c],.bool true])) _ (by
    rw [hB,hR]
    exact⟨a,c,F,rfl,hs.row.frm fX (fun q hq e=>by have e9:q=w.heap.size+1:=(by simpa using e);have:=hs.ge q hq;omega),hs.nd,fun q hq=>⟨by have:=hs.ge q hq;omega,by have:=Ma q hq;omega⟩,Ga.trans (fX.below Ga.size (fun q hq=>by have e9:q=w.heap.size+1:=(by simpa using hq);omega))⟩)))
   clear HQ HC HZ hs lg Ka o1 Ga lX fX Ma Aa n1 hB hR
   generalize (zbG t ops).length=nn at *
   go_wp2_with fail
   have eX:=(zaa HE).1.cell 0
   exact bodyPost_ret (v:=.tuple #[.agg #[.slice a nn c],.bool true]) (by simp [results,Tryz.results42,go_sem,eX]) rfl (zaa HE).2
end Go.Proofs.YtgjolijncmkkhaaGreatDoor
