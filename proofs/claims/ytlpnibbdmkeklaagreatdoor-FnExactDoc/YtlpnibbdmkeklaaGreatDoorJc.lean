/- Own texts joined: ToO, PlT, App, AppAt, AppZ, FrpT, Mark, Tool, OwnE, MarkA, MarkM, MarkN, MarkT, Rng, NameI, AttrI. -/
import Derived.Test.YtlpnibbdmkeklaaGreatDoorJa
import Derived.Test.YtlpnibbdmkeklaaGreatDoorJb
import Derived.Maps.AppendAt
import Derived.Laws.AppendOwnNone
import Derived.Deep.RegionLaw
import Derived.Test.YtlpnibbdmkeklaaGreatDoorChecked
import Derived.RangeFuncNested
import Derived.RangeFuncBound
import Derived.RangeFuncCalls
import Derived.RangeFuncLeaves
import Derived.Shelf.Abstract
import Derived.WalkKit
import Derived.OwnWalkIn
import Derived.TacticsInMore
import Derived.LoopNIn
import Derived.LoopIn
namespace Go.Proofs.YtlpnibbdmkeklaaGreatDoor
open Go.RowKit
set_option linter.unusedVariables false
set_option maxRecDepth 100000
theorem OwnZ.frm {w w':World} {base:Nat} {v:Value} {l:List Int} {S:List Nat} (h:OwnZ w base v l) (f:Frm w w' S) (hd:∀g∈FB v,g∉S):OwnZ w' base v l:=⟨h.1,zah h.2 f hd⟩
theorem OwnZ.rng {w:World} {base:Nat} {v:Value} {l:List Int} (h:OwnZ w base v l):Rng (FB v) base w.heap.size:=fun g hg=>h.lt g (by simpa [FB]using hg)
theorem Loc.be {w:World} {g:Nat} {cs ds:Array Value} {T:TypeId} (h:Loc w g cs T) (e:cs=ds):Loc w g ds T:=e ▸ h
set_option maxHeartbeats 6400000 in
theorem zpP (w:World) (v:Value) (o:OpV) (h:RdOp w v o) (hs:o.key.length+o.name.length+o.text.length≤2097152) :
  Calls Tryz.prog 45 #[v] w fun e w'=>∃k n t,e=.returned (zaU o k n t)∧OwnZ w' w.heap.size k o.key∧Own w' w.heap.size n o.name∧Own w' w.heap.size t o.text∧(FB k++FB n++FB t).Nodup∧Below w.heap.size w w':=by
 obtain⟨k,n,t,rfl,hk,hn,ht⟩:=h
 obtain⟨pk,ck,rfl,_,_⟩:=hk.shape
 obtain⟨pn,cn,rfl,_,_⟩:=hn.shape
 obtain⟨pt,ct,rfl,_,_⟩:=ht.shape
 have H:=hide (And.intro hk (And.intro hn ht))
 clear hk hn ht
 have HS:=hide hs
 clear hs
 unfold zaU
 have l0:=(((Loc.made w #[.int .i64 o.kind,.int .i64 o.atN,.int .i64 o.atR,.int .i64 o.nodeN,.int .i64 o.nodeR,.int .i64 o.parN,.int .i64 o.parR,.slice pk o.key.length ck,.int .i64 o.elem,.slice pn o.name.length cn,.slice pt o.text.length ct,.bool o.gone] 77).alloc (.cells #[.int .i64 0,.int .i64 0,.int .i64 0,.int .i64 0,.int .i64 0,.int .i64 0,.int .i64 0,.slice none 0 0,.int .i64 0,.slice none 0 0,.slice none 0 0,.bool false] 83)).alloc (.cells #[.int .i64 o.kind,.int .i64 0,.int .i64 0,.int .i64 0,.int .i64 0,.int .i64 0,.int .i64 0,.slice none 0 0,.int .i64 0,.slice none 0 0,.slice none 0 0,.bool false] 83))
 have l1:=(Loc.made (w.alloc (.cells #[.int .i64 o.kind,.int .i64 o.atN,.int .i64 o.atR,.int .i64 o.nodeN,.int .i64 o.nodeR,.int .i64 o.parN,.int .i64 o.parR,.slice pk o.key.length ck,.int .i64 o.elem,.slice pn o.name.length cn,.slice pt o.text.length ct,.bool o.gone] 77)) #[.int .i64 0,.int .i64 0,.int .i64 0,.int .i64 0,.int .i64 0,.int .i64 0,.int .i64 0,.slice none 0 0,.int .i64 0,.slice none 0 0,.slice none 0 0,.bool false] 83).alloc (.cells #[.int .i64 o.kind,.int .i64 0,.int .i64 0,.int .i64 0,.int .i64 0,.int .i64 0,.int .i64 0,.slice none 0 0,.int .i64 0,.slice none 0 0,.slice none 0 0,.bool false] 83)
 have l2:=Loc.made ((w.alloc (.cells #[.int .i64 o.kind,.int .i64 o.atN,.int .i64 o.atR,.int .i64 o.nodeN,.int .i64 o.nodeR,.int .i64 o.parN,.int .i64 o.parR,.slice pk o.key.length ck,.int .i64 o.elem,.slice pn o.name.length cn,.slice pt o.text.length ct,.bool o.gone] 77)).alloc (.cells #[.int .i64 0,.int .i64 0,.int .i64 0,.int .i64 0,.int .i64 0,.int .i64 0,.int .i64 0,.slice none 0 0,.int .i64 0,.slice none 0 0,.slice none 0 0,.bool false] 83)) #[.int .i64 o.kind,.int .i64 0,.int .i64 0,.int .i64 0,.int .i64 0,.int .i64 0,.int .i64 0,.slice none 0 0,.int .i64 0,.slice none 0 0,.slice none 0 0,.bool false] 83
 have hA:Below w.heap.size w (((w.alloc (.cells #[.int .i64 o.kind,.int .i64 o.atN,.int .i64 o.atR,.int .i64 o.nodeN,.int .i64 o.nodeR,.int .i64 o.parN,.int .i64 o.parR,.slice pk o.key.length ck,.int .i64 o.elem,.slice pn o.name.length cn,.slice pt o.text.length ct,.bool o.gone] 77)).alloc (.cells #[.int .i64 0,.int .i64 0,.int .i64 0,.int .i64 0,.int .i64 0,.int .i64 0,.int .i64 0,.slice none 0 0,.int .i64 0,.slice none 0 0,.slice none 0 0,.bool false] 83)).alloc (.cells #[.int .i64 o.kind,.int .i64 0,.int .i64 0,.int .i64 0,.int .i64 0,.int .i64 0,.int .i64 0,.slice none 0 0,.int .i64 0,.slice none 0 0,.slice none 0 0,.bool false] 83)):=(((Below.refl _ _).alloc (Nat.le_refl _) _).alloc (by simp) _).alloc (by simp;omega) _
 simp only [World.size_alloc]at l1 l2
 have L:=hide (And.intro l0 (And.intro l1 (And.intro l2 hA)))
 clear l0 l1 l2 hA
 go_enter Tryz.func45,Tryz.ntmps45
 go_wp2_with fail
 obtain⟨l0,l1,l2,hA⟩:=zaa L
 clear L
 generalize (((w.alloc (.cells #[.int .i64 o.kind,.int .i64 o.atN,.int .i64 o.atR,.int .i64 o.nodeN,.int .i64 o.nodeR,.int .i64 o.parN,.int .i64 o.parR,.slice pk o.key.length ck,.int .i64 o.elem,.slice pn o.name.length cn,.slice pt o.text.length ct,.bool o.gone] 77)).alloc (.cells #[.int .i64 0,.int .i64 0,.int .i64 0,.int .i64 0,.int .i64 0,.int .i64 0,.int .i64 0,.slice none 0 0,.int .i64 0,.slice none 0 0,.slice none 0 0,.bool false] 83)).alloc (.cells #[.int .i64 o.kind,.int .i64 0,.int .i64 0,.int .i64 0,.int .i64 0,.int .i64 0,.int .i64 0,.slice none 0 0,.int .i64 0,.slice none 0 0,.slice none 0 0,.bool false] 83))=W at *
 refine (zfe _ o.atN o.atR).mono ?_
 rintro e w1 ⟨rfl,hB⟩
 replace l0:=l0.all hB
 replace l1:=l1.all hB
 replace l2:=l2.all hB
 replace hA:=zad hA hB
 clear hB
 have e0_3:=l0.cell 3
 have e0_4:=l0.cell 4
 have e2_1:=l2.cell 1
 have f2_1:=l2.frozen 1
 have e2_2:=l2.cell 2
 have f2_2:=l2.frozen 2
 simp at e0_3 e0_4 e2_1 e2_2
 have m0:Loc ((w1.setCell ⟨w.heap.size+1+1,1,none⟩ (.int .i64 o.atN)).setCell ⟨w.heap.size+1+1,2,none⟩ (.int .i64 o.atR)) w.heap.size #[.int .i64 o.kind,.int .i64 o.atN,.int .i64 o.atR,.int .i64 o.nodeN,.int .i64 o.nodeR,.int .i64 o.parN,.int .i64 o.parR,.slice pk o.key.length ck,.int .i64 o.elem,.slice pn o.name.length cn,.slice pt o.text.length ct,.bool o.gone] 77:=((l0.other _ _ _ (by omega)).other _ _ _ (by omega))
 have m1:Loc ((w1.setCell ⟨w.heap.size+1+1,1,none⟩ (.int .i64 o.atN)).setCell ⟨w.heap.size+1+1,2,none⟩ (.int .i64 o.atR)) (w.heap.size+1) #[.int .i64 0,.int .i64 0,.int .i64 0,.int .i64 0,.int .i64 0,.int .i64 0,.int .i64 0,.slice none 0 0,.int .i64 0,.slice none 0 0,.slice none 0 0,.bool false] 83:=((l1.other _ _ _ (by omega)).other _ _ _ (by omega))
 have m2:Loc ((w1.setCell ⟨w.heap.size+1+1,1,none⟩ (.int .i64 o.atN)).setCell ⟨w.heap.size+1+1,2,none⟩ (.int .i64 o.atR)) (w.heap.size+1+1) #[.int .i64 o.kind,.int .i64 o.atN,.int .i64 o.atR,.int .i64 0,.int .i64 0,.int .i64 0,.int .i64 0,.slice none 0 0,.int .i64 0,.slice none 0 0,.slice none 0 0,.bool false] 83:=((l2.set 1 (.int .i64 o.atN)).set 2 (.int .i64 o.atR)).be (by simp)
 have hf:Frm w1 ((w1.setCell ⟨w.heap.size+1+1,1,none⟩ (.int .i64 o.atN)).setCell ⟨w.heap.size+1+1,2,none⟩ (.int .i64 o.atR)) [w.heap.size+1+1]:=((zab _ _ _ _).trans (zab _ _ _ _))
 have hA2:Below w.heap.size w ((w1.setCell ⟨w.heap.size+1+1,1,none⟩ (.int .i64 o.atN)).setCell ⟨w.heap.size+1+1,2,none⟩ (.int .i64 o.atR)):=hA.trans (hf.below hA.size (fun g hg=>by simp at hg;omega))
 have L:=hide (And.intro m0 (And.intro m1 (And.intro m2 hA2)))
 clear m0 m1 m2 hf hA2 l0 l1 l2 hA
 go_wp2_with fail
 obtain⟨l0,l1,l2,hA⟩:=zaa L
 clear L
 clear e0_3 e0_4 e2_1 f2_1 e2_2 f2_2
 refine (zfe _ o.nodeN o.nodeR).mono ?_
 rintro e w2 ⟨rfl,hB⟩
 replace l0:=l0.all hB
 replace l1:=l1.all hB
 replace l2:=l2.all hB
 replace hA:=zad hA hB
 clear hB
 have e0_5:=l0.cell 5
 have e0_6:=l0.cell 6
 have e2_3:=l2.cell 3
 have f2_3:=l2.frozen 3
 have e2_4:=l2.cell 4
 have f2_4:=l2.frozen 4
 simp at e0_5 e0_6 e2_3 e2_4
 have m0:Loc ((w2.setCell ⟨w.heap.size+1+1,3,none⟩ (.int .i64 o.nodeN)).setCell ⟨w.heap.size+1+1,4,none⟩ (.int .i64 o.nodeR)) w.heap.size #[.int .i64 o.kind,.int .i64 o.atN,.int .i64 o.atR,.int .i64 o.nodeN,.int .i64 o.nodeR,.int .i64 o.parN,.int .i64 o.parR,.slice pk o.key.length ck,.int .i64 o.elem,.slice pn o.name.length cn,.slice pt o.text.length ct,.bool o.gone] 77:=((l0.other _ _ _ (by omega)).other _ _ _ (by omega))
 have m1:Loc ((w2.setCell ⟨w.heap.size+1+1,3,none⟩ (.int .i64 o.nodeN)).setCell ⟨w.heap.size+1+1,4,none⟩ (.int .i64 o.nodeR)) (w.heap.size+1) #[.int .i64 0,.int .i64 0,.int .i64 0,.int .i64 0,.int .i64 0,.int .i64 0,.int .i64 0,.slice none 0 0,.int .i64 0,.slice none 0 0,.slice none 0 0,.bool false] 83:=((l1.other _ _ _ (by omega)).other _ _ _ (by omega))
 have m2:Loc ((w2.setCell ⟨w.heap.size+1+1,3,none⟩ (.int .i64 o.nodeN)).setCell ⟨w.heap.size+1+1,4,none⟩ (.int .i64 o.nodeR)) (w.heap.size+1+1) #[.int .i64 o.kind,.int .i64 o.atN,.int .i64 o.atR,.int .i64 o.nodeN,.int .i64 o.nodeR,.int .i64 0,.int .i64 0,.slice none 0 0,.int .i64 0,.slice none 0 0,.slice none 0 0,.bool false] 83:=((l2.set 3 (.int .i64 o.nodeN)).set 4 (.int .i64 o.nodeR)).be (by simp)
 have hf:Frm w2 ((w2.setCell ⟨w.heap.size+1+1,3,none⟩ (.int .i64 o.nodeN)).setCell ⟨w.heap.size+1+1,4,none⟩ (.int .i64 o.nodeR)) [w.heap.size+1+1]:=((zab _ _ _ _).trans (zab _ _ _ _))
 have hA2:Below w.heap.size w ((w2.setCell ⟨w.heap.size+1+1,3,none⟩ (.int .i64 o.nodeN)).setCell ⟨w.heap.size+1+1,4,none⟩ (.int .i64 o.nodeR)):=hA.trans (hf.below hA.size (fun g hg=>by simp at hg;omega))
 have L:=hide (And.intro m0 (And.intro m1 (And.intro m2 hA2)))
 clear m0 m1 m2 hf hA2 l0 l1 l2 hA
 go_wp2_with fail
 obtain⟨l0,l1,l2,hA⟩:=zaa L
 clear L
 clear e0_5 e0_6 e2_3 f2_3 e2_4 f2_4
 refine (zfe _ o.parN o.parR).mono ?_
 rintro e w3 ⟨rfl,hB⟩
 replace l0:=l0.all hB
 replace l1:=l1.all hB
 replace l2:=l2.all hB
 replace hA:=zad hA hB
 clear hB
 have e0_7:=l0.cell 7
 have e2_5:=l2.cell 5
 have f2_5:=l2.frozen 5
 have e2_6:=l2.cell 6
 have f2_6:=l2.frozen 6
 simp at e0_7 e2_5 e2_6
 have m0:Loc ((w3.setCell ⟨w.heap.size+1+1,5,none⟩ (.int .i64 o.parN)).setCell ⟨w.heap.size+1+1,6,none⟩ (.int .i64 o.parR)) w.heap.size #[.int .i64 o.kind,.int .i64 o.atN,.int .i64 o.atR,.int .i64 o.nodeN,.int .i64 o.nodeR,.int .i64 o.parN,.int .i64 o.parR,.slice pk o.key.length ck,.int .i64 o.elem,.slice pn o.name.length cn,.slice pt o.text.length ct,.bool o.gone] 77:=((l0.other _ _ _ (by omega)).other _ _ _ (by omega))
 have m1:Loc ((w3.setCell ⟨w.heap.size+1+1,5,none⟩ (.int .i64 o.parN)).setCell ⟨w.heap.size+1+1,6,none⟩ (.int .i64 o.parR)) (w.heap.size+1) #[.int .i64 0,.int .i64 0,.int .i64 0,.int .i64 0,.int .i64 0,.int .i64 0,.int .i64 0,.slice none 0 0,.int .i64 0,.slice none 0 0,.slice none 0 0,.bool false] 83:=((l1.other _ _ _ (by omega)).other _ _ _ (by omega))
 have m2:Loc ((w3.setCell ⟨w.heap.size+1+1,5,none⟩ (.int .i64 o.parN)).setCell ⟨w.heap.size+1+1,6,none⟩ (.int .i64 o.parR)) (w.heap.size+1+1) #[.int .i64 o.kind,.int .i64 o.atN,.int .i64 o.atR,.int .i64 o.nodeN,.int .i64 o.nodeR,.int .i64 o.parN,.int .i64 o.parR,.slice none 0 0,.int .i64 0,.slice none 0 0,.slice none 0 0,.bool false] 83:=((l2.set 5 (.int .i64 o.parN)).set 6 (.int .i64 o.parR)).be (by simp)
 have hf:Frm w3 ((w3.setCell ⟨w.heap.size+1+1,5,none⟩ (.int .i64 o.parN)).setCell ⟨w.heap.size+1+1,6,none⟩ (.int .i64 o.parR)) [w.heap.size+1+1]:=((zab _ _ _ _).trans (zab _ _ _ _))
 have hA2:Below w.heap.size w ((w3.setCell ⟨w.heap.size+1+1,5,none⟩ (.int .i64 o.parN)).setCell ⟨w.heap.size+1+1,6,none⟩ (.int .i64 o.parR)):=hA.trans (hf.below hA.size (fun g hg=>by simp at hg;omega))
 have L:=hide (And.intro m0 (And.intro m1 (And.intro m2 hA2)))
 clear m0 m1 m2 hf hA2 l0 l1 l2 hA
 go_wp2_with fail
 obtain⟨l0,l1,l2,hA⟩:=zaa L
 clear L
 clear e0_7 e2_5 f2_5 e2_6 f2_6
 have zk:=l2.lt
 refine (zrC _ _ o.key ((zaa H).1.keep hA) (by have:=zaa HS;omega)).mono ?_
 rintro e w4 ⟨vk,rfl,ok,_,hB⟩
 obtain⟨ak,dk,hvk,_,_⟩:=ok.ints.shape
 subst hvk
 have rk:=ok.rng
 have sk:=hB.size
 replace l0:=l0.all hB
 replace l1:=l1.all hB
 replace l2:=l2.all hB
 replace hA:=zad hA hB
 clear hB
 have e0_8:=l0.cell 8
 have e0_9:=l0.cell 9
 have e2_7:=l2.cell 7
 have f2_7:=l2.frozen 7
 have e2_8:=l2.cell 8
 have f2_8:=l2.frozen 8
 simp at e0_8 e0_9 e2_7 e2_8
 have m0:Loc ((w4.setCell ⟨w.heap.size+1+1,7,none⟩ (.slice ak o.key.length dk)).setCell ⟨w.heap.size+1+1,8,none⟩ (.int .i64 o.elem)) w.heap.size #[.int .i64 o.kind,.int .i64 o.atN,.int .i64 o.atR,.int .i64 o.nodeN,.int .i64 o.nodeR,.int .i64 o.parN,.int .i64 o.parR,.slice pk o.key.length ck,.int .i64 o.elem,.slice pn o.name.length cn,.slice pt o.text.length ct,.bool o.gone] 77:=((l0.other _ _ _ (by omega)).other _ _ _ (by omega))
 have m1:Loc ((w4.setCell ⟨w.heap.size+1+1,7,none⟩ (.slice ak o.key.length dk)).setCell ⟨w.heap.size+1+1,8,none⟩ (.int .i64 o.elem)) (w.heap.size+1) #[.int .i64 0,.int .i64 0,.int .i64 0,.int .i64 0,.int .i64 0,.int .i64 0,.int .i64 0,.slice none 0 0,.int .i64 0,.slice none 0 0,.slice none 0 0,.bool false] 83:=((l1.other _ _ _ (by omega)).other _ _ _ (by omega))
 have m2:Loc ((w4.setCell ⟨w.heap.size+1+1,7,none⟩ (.slice ak o.key.length dk)).setCell ⟨w.heap.size+1+1,8,none⟩ (.int .i64 o.elem)) (w.heap.size+1+1) #[.int .i64 o.kind,.int .i64 o.atN,.int .i64 o.atR,.int .i64 o.nodeN,.int .i64 o.nodeR,.int .i64 o.parN,.int .i64 o.parR,.slice ak o.key.length dk,.int .i64 o.elem,.slice none 0 0,.slice none 0 0,.bool false] 83:=((l2.set 7 (.slice ak o.key.length dk)).set 8 (.int .i64 o.elem)).be (by simp)
 have hf:Frm w4 ((w4.setCell ⟨w.heap.size+1+1,7,none⟩ (.slice ak o.key.length dk)).setCell ⟨w.heap.size+1+1,8,none⟩ (.int .i64 o.elem)) [w.heap.size+1+1]:=((zab _ _ _ _).trans (zab _ _ _ _))
 have hA2:Below w.heap.size w ((w4.setCell ⟨w.heap.size+1+1,7,none⟩ (.slice ak o.key.length dk)).setCell ⟨w.heap.size+1+1,8,none⟩ (.int .i64 o.elem)):=hA.trans (hf.below hA.size (fun g hg=>by simp at hg;omega))
 have qk:=ok.frm hf (fun g hg=>by have:=rk g hg;simp;omega)
 have L:=hide (And.intro qk (And.intro m0 (And.intro m1 (And.intro m2 hA2))))
 clear m0 m1 m2 hf hA2 l0 l1 l2 hA qk ok
 go_wp2_with fail
 obtain⟨ok,l0,l1,l2,hA⟩:=zaa L
 clear L
 clear e0_8 e0_9 e2_7 f2_7 e2_8 f2_8
 have zn:=l2.lt
 refine (zea _ _ o.name ((zaa H).2.1.keep hA) (by have:=zaa HS;omega)).mono ?_
 rintro e w5 ⟨vn,rfl,on,_,hB⟩
 obtain⟨an,dn,hvn,_,_⟩:=on.byt.shape
 subst hvn
 have rn:=on.rng
 replace ok:=ok.keep hB
 have sn:=hB.size
 replace l0:=l0.all hB
 replace l1:=l1.all hB
 replace l2:=l2.all hB
 replace hA:=zad hA hB
 clear hB
 have e0_10:=l0.cell 10
 have e2_9:=l2.cell 9
 have f2_9:=l2.frozen 9
 simp at e0_10 e2_9
 have m0:Loc (w5.setCell ⟨w.heap.size+1+1,9,none⟩ (.slice an o.name.length dn)) w.heap.size #[.int .i64 o.kind,.int .i64 o.atN,.int .i64 o.atR,.int .i64 o.nodeN,.int .i64 o.nodeR,.int .i64 o.parN,.int .i64 o.parR,.slice pk o.key.length ck,.int .i64 o.elem,.slice pn o.name.length cn,.slice pt o.text.length ct,.bool o.gone] 77:=(l0.other _ _ _ (by omega))
 have m1:Loc (w5.setCell ⟨w.heap.size+1+1,9,none⟩ (.slice an o.name.length dn)) (w.heap.size+1) #[.int .i64 0,.int .i64 0,.int .i64 0,.int .i64 0,.int .i64 0,.int .i64 0,.int .i64 0,.slice none 0 0,.int .i64 0,.slice none 0 0,.slice none 0 0,.bool false] 83:=(l1.other _ _ _ (by omega))
 have m2:Loc (w5.setCell ⟨w.heap.size+1+1,9,none⟩ (.slice an o.name.length dn)) (w.heap.size+1+1) #[.int .i64 o.kind,.int .i64 o.atN,.int .i64 o.atR,.int .i64 o.nodeN,.int .i64 o.nodeR,.int .i64 o.parN,.int .i64 o.parR,.slice ak o.key.length dk,.int .i64 o.elem,.slice an o.name.length dn,.slice none 0 0,.bool false] 83:=(l2.set 9 (.slice an o.name.length dn)).be (by simp)
 have hf:Frm w5 (w5.setCell ⟨w.heap.size+1+1,9,none⟩ (.slice an o.name.length dn)) [w.heap.size+1+1]:=(zab _ _ _ _)
 have hA2:Below w.heap.size w (w5.setCell ⟨w.heap.size+1+1,9,none⟩ (.slice an o.name.length dn)):=hA.trans (hf.below hA.size (fun g hg=>by simp at hg;omega))
 have qk:=ok.frm hf (fun g hg=>by have:=rk g hg;simp;omega)
 have qn:=on.frm hf (fun g hg=>by have:=rn g hg;simp;omega)
 have L:=hide (And.intro qn (And.intro qk (And.intro m0 (And.intro m1 (And.intro m2 hA2)))))
 clear m0 m1 m2 hf hA2 l0 l1 l2 hA qk ok qn on
 go_wp2_with fail
 obtain⟨on,ok,l0,l1,l2,hA⟩:=zaa L
 clear L
 clear e0_10 e2_9 f2_9
 have zt:=l2.lt
 refine (zea _ _ o.text ((zaa H).2.2.keep hA) (by have:=zaa HS;omega)).mono ?_
 rintro e w6 ⟨vt,rfl,ot,_,hB⟩
 obtain⟨at1,dt,hvt,_,_⟩:=ot.byt.shape
 subst hvt
 have rt:=ot.rng
 replace ok:=ok.keep hB
 replace on:=on.keep hB
 have st:=hB.size
 replace l0:=l0.all hB
 replace l1:=l1.all hB
 replace l2:=l2.all hB
 replace hA:=zad hA hB
 clear hB
 have e0_11:=l0.cell 11
 have e2_10:=l2.cell 10
 have f2_10:=l2.frozen 10
 have e2_11:=l2.cell 11
 have f2_11:=l2.frozen 11
 simp at e0_11 e2_10 e2_11
 have e2_0:=l2.cell 0
 have e2_1:=l2.cell 1
 have e2_2:=l2.cell 2
 have e2_3:=l2.cell 3
 have e2_4:=l2.cell 4
 have e2_5:=l2.cell 5
 have e2_6:=l2.cell 6
 have e2_7:=l2.cell 7
 have e2_8:=l2.cell 8
 have e2_9:=l2.cell 9
 have e1_0:=l1.cell 0
 have f1_0:=l1.frozen 0
 have e1_1:=l1.cell 1
 have f1_1:=l1.frozen 1
 have e1_2:=l1.cell 2
 have f1_2:=l1.frozen 2
 have e1_3:=l1.cell 3
 have f1_3:=l1.frozen 3
 have e1_4:=l1.cell 4
 have f1_4:=l1.frozen 4
 have e1_5:=l1.cell 5
 have f1_5:=l1.frozen 5
 have e1_6:=l1.cell 6
 have f1_6:=l1.frozen 6
 have e1_7:=l1.cell 7
 have f1_7:=l1.frozen 7
 have e1_8:=l1.cell 8
 have f1_8:=l1.frozen 8
 have e1_9:=l1.cell 9
 have f1_9:=l1.frozen 9
 have e1_10:=l1.cell 10
 have f1_10:=l1.frozen 10
 have e1_11:=l1.cell 11
 have f1_11:=l1.frozen 11
 simp at e2_0 e2_1 e2_2 e2_3 e2_4 e2_5 e2_6 e2_7 e2_8 e2_9 e1_0 e1_1 e1_2 e1_3 e1_4 e1_5 e1_6 e1_7 e1_8 e1_9 e1_10 e1_11
 have hf:Frm w6 ((((((((((((((w6.setCell ⟨w.heap.size+1+1,10,none⟩ (.slice at1 o.text.length dt)).setCell ⟨w.heap.size+1+1,11,none⟩ (.bool o.gone)).setCell ⟨w.heap.size+1,0,none⟩ (.int .i64 o.kind)).setCell ⟨w.heap.size+1,1,none⟩ (.int .i64 o.atN)).setCell ⟨w.heap.size+1,2,none⟩ (.int .i64 o.atR)).setCell ⟨w.heap.size+1,3,none⟩ (.int .i64 o.nodeN)).setCell ⟨w.heap.size+1,4,none⟩ (.int .i64 o.nodeR)).setCell ⟨w.heap.size+1,5,none⟩ (.int .i64 o.parN)).setCell ⟨w.heap.size+1,6,none⟩ (.int .i64 o.parR)).setCell ⟨w.heap.size+1,7,none⟩ (.slice ak o.key.length dk)).setCell ⟨w.heap.size+1,8,none⟩ (.int .i64 o.elem)).setCell ⟨w.heap.size+1,9,none⟩ (.slice an o.name.length dn)).setCell ⟨w.heap.size+1,10,none⟩ (.slice at1 o.text.length dt)).setCell ⟨w.heap.size+1,11,none⟩ (.bool o.gone)) [w.heap.size+1+1,w.heap.size+1]:=(((((((((((((((zab _ _ _ _).mono (by simp)).trans ((zab _ _ _ _).mono (by simp))).trans ((zab _ _ _ _).mono (by simp))).trans ((zab _ _ _ _).mono (by simp))).trans ((zab _ _ _ _).mono (by simp))).trans ((zab _ _ _ _).mono (by simp))).trans ((zab _ _ _ _).mono (by simp))).trans ((zab _ _ _ _).mono (by simp))).trans ((zab _ _ _ _).mono (by simp))).trans ((zab _ _ _ _).mono (by simp))).trans ((zab _ _ _ _).mono (by simp))).trans ((zab _ _ _ _).mono (by simp))).trans ((zab _ _ _ _).mono (by simp))).trans ((zab _ _ _ _).mono (by simp)))
 have hA2:Below w.heap.size w ((((((((((((((w6.setCell ⟨w.heap.size+1+1,10,none⟩ (.slice at1 o.text.length dt)).setCell ⟨w.heap.size+1+1,11,none⟩ (.bool o.gone)).setCell ⟨w.heap.size+1,0,none⟩ (.int .i64 o.kind)).setCell ⟨w.heap.size+1,1,none⟩ (.int .i64 o.atN)).setCell ⟨w.heap.size+1,2,none⟩ (.int .i64 o.atR)).setCell ⟨w.heap.size+1,3,none⟩ (.int .i64 o.nodeN)).setCell ⟨w.heap.size+1,4,none⟩ (.int .i64 o.nodeR)).setCell ⟨w.heap.size+1,5,none⟩ (.int .i64 o.parN)).setCell ⟨w.heap.size+1,6,none⟩ (.int .i64 o.parR)).setCell ⟨w.heap.size+1,7,none⟩ (.slice ak o.key.length dk)).setCell ⟨w.heap.size+1,8,none⟩ (.int .i64 o.elem)).setCell ⟨w.heap.size+1,9,none⟩ (.slice an o.name.length dn)).setCell ⟨w.heap.size+1,10,none⟩ (.slice at1 o.text.length dt)).setCell ⟨w.heap.size+1,11,none⟩ (.bool o.gone)):=hA.trans (hf.below hA.size (fun g hg=>by simp at hg;omega))
 have qk:=(ok.frm hf (fun g hg=>by have:=rk g hg;simp;omega)).mono (show w.heap.size≤_ by omega)
 have qn:=(on.frm hf (fun g hg=>by have:=rn g hg;simp;omega)).mono (show w.heap.size≤_ by omega)
 have qt:=(ot.frm hf (fun g hg=>by have:=rt g hg;simp;omega)).mono (show w.heap.size≤_ by omega)
 have hnd:(FB (.slice ak o.key.length dk)++FB (.slice an o.name.length dn)++FB (.slice at1 o.text.length dt)).Nodup:=by
  simp at sn st zn zt
  refine zbS (lo:=0) (zbS (zaE _) (zaE _) rk (rn.mono (by simp) (Nat.le_refl _))) (zaE _) ((rk.mono (Nat.zero_le _) (by omega)).app (rn.mono (Nat.zero_le _) (Nat.le_refl _))) (rt.mono (by simp) (Nat.le_refl _))
 have L:=hide (And.intro qk (And.intro qn (And.intro qt (And.intro hnd hA2))))
 clear qk qn qt hnd hA2 hf l0 l1 l2 hA ok on ot rk rn rt H
 go_wp2_with fail
 obtain⟨qk,qn,qt,hnd,hA2⟩:=zaa L
 exact bodyPost_ret (v:=zaU o (.slice ak o.key.length dk) (.slice an o.name.length dn) (.slice at1 o.text.length dt)) (by simp [results,Tryz.results45,go_sem,zaU,e1_0,e1_1,e1_2,e1_3,e1_4,e1_5,e1_6,e1_7,e1_8,e1_9,e1_10,e1_11]) rfl ⟨_,_,_,rfl,qk,qn,qt,hnd,hA2⟩
def zqE (p:PlV) (k n t a:Value):Value:=.agg #[.int .i64 p.idN,.int .i64 p.idR,.int .i64 p.parN,.int .i64 p.parR,k,.int .i64 p.kind,n,t,a]
def RdPlC (w:World) (C:List Value) (p:PlV):Prop:=∃k n t a,C=[.int .i64 p.idN,.int .i64 p.idR,.int .i64 p.parN,.int .i64 p.parR,k,.int .i64 p.kind,n,t,a]∧Ints w k p.key∧Byt w n p.name∧Byt w t p.text∧RdAttrs w a p.attrs
def RdPl (w:World) (v:Value) (p:PlV):Prop:=∃k n t a,v=zqE p k n t a∧Ints w k p.key∧Byt w n p.name∧Byt w t p.text∧RdAttrs w a p.attrs
def RdPls (w:World) (v:Value) (l:List PlV):Prop:=Elems w 9 v l (RdPlC w)
theorem RdPlC.keep {w w':World} {C:List Value} {p:PlV} (h:RdPlC w C p) (hb:Below w.heap.size w w'):RdPlC w' C p:=by
 obtain⟨k,n,t,a,e,h1,h2,h3,h4⟩:=h
 exact⟨k,n,t,a,e,h1.keep hb,h2.keep hb,h3.keep hb,h4.keep hb⟩
theorem RdPl.keep {w w':World} {v:Value} {p:PlV} (h:RdPl w v p) (hb:Below w.heap.size w w'):RdPl w' v p:=by
 obtain⟨k,n,t,a,e,h1,h2,h3,h4⟩:=h
 exact⟨k,n,t,a,e,h1.keep hb,h2.keep hb,h3.keep hb,h4.keep hb⟩
theorem RdPls.keep {w w':World} {v:Value} {l:List PlV} (h:RdPls w v l) (hb:Below w.heap.size w w'):RdPls w' v l:=Elems.keep h hb (fun C x _ hr=>hr.keep hb)
theorem RdPls.cases {w:World} {v:Value} {l:List PlV} (h:RdPls w v l):(l=[]∧∃a cap,v=.slice a 0 cap)∨∃b off cap,v=.slice (some ⟨b,off,none⟩) l.length cap∧l≠[]∧b<w.heap.size∧∀i (hi:i<l.length),∃C:List Value,C.length=9∧(∀j,j<9→w.cell? ⟨b,off+i*9+j,none⟩=C[j]?)∧RdPlC w C l[i]:=by
 obtain⟨_,⟨rfl,rfl⟩ | ⟨x,cap,rfl,hc,rfl⟩ | ⟨b,off,cap,rfl,g1,g2,g3,g4,g5⟩⟩:=h
 ·exact .inl ⟨rfl,none,0,rfl⟩
 ·exact .inl ⟨rfl,_,_,rfl⟩
 ·exact .inr ⟨b,off,cap,rfl,g3,g4,g5⟩
theorem zkH {w W:World} {b off i:Nat} {p:PlV} (hW:Below w.heap.size w W) (hb:b<w.heap.size) (h:∃C:List Value,C.length=9∧(∀j,j<9→w.cell? ⟨b,off+i*9+j,none⟩=C[j]?)∧RdPlC w C p) :
  ∃k ck n cn t ct a ca,W.cell? ⟨b,off+i*9,none⟩=some (.int .i64 p.idN)∧W.cell? ⟨b,off+i*9+1,none⟩=some (.int .i64 p.idR)∧W.cell? ⟨b,off+i*9+2,none⟩=some (.int .i64 p.parN)∧W.cell? ⟨b,off+i*9+3,none⟩=some (.int .i64 p.parR)∧W.cell? ⟨b,off+i*9+4,none⟩=some (.slice k p.key.length ck)∧W.cell? ⟨b,off+i*9+5,none⟩=some (.int .i64 p.kind)∧W.cell? ⟨b,off+i*9+6,none⟩=some (.slice n p.name.length cn)∧W.cell? ⟨b,off+i*9+7,none⟩=some (.slice t p.text.length ct)∧W.cell? ⟨b,off+i*9+8,none⟩=some (.slice a p.attrs.length ca)∧RdPl W (zqE p (.slice k p.key.length ck) (.slice n p.name.length cn) (.slice t p.text.length ct) (.slice a p.attrs.length ca)) p:=by
 obtain⟨C,_,hc,k,n,t,a,rfl,hk,hn,ht,ha⟩:=h
 obtain⟨a1,c1,rfl,_,_⟩:=hk.shape
 obtain⟨a2,c2,rfl,_,_⟩:=hn.shape
 obtain⟨a3,c3,rfl,_,_⟩:=ht.shape
 obtain⟨a4,c4,rfl,_,_⟩:=Elems.shape ha
 have cc:∀j,j<9→W.cell? ⟨b,off+i*9+j,none⟩=w.cell? ⟨b,off+i*9+j,none⟩:=fun j hj=>hW.cell (p:=⟨b,off+i*9+j,none⟩) hb
 exact⟨a1,c1,a2,c2,a3,c3,a4,c4,(cc 0 (by omega)).trans (hc 0 (by omega)),(cc 1 (by omega)).trans (hc 1 (by omega)),(cc 2 (by omega)).trans (hc 2 (by omega)),(cc 3 (by omega)).trans (hc 3 (by omega)),(cc 4 (by omega)).trans (hc 4 (by omega)),(cc 5 (by omega)).trans (hc 5 (by omega)),(cc 6 (by omega)).trans (hc 6 (by omega)),(cc 7 (by omega)).trans (hc 7 (by omega)),(cc 8 (by omega)).trans (hc 8 (by omega)),_,_,_,_,rfl,hk.keep hW,hn.keep hW,ht.keep hW,ha.keep hW⟩
def OwPlC (w:World) (C:List Value) (p:PlV) (F:List Nat):Prop:=∃k n t a Fa,C=[.int .i64 p.idN,.int .i64 p.idR,.int .i64 p.parN,.int .i64 p.parR,k,.int .i64 p.kind,n,t,a]∧OwnZ w 0 k p.key∧Own w 0 n p.name∧Own w 0 t p.text∧OwAttrs w a p.attrs Fa∧F=FB k++FB n++FB t++Fa
def OwPls (w:World) (v:Value) (l:List PlV) (F:List Nat):Prop:=OwElems w 117 9 v l (OwPlC w) F
theorem OwPlC.frm {w w':World} {C:List Value} {p:PlV} {F S:List Nat} (h:OwPlC w C p F) (f:Frm w w' S) (hd:∀g∈F,g∉S):OwPlC w' C p F:=by
 obtain⟨k,n,t,a,Fa,e,h1,h2,h3,h4,rfl⟩:=h
 exact⟨k,n,t,a,Fa,e,⟨h1.1,zah h1.2 f (fun g hg=>hd g (by simp [hg]))⟩,h2.frm f (fun g hg=>hd g (by simp [hg])),h3.frm f (fun g hg=>hd g (by simp [hg])),OwAttrs.frm h4 f (fun g hg=>hd g (by simp [hg])),rfl⟩
theorem OwPls.frm {w w':World} {v:Value} {l:List PlV} {F S:List Nat} (h:OwPls w v l F) (f:Frm w w' S) (hd:∀g∈F,g∉S):OwPls w' v l F:=OwElems.frm h f hd (fun C x G hr hG=>hr.frm f hG)
theorem OwPlC.rd {w:World} {C:List Value} {p:PlV} {F:List Nat} (h:OwPlC w C p F):RdPlC w C p:=by
 obtain⟨k,n,t,a,Fa,e,h1,h2,h3,h4,_⟩:=h
 exact⟨k,n,t,a,e,h1.ints,h2.byt,h3.byt,h4.rd⟩
theorem OwPls.rd {w:World} {v:Value} {l:List PlV} {F:List Nat} (h:OwPls w v l F):RdPls w v l:=OwElems.rd h (OwElems.len h) (fun C x G hr=>hr.rd)
theorem zcZ {w:World} {ops:Array Oper} {rest:List Oper} {o:Oper} {a:Act} {Q:Exit→Act→World→Prop} (hgd:o.guard=none) (s x:Operand)
  (ho:o.op=.call { callee:=.builtin .append,args:= #[s,x],argTypes:= #[22,22] })
  (base:Nat) (v:Value) (l:List Int) (hs:a.eval s=v) (hown:Own w base v l) (u:Value) (m:List Int) (hx:a.eval x=u) (hu:Byt w u m)
  (hlen:l.length+m.length≤134217728) (hbase:base≤w.heap.size)
  (h:∀v' w',Own w' base v' (l++m)→w.grownBy w' v.ownBlock→wpList Tryz.prog ops Q rest (a.put o.dst v') w'):wpList Tryz.prog ops Q (o::rest) a w:=by
 obtain⟨i0,hi,hz0,hz1,hz2⟩:=info_parts Tryz.info5
 have hfull:∀(ad:Addr) (c:Nat),a.eval x=.slice (some ad) m.length c→(∀j,j<m.length→w.cell? (ad.add j)=some (.int .u8 (m.getD j 0)))→wpList Tryz.prog ops Q (o::rest) a w:=by
  intro ad c hx' hc
  refine wpList_append_own _ hgd s x 22 ho base 5 i0 (.int .u8 0) 1 1 Tryz.underlying22 hi hz0 hz1 hz2 rfl (by decide) v l.length (vals l) hs hown.2 ad m.length c (vals m) hx' (by rw [zcu];omega) ?_ (zjE m) (by unfold maxLen;omega) (by omega) hbase ?_
  ·intro j y hj
   have hlt:j<m.length:=by
    by_cases hlt:j<m.length
    ·exact hlt
    ·rw [List.getElem?_eq_none (by rw [zcu];omega)]at hj;cases hj
   rw [zdd hlt]at hj
   rw [hc j hlt];exact hj
  ·intro v' w' h1 h2 _
   refine h v' w' ⟨hown.1.app hu.1,?_⟩ h2
   rw [zcN,List.length_append];exact h1
 obtain⟨hok,hm,⟨rfl,rfl⟩ | ⟨y,cap,rfl,hc,rfl⟩ | ⟨b,off,cap,rfl,h1,h2,h3,h4,h5⟩⟩:=hu
 ·refine wpList_append_own_none hgd s x 22 ho base 5 i0 1 Tryz.underlying22 hi v l.length (vals l) hs hown.2 hx ?_
  exact h v w (by rw [List.append_nil];exact hown) (World.grownBy.refl _ _)
 ·exact hfull y cap hx (fun j hj=>by simp at hj)
 ·exact hfull ⟨b,off,none⟩ cap hx (fun j hj=>by rw [zaX];exact h5 j hj)
theorem zdb (w:World) (x:Int) (h0:0≤x) (h1:x≤255):Byt (w.alloc (.cells #[.int .u8 x] 5)) (.slice (some ⟨w.heap.size,0,none⟩) 1 1) [x]:=by
 refine⟨okB.one h0 h1,by simp [maxLen],.inr (.inr ⟨w.heap.size,0,1,rfl,by simp,by simp [maxLen],by simp,by simp,fun i hi=> ?_⟩)⟩
 have e:i=0:=by simpa using hi
 subst e
 simp
theorem zkD (w:World):Own (w.alloc (.cells #[] 5)) w.heap.size (.slice (some ⟨w.heap.size,0,none⟩) 0 0) []:=
 ⟨zbJ,World.ownsRow_lit w #[] 0 (Nat.le_refl _) (Nat.zero_le _) rfl⟩
theorem Own.alloc {w:World} {base:Nat} {v:Value} {l:List Int} (h:Own w base v l) (o:Obj):Own (w.alloc o) base v l:=⟨h.1,h.2.alloc o⟩
theorem Byt.alloc {w:World} {v:Value} {l:List Int} (h:Byt w v l) (o:Obj):Byt (w.alloc o) v l:=h.keep ((Below.refl _ _).alloc (Nat.le_refl _) o)
theorem zgT {w:World} {ops:Array Oper} {rest:List Oper} {o:Oper} {a:Act} {Q:Exit→Act→World→Prop} (hgd:o.guard=none) (s x:Operand)
  (ho:o.op=.call { callee:=.builtin .append,args:= #[s,x],argTypes:= #[75,75] })
  (base:Nat) (v:Value) (l:List Int) (hs:a.eval s=v) (hown:OwnZ w base v l) (u:Value) (m:List Int) (hx:a.eval x=u) (hu:Ints w u m)
  (hlen:l.length+m.length≤134217728) (hbase:base≤w.heap.size)
  (h:∀v' w',OwnZ w' base v' (l++m)→w.grownBy w' v.ownBlock→wpList Tryz.prog ops Q rest (a.put o.dst v') w'):wpList Tryz.prog ops Q (o::rest) a w:=by
 obtain⟨i0,hi,hz0,hz1,hz2⟩:=info_parts Tryz.info3
 have hfull:∀(ad:Addr) (c:Nat),a.eval x=.slice (some ad) m.length c→(∀j,j<m.length→w.cell? (ad.add j)=some (.int .i64 (m.getD j 0)))→wpList Tryz.prog ops Q (o::rest) a w:=by
  intro ad c hx' hc
  refine wpList_append_own _ hgd s x 75 ho base 3 i0 (.int .i64 0) 1 8 Tryz.underlying75 hi hz0 hz1 hz2 rfl (by decide) v l.length (valz l) hs hown.2 ad m.length c (valz m) hx' (by rw [zjX];omega) ?_ (zpO m) (by unfold maxLen;omega) (by omega) hbase ?_
  ·intro j y hj
   have hlt:j<m.length:=by
    by_cases hlt:j<m.length
    ·exact hlt
    ·rw [List.getElem?_eq_none (by rw [zjX];omega)]at hj;cases hj
   rw [zeM hlt]at hj
   rw [hc j hlt];exact hj
  ·intro v' w' h1 h2 _
   refine h v' w' ⟨hown.1.app hu.1,?_⟩ h2
   rw [zfd,List.length_append];exact h1
 obtain⟨hok,hm,⟨rfl,rfl⟩ | ⟨y,cap,rfl,hc,rfl⟩ | ⟨b,off,cap,rfl,h1,h2,h3,h4,h5⟩⟩:=hu
 ·refine wpList_append_own_none hgd s x 75 ho base 3 i0 1 Tryz.underlying75 hi v l.length (valz l) hs hown.2 hx ?_
  exact h v w (by rw [List.append_nil];exact hown) (World.grownBy.refl _ _)
 ·exact hfull y cap hx (fun j hj=>by simp at hj)
 ·exact hfull ⟨b,off,none⟩ cap hx (fun j hj=>by rw [zaX];exact h5 j hj)
theorem zqQ (w:World) (x:Int) (h0 : -9223372036854775808≤x) (h1:x≤9223372036854775807):Ints (w.alloc (.cells #[.int .i64 x] 3)) (.slice (some ⟨w.heap.size,0,none⟩) 1 1) [x]:=by
 refine⟨okZ.one h0 h1,by simp [maxLen],.inr (.inr ⟨w.heap.size,0,1,rfl,by simp,by simp [maxLen],by simp,by simp,fun i hi=> ?_⟩)⟩
 have e:i=0:=by simpa using hi
 subst e
 simp
theorem zeZ (w:World) (base:Nat):OwnZ w base (.slice none 0 0) []:=⟨zdc,rfl,.inl ⟨rfl,rfl⟩⟩
theorem OwnZ.alloc {w:World} {base:Nat} {v:Value} {l:List Int} (h:OwnZ w base v l) (o:Obj):OwnZ (w.alloc o) base v l:=⟨h.1,h.2.alloc o⟩
theorem Ints.alloc {w:World} {v:Value} {l:List Int} (h:Ints w v l) (o:Obj):Ints (w.alloc o) v l:=h.keep ((Below.refl _ _).alloc (Nat.le_refl _) o)
structure Frp (Mt:Nat→Obj→Prop) (a b:World):Prop where
 os:b.os=a.os
 tape:b.tape=a.tape
 output:b.output=a.output
 size:a.heap.size≤b.heap.size
 block:∀i o,a.heap[i]? = some o→¬ Mt i o→b.heap[i]? = some o
theorem Frp.refl (Mt:Nat→Obj→Prop) (a:World):Frp Mt a a:=⟨rfl,rfl,rfl,Nat.le_refl _,fun _ _ h _=>h⟩
theorem Frp.trans {Mt:Nat→Obj→Prop} {a b c:World} (h:Frp Mt a b) (k:Frp Mt b c):Frp Mt a c:=
 ⟨k.os.trans h.os,k.tape.trans h.tape,k.output.trans h.output,Nat.le_trans h.size k.size,fun i o hi hm=>k.block i o (h.block i o hi hm) hm⟩
theorem Frp.ofBelow {a b:World} (h:Below a.heap.size a b) (Mt:Nat→Obj→Prop):Frp Mt a b:=
 ⟨h.os,h.tape,h.output,h.size,fun i o hi _=>(h.block i (Array.getElem?_eq_some_iff.1 hi).1).trans hi⟩
theorem Frp.ofFrm {a b:World} {S:List Nat} (h:Frm a b S) {Mt:Nat→Obj→Prop} (hm:∀g∈S,∀o,a.heap[g]? = some o→Mt g o):Frp Mt a b:=
 ⟨h.os,h.tape,h.output,h.size,fun i o hi hn=>(h.block i (Array.getElem?_eq_some_iff.1 hi).1 (fun e=>hn (hm i e o hi))).trans hi⟩
theorem Frp.below {Mt:Nat→Obj→Prop} {a b:World} {B:Nat} (h:Frp Mt a b) (hB:B≤a.heap.size) (hm:∀i o,i<B→¬ Mt i o):Below B a b:=
 ⟨h.os,h.tape,h.output,h.size,fun i hi=>by
  have hlt:i<a.heap.size:=by omega
  have:=h.block i _ (Array.getElem?_eq_getElem hlt) (hm i _ hi)
  rw [this,Array.getElem?_eq_getElem hlt]⟩
theorem Loc.frp {Mt:Nat→Obj→Prop} {w w':World} {g:Nat} {cs:Array Value} {T:TypeId} (h:Loc w g cs T) (f:Frp Mt w w') (hn:¬ Mt g (.cells cs T (0,0))):Loc w' g cs T:=f.block g _ h hn
theorem zdg {w:World} {base:Nat} {e:TypeId} {size n:Nat} {v:Value} {xs:List Value} (h:w.ownsRow base e size v n xs) {g:Nat} (hg:v.ownBlock=some g):∃cur,w.heap[g]? = some (.cells cur e (0,0)):=by
 rcases h.2 with ⟨rfl,_⟩ | ⟨g',cap,cur,rfl,_,ho,_⟩
 ·cases hg
 ·cases hg;exact⟨cur,ho⟩
def MtB (B:Nat) (i:Nat) (o:Obj):Prop:=B≤i∧∃cs,o=.cells cs 5 (0,0)
theorem Frp.ofAppend {w w':World} {B:Nat} {v:Value} {l:List Int} (ho:Own w B v l) (h:w.grownBy w' v.ownBlock):Frp (MtB B) w w':=
 Frp.ofFrm (Frm.ofGrown h) (fun g hg o hob=>by
  have hg':v.ownBlock=some g:=by simpa using hg
  obtain⟨cur,hcur⟩:=zdg ho.2 hg'
  rw [hcur]at hob
  cases hob
  exact⟨(ho.lt g hg').1,cur,rfl⟩)
theorem Frp.toBelow {B:Nat} {a b:World} (h:Frp (MtB B) a b) (hB:B≤a.heap.size):Below B a b:=h.below hB (fun i o hi hm=>by have:=hm.1;omega)
def zaV (k:Int) (n:Nat):List Int:=(List.range n).map fun i:Nat=>(k+(i:Int)) % 256
theorem zcQ (k:Int) (n:Nat):(zaV k n).length=n:=by simp [zaV]
theorem zkC (k:Int) (n:Nat):okB (zaV k n):=fun x hx=>by
 obtain⟨i,_,rfl⟩:=List.mem_map.1 hx
 omega
theorem zpm (k:Int) (n i:Nat) (h:i<n):(zaV k n).getD i 0=(k+(i:Int)) % 256:=by simp [zaV,h]
theorem znm (k:Int) (l:List Int) (j:Nat) (h:j<l.length):(vals (zaV k j++l.drop j)).set j (.int .u8 ((k+(j:Int)) % 256))=vals (zaV k (j+1)++l.drop (j+1)):=by
 have e:zaV k (j+1)=zaV k j++[(k+(j:Int)) % 256]:=by simp [zaV,List.range_succ]
 have hl:(vals (zaV k j)).length=j:=by simp [vals,zcQ]
 rw [zcN,List.set_append_right _ _ (by omega),hl,Nat.sub_self,e,List.drop_eq_getElem_cons h,zcN,zcN,List.append_assoc]
 rfl
theorem zoI (w:World) (a:Option Addr) (cap:Nat) (k:Int) :
  Calls Tryz.prog 11 #[.slice a 0 cap,.int .i64 k] w fun e w'=>e=.returned (.int .i64 k)∧w'=w:=by
 go_enter Tryz.func11,Tryz.ntmps11
 go_wp2
 refine wp_loop_rounds 1 ?_
 rw [rounds_succ]
 go_wp2
 go_ret
 exact⟨rfl,rfl⟩
set_option maxHeartbeats 1600000 in
set_option maxRecDepth 1000000 in
theorem zoM (w:World) (base g cap:Nat) (l:List Int) (k:Int) (hw:w.ownsRow base 5 1 (.slice (some ⟨g,0,none⟩) l.length cap) l.length (vals l)) (hs:l.length≤16777216) (h0:0≤k) (h1:k≤1000000000) :
  Calls Tryz.prog 11 #[.slice (some ⟨g,0,none⟩) l.length cap,.int .i64 k] w fun e w'=>e=.returned (.int .i64 (k+l.length))∧
   w'.ownsRow base 5 1 (.slice (some ⟨g,0,none⟩) l.length cap) l.length (vals (zaV k l.length))∧w.grownBy w' (some g):=by
 generalize hn:l.length=n at *
 have HN:=hide hn
 clear hn
 go_enter Tryz.func11,Tryz.ntmps11
 go_wp2
 go_loopw [1,5] (fun c i wr=>∃j:Nat,j≤n∧i=.int .i64 j∧c=.int .i64 (k+(j:Int))∧wr.ownsRow base 5 1 (.slice (some ⟨g,0,none⟩) n cap) n (vals (zaV k j++l.drop j))∧w.grownBy wr (some g)) (fun _ i _=>n-(intOf i).toNat)
 case atStart=>exact⟨0,Nat.zero_le _,rfl,by simp,by simpa [zaV]using hw,World.grownBy.refl _ _⟩
 case round=>
  obtain⟨j,hj,rfl,rfl,hr,hg⟩:=hrel
  by_cases hlt:j<n
  ·have hlen:=zaa HN
   have hjl:j<l.length:=by omega
   obtain⟨y,hy⟩:∃y,wr.cell? ⟨g,j,none⟩=some (.int .u8 y):=⟨(zaV k j++l.drop j).getD j 0,by rw [hr.cellAt j (by omega),zdd (by simp [zcQ];omega)]⟩
   have hfr:=hr.frozenAt j
   have hst:=hr.stored j (.int .u8 ((k+(j:Int)) % 256))
   rw [znm k l j hjl]at hst
   have HS:=hide hst
   clear hst hr hlen
   have hlt':(j:Int)<(n:Int):=by omega
   go_wp2
   have R:=zaa HS
   go_roundw
   case rel=>exact⟨j+1,by omega,by go_num,by go_num,R.1,zgx hg R.2⟩
   case measure=>simp [intOf];omega
  ·have e:j=n:=by omega
   subst e
   have hr':wr.ownsRow base 5 1 (.slice (some ⟨g,0,none⟩) j cap) j (vals (zaV k j)):=by
    have:=zaa HN
    rw [List.drop_of_length_le (by omega),List.append_nil]at hr
    exact hr
   clear hr
   go_wp2
   go_ret
   exact⟨rfl,hr',hg⟩
theorem zbP (w:World) (base:Nat) (v:Value) (l:List Int) (k:Int) (h:Own w base v l) (hs:l.length≤16777216) (h0:0≤k) (h1:k≤1000000000) :
  Calls Tryz.prog 11 #[v,.int .i64 k] w fun e w'=>e=.returned (.int .i64 (k+l.length))∧Own w' base v (zaV k l.length)∧w.grownBy w' v.ownBlock:=by
 obtain⟨hok,hlen,⟨rfl,hz⟩ | ⟨g,cap,cur,rfl,hr⟩⟩:=h
 ·have e:l=[]:=List.eq_nil_of_length_eq_zero hz
  subst e
  refine (zoI w none 0 k).mono ?_
  rintro e w' ⟨rfl,rfl⟩
  exact⟨by simp,⟨zkC _ _,World.ownsRow_nil _ _ _ _⟩,World.grownBy.refl _ _⟩
 ·refine (zoM w base g cap l k ⟨hlen,.inr ⟨g,cap,cur,rfl,hr⟩⟩ hs h0 h1).mono ?_
  rintro e w' ⟨rfl,ho,hg⟩
  refine⟨rfl,⟨zkC _ _,?_⟩,hg⟩
  rw [zcQ]
  exact ho
theorem zis (w:World) (a:Option Addr) (cap:Nat) (k:Int) :
  Calls Tryz.prog 12 #[.slice a 0 cap,.int .i64 k] w fun e w'=>e=.returned (.int .i64 k)∧w'=w:=by
 go_enter Tryz.func12,Tryz.ntmps12
 go_wp2
 refine wp_loop_rounds 1 ?_
 rw [rounds_succ]
 go_wp2
 go_ret
 exact⟨rfl,rfl⟩
set_option maxHeartbeats 1600000 in
set_option maxRecDepth 1000000 in
theorem zoH (w:World) (b off cap n:Nat) (k:Int) (hc:∀i,i<n→w.cell? ⟨b,off+i,none⟩=some (.int .u8 ((zaV k n).getD i 0))) (hs:n≤16777216) (h0:0≤k) (h1:k≤1000000000) :
  Calls Tryz.prog 12 #[.slice (some ⟨b,off,none⟩) n cap,.int .i64 k] w fun e w'=>e=.returned (.int .i64 (k+n))∧w'=w:=by
 go_enter Tryz.func12,Tryz.ntmps12
 go_wp2
 go_loop [1,5] (fun c i=>∃j:Nat,j≤n∧i=.int .i64 j∧c=.int .i64 (k+(j:Int))) (fun _ i=>n-(intOf i).toNat)
 case atStart=>exact⟨0,Nat.zero_le _,rfl,by simp⟩
 case round=>
  obtain⟨j,hj,rfl,rfl⟩:=hrel
  by_cases hlt:j<n
  ·have c1:=hc j hlt
   rw [zpm k n j hlt]at c1
   clear hc
   have hlt':(j:Int)<(n:Int):=by omega
   go_wp2
   go_round
   case rel=>exact⟨j+1,by omega,by go_num,by go_num⟩
   case measure=>simp [intOf];omega
  ·have e:j=n:=by omega
   subst e
   clear hc
   go_wp2
   go_ret
   exact⟨rfl,rfl⟩
theorem zok (w:World) (v:Value) (n:Nat) (k:Int) (h:Byt w v (zaV k n)) (hs:n≤16777216) (h0:0≤k) (h1:k≤1000000000) :
  Calls Tryz.prog 12 #[v,.int .i64 k] w fun e w'=>e=.returned (.int .i64 (k+n))∧w'=w:=by
 obtain⟨_,_,⟨rfl,hn⟩ | ⟨x,cap,rfl,hc,hn⟩ | ⟨b,off,cap,rfl,_,_,_,_,h5⟩⟩:=h
 ·have e:n=0:=by have:=congrArg List.length hn;rw [zcQ]at this;exact this
  subst e
  refine (zis w none 0 k).mono ?_
  rintro e w' ⟨rfl,rfl⟩
  exact⟨by simp,rfl⟩
 ·have e:n=0:=by have:=congrArg List.length hn;rw [zcQ]at this;exact this
  subst e
  refine (zis w (some x) cap k).mono ?_
  rintro e w' ⟨rfl,rfl⟩
  exact⟨by simp,rfl⟩
 ·rw [zcQ]at h5 ⊢
  exact zoH w b off cap n k h5 hs h0 h1
theorem two (w:World) (A Z:Array Value) (TA T:TypeId):Loc ((w.alloc (.cells A TA)).alloc (.cells Z T)) w.heap.size A TA∧Loc ((w.alloc (.cells A TA)).alloc (.cells Z T)) (w.heap.size+1) Z T∧Below w.heap.size w ((w.alloc (.cells A TA)).alloc (.cells Z T)):=by
 refine⟨(Loc.made w A TA).alloc _,?_,((Below.refl _ _).alloc (Nat.le_refl _) _).alloc (by simp) _⟩
 have:=Loc.made (w.alloc (.cells A TA)) Z T
 simp only [World.size_alloc]at this
 exact this
theorem Elems.at {α:Type} {w:World} {size m:Nat} {a:Option Addr} {cap k:Nat} {l:List α} {R:List Value→α→Prop} (h:Elems w size (.slice a m cap) l R) (hk:k<l.length) :
  ∃b off,a=some ⟨b,off,none⟩∧b<w.heap.size∧m=l.length∧m≤cap∧∃C:List Value,C.length=size∧(∀j,j<size→w.cell? ⟨b,off+k*size+j,none⟩=C[j]?)∧R C l[k]:=by
 obtain⟨_,⟨_,e⟩ | ⟨_,_,_,_,e⟩ | ⟨b,off,c,e,g1,g2,g3,g4,g5⟩⟩:=h
 ·subst e;simp at hk
 ·subst e;simp at hk
 ·injection e with e1 e2 e3
  subst e1 e2 e3
  exact⟨b,off,rfl,g4,rfl,g1,g5 k hk⟩
theorem Loc.five {w:World} {g:Nat} {a b c d e:Value} {T:TypeId} (h:Loc w g #[a,b,c,d,e] T) :
  w.cell? ⟨g,0,none⟩=some a∧w.cell? ⟨g,1,none⟩=some b∧w.cell? ⟨g,2,none⟩=some c∧w.cell? ⟨g,3,none⟩=some d∧w.cell? ⟨g,4,none⟩=some e:=
 ⟨h.cell 0,h.cell 1,h.cell 2,h.cell 3,h.cell 4⟩
theorem zaQ {w:World} {base g n cap size:Nat} {e:TypeId} {Cs:List (List Value)} (h:w.ownsRow base e size (.slice (some ⟨g,0,none⟩) n cap) n Cs.flatten) (hC:∀i,i<Cs.length→(Cs.getD i []).length=size) (hl:Cs.length=n) (i j:Nat) (hi:i<n) (hj:j<size) :
  w.cell? ⟨g,i*size+j,none⟩=(Cs.getD i [])[j]? :=by
 have hlt:i*size+j<n*size:=by
  have:(i+1)*size≤n*size:=Nat.mul_le_mul_right _ hi
  rw [Nat.succ_mul]at this;omega
 rw [h.cellAt (i*size+j) hlt]
 exact zhZ Cs size hC i j (by omega) hj
theorem zcX {a b:List Nat} (h:(a++b).Nodup):∀g∈a,g∉b:=fun g ha hb=>by
 rw [List.nodup_append]at h
 exact h.2.2 g ha g hb rfl
theorem zbQ:∀{Fs:List (List Nat)} {i j:Nat},Fs.flatten.Nodup→i≠j→∀g∈Fs.getD i [],g∉Fs.getD j []
 | [],i,j,_,_,g,hg,_=>by simp at hg
 | F::Fs,i,j,h,hij,g,hg,hg'=>by
  rw [List.flatten_cons]at h
  have h2:=List.nodup_append.1 h
  cases i with
  | zero=>
   cases j with
   | zero=>exact hij rfl
   | succ j=>
    simp only [List.getD_cons_zero]at hg
    simp only [List.getD_cons_succ]at hg'
    exact h2.2.2 g hg g (zau hg') rfl
  | succ i=>
   cases j with
   | zero=>
    simp only [List.getD_cons_zero]at hg'
    simp only [List.getD_cons_succ]at hg
    exact h2.2.2 g hg' g (zau hg) rfl
   | succ j=>
    simp only [List.getD_cons_succ]at hg hg'
    exact zbQ (i:=i) (j:=j) h2.2.1 (by omega) g hg hg'
theorem zdf:∀{Fs:List (List Nat)} {i:Nat},Fs.flatten.Nodup→(Fs.getD i []).Nodup
 | [],i,_=>by simp
 | F::Fs,i,h=>by
  rw [List.flatten_cons]at h
  have h2:=List.nodup_append.1 h
  cases i with
  | zero=>simpa using h2.1
  | succ i=>simpa using zdf (i:=i) h2.2.1
theorem zbL {w w':World} {v:Value} (h:w.grownBy w' v.ownBlock):Frm w w' (FB v):=Frm.ofGrown h
theorem zbx {w:World} {base:Nat} {e:TypeId} {size n:Nat} {v:Value} {xs:List Value} (h:w.ownsRow base e size v n xs):∃a cap,v=.slice a n cap:=by
 rcases h.2 with ⟨rfl,rfl⟩ | ⟨g,cap,cur,rfl,_⟩
 ·exact⟨_,_,rfl⟩
 ·exact⟨_,_,rfl⟩
theorem zjG (size:Nat) (D:List Value) (hD:D.length=size) (i:Nat) (hi:i<size) (v:Value):∀(Ds:List (List Value)) (j:Nat),(∀i,i<Ds.length→(Ds.getD i []).length=size)→j<Ds.length→(Ds.set j (D.set i v)).flatten=(Ds.set j D).flatten.set (j*size+i) v
 | [],j,_,hj=>by simp at hj
 | C::Ds,0,_,_=>by
  simp only [List.set_cons_zero,List.flatten_cons,Nat.zero_mul,Nat.zero_add]
  rw [List.set_append_left _ _ (by omega)]
 | C::Ds,j+1,h,hj=>by
  have h0:C.length=size:=by simpa using h 0 (by simp)
  have e:(j+1)*size+i=C.length+(j*size+i):=by rw [h0,Nat.succ_mul];omega
  rw [List.set_cons_succ,List.set_cons_succ,List.flatten_cons,List.flatten_cons,e,List.set_append_right _ _ (by omega),Nat.add_sub_cancel_left]
  rw [zjG size D hD i hi v Ds j (fun k hk=>by simpa using h (k+1) (by simpa using hk)) (by simpa using hj)]
structure RowJ (w:World) (T:TypeId) (size g n cap:Nat) (Ds:List (List Value)) (j:Nat) (D:List Value):Prop where
 lenD:D.length=size
 lenDs:Ds.length=n
 lens:∀i,i<Ds.length→(Ds.getD i []).length=size
 lt:j<n
 row:w.ownsRow 0 T size (.slice (some ⟨g,0,none⟩) n cap) n (Ds.set j D).flatten
theorem zbD {α:Type} (Ds:List (List α)) (j:Nat) (D:List α) (h:j<Ds.length):(Ds.set j D).getD j []=D:=by
 simp [List.getD_eq_getElem?_getD,h]
theorem zbt {α:Type} (Ds:List (List α)) (i j:Nat) (D:List α) (h:i≠j):(Ds.set j D).getD i []=Ds.getD i []:=by
 simp [List.getD_eq_getElem?_getD,Ne.symm h]
theorem RowJ.lens' {w:World} {T:TypeId} {size g n cap:Nat} {Ds:List (List Value)} {j:Nat} {D:List Value} (h:RowJ w T size g n cap Ds j D):∀i,i<(Ds.set j D).length→((Ds.set j D).getD i []).length=size:=fun i hi=>by
 by_cases e:i=j
 ·subst e;rw [zbD _ _ _ (by rw [h.lenDs];exact h.lt)];exact h.lenD
 ·rw [zbt _ _ _ _ e];exact h.lens i (by simpa using hi)
theorem RowJ.cell {w:World} {T:TypeId} {size g n cap:Nat} {Ds:List (List Value)} {j:Nat} {D:List Value} (h:RowJ w T size g n cap Ds j D) (i:Nat) (hi:i<size):w.cell? ⟨g,j*size+i,none⟩=D[i]? :=by
 have:=zaQ h.row h.lens' (by simp [h.lenDs]) j i h.lt hi
 rw [zbD _ _ _ (by rw [h.lenDs];exact h.lt)]at this
 exact this
theorem RowJ.put {w:World} {T:TypeId} {size g n cap:Nat} {Ds:List (List Value)} {j:Nat} {D:List Value} (h:RowJ w T size g n cap Ds j D) (i:Nat) (hi:i<size) (v:Value):RowJ (w.setCell ⟨g,j*size+i,none⟩ v) T size g n cap Ds j (D.set i v):=
 ⟨by rw [List.length_set];exact h.lenD,h.lenDs,h.lens,h.lt,by
  rw [zjG size D h.lenD i hi v Ds j h.lens (by rw [h.lenDs];exact h.lt)]
  exact (h.row.stored (j*size+i) v).1⟩
theorem RowJ.frozen {w:World} {T:TypeId} {size g n cap:Nat} {Ds:List (List Value)} {j:Nat} {D:List Value} (h:RowJ w T size g n cap Ds j D) (i:Nat):w.frozen? ⟨g,i,none⟩=false:=h.row.frozenAt i
theorem RowJ.frm {w w':World} {T:TypeId} {size g n cap:Nat} {Ds:List (List Value)} {j:Nat} {D:List Value} {S:List Nat} (h:RowJ w T size g n cap Ds j D) (f:Frm w w' S) (hg:g∉S):RowJ w' T size g n cap Ds j D:=
 ⟨h.lenD,h.lenDs,h.lens,h.lt,zah h.row f (fun p hp=>by
  have:p=g:=by simpa [FB,Value.ownBlock]using hp
  rw [this];exact hg)⟩
theorem RowJ.start {w:World} {T:TypeId} {size g n cap:Nat} {Ds:List (List Value)} (hl:Ds.length=n) (h:∀i,i<Ds.length→(Ds.getD i []).length=size) (j:Nat) (hj:j<n) (hr:w.ownsRow 0 T size (.slice (some ⟨g,0,none⟩) n cap) n Ds.flatten):RowJ w T size g n cap Ds j (Ds.getD j []):=
 ⟨h j (by omega),hl,h,hj,by
  have e:Ds.set j (Ds.getD j [])=Ds:=by
   apply List.ext_getElem?
   intro i
   rw [List.getElem?_set]
   split
   ·rename_i e;subst e
    rw [if_pos (by omega),List.getD_eq_getElem?_getD,List.getElem?_eq_getElem (by omega)];rfl
   ·rfl
  rw [e];exact hr⟩
def cntA:List (List Int×List Int)→Nat
 | []=>0
 | x::r=>x.1.length+x.2.length+cntA r
def mkA:List (List Int×List Int)→Int→List (List Int×List Int)
 | [],_=>[]
 | x::r,k=>(zaV k x.1.length,zaV (k+(x.1.length:Nat)) x.2.length)::mkA r (k+((x.1.length+x.2.length:Nat):Int))
theorem zcP:∀(l:List (List Int×List Int)) (k:Int),(mkA l k).length=l.length
 | [],_=>rfl
 | x::r,k=>by simp [mkA,zcP r]
theorem zmk:∀(a b:List (List Int×List Int)) (k:Int),mkA (a++b) k=mkA a k++mkA b (k+(cntA a:Nat))
 | [],b,k=>by simp [mkA,cntA]
 | x::r,b,k=>by
  simp only [List.cons_append,mkA,zmk r b,cntA,List.cons.injEq,true_and]
  congr 2
  omega
theorem zha:∀(a b:List (List Int×List Int)),cntA (a++b)=cntA a+cntA b
 | [],b=>by simp [cntA]
 | x::r,b=>by simp only [List.cons_append,cntA,zha r b];omega
theorem zoT (l:List (List Int×List Int)) (j:Nat) (h:j<l.length):cntA (l.take (j+1))=cntA (l.take j)+(l[j].1.length+l[j].2.length):=by
 rw [List.take_succ_eq_append_getElem h,zha]
 simp [cntA]
theorem zqU (l:List (List Int×List Int)) (j:Nat):cntA (l.take j)≤cntA l:=by
 have:=zha (l.take j) (l.drop j)
 rw [List.take_append_drop]at this
 omega
theorem zrX (l:List (List Int×List Int)) (k:Int) (j:Nat) (h:j<l.length) (h':j<(mkA l k).length):(mkA l k)[j]=(zaV (k+(cntA (l.take j):Nat)) l[j].1.length,zaV (k+(cntA (l.take j):Nat)+(l[j].1.length:Nat)) l[j].2.length):=by
 have e:mkA l k=mkA (l.take j) k++mkA (l.drop j) (k+(cntA (l.take j):Nat)):=by rw [←zmk,List.take_append_drop]
 have e2:l.drop j=l[j]::l.drop (j+1):=List.drop_eq_getElem_cons h
 have hl:(mkA (l.take j) k).length=j:=by rw [zcP];simp;omega
 have:(mkA l k)[j]? = some (zaV (k+(cntA (l.take j):Nat)) l[j].1.length,zaV (k+(cntA (l.take j):Nat)+(l[j].1.length:Nat)) l[j].2.length):=by
  rw [e,List.getElem?_append_right (by omega),hl,Nat.sub_self,e2,mkA]
  rfl
 rw [List.getElem?_eq_getElem h']at this
 exact Option.some.inj this
theorem OwAttr.frm {w w':World} {C:List Value} {x:List Int×List Int} {G S:List Nat} (h:OwAttr w C x G) (f:Frm w w' S) (hd:∀g∈G,g∉S):OwAttr w' C x G:=by
 obtain⟨a,b,e,h1,h2,rfl⟩:=h
 exact⟨a,b,e,h1.frm f (fun g hg=>hd g (by simp [hg])),h2.frm f (fun g hg=>hd g (by simp [hg])),rfl⟩
set_option maxHeartbeats 3200000 in
theorem zir (w:World) (v:Value) (l:List (List Int×List Int)) (F:List Nat) (k:Int) (h:OwAttrs w v l F) (hF:F.Nodup) (hs:cntA l≤4194304) (h0:0≤k) (h1:k≤900000000) :
  Calls Tryz.prog 68 #[v,.int .i64 k] w fun e w'=>e=.returned (.int .i64 (k+(cntA l:Nat)))∧OwAttrs w' v (mkA l k) F∧Frm w w' F:=by
 have hml:=OwElems.len h
 unfold maxLen at hml
 obtain⟨Cs,Fs,hCl,hFl,hR,hrow,rfl⟩:=h
 have hFv:=zcX hF
 have hFn:=(List.nodup_append.1 hF).2.1
 have hC:∀i,i<Cs.length→(Cs.getD i []).length=2:=fun i hi=>(hR i (by omega)).1
 by_cases hl0:l=[]
 ·subst hl0
  have hshape:∃a cap,v=.slice a 0 cap:=by
   rcases hrow.2 with ⟨rfl,_⟩ | ⟨g,cap,cur,rfl,_⟩
   ·exact⟨_,_,rfl⟩
   ·exact⟨_,_,rfl⟩
  obtain⟨a,cap,rfl⟩:=hshape
  have HW:=hide (show OwAttrs w (.slice a 0 cap) (mkA [] k) _ from ⟨Cs,Fs,hCl,hFl,hR,hrow,rfl⟩)
  clear hrow hR
  go_enter Tryz.func68,Tryz.ntmps68
  go_wp2_with fail
  refine wp_loop_rounds 1 ?_
  rw [rounds_succ]
  go_wp2_with fail
  go_ret
  exact⟨by simp [cntA],zaa HW,Frm.refl _ _⟩
 have hv:∃g cap,v=.slice (some ⟨g,0,none⟩) l.length cap:=by
  rcases hrow.2 with ⟨_,h⟩ | ⟨g,cap,cur,rfl,_⟩
  ·exact absurd (List.eq_nil_of_length_eq_zero h) hl0
  ·exact⟨g,cap,rfl⟩
 obtain⟨g,cap,rfl⟩:=hv
 have hgF:∀i,g∉Fs.getD i []:=fun i hi=>hFv g (by simp [FB,Value.ownBlock]) (zau hi)
 have HR:=hide hR
 have HROW:=hide hrow
 have hm':(l.length:Int)≤9223372036854775807:=by omega
 clear hR hrow
 go_enter Tryz.func68,Tryz.ntmps68
 go_wp2_with fail
 go_loopw [1,5] (fun c i wr=>∃j:Nat,j≤l.length∧i=.int .i64 j∧c=.int .i64 (k+(cntA (l.take j):Nat))∧wr.ownsRow 0 144 2 (.slice (some ⟨g,0,none⟩) l.length cap) l.length Cs.flatten∧
   (∀i (hi:i<(mkA l k).length),i<j→OwAttr wr (Cs.getD i []) (mkA l k)[i] (Fs.getD i []))∧(∀i (hi:i<l.length),j≤i→OwAttr wr (Cs.getD i []) l[i] (Fs.getD i []))∧Frm w wr (FB (.slice (some ⟨g,0,none⟩) l.length cap)++Fs.flatten)) (fun _ i _=>l.length-(intOf i).toNat)
 case atStart=>exact⟨0,Nat.zero_le _,rfl,by simp [cntA],zaa HROW,fun i hi hj=>by omega,fun i hi _=>(zaa HR i hi).2,Frm.refl _ _⟩
 case round=>
  obtain⟨j,hj,rfl,rfl,hr,hdone,htodo,hf⟩:=hrel
  by_cases hjl:j<l.length
  ·obtain⟨a,b,hab,ha,hb,hFj⟩:=htodo j hjl (Nat.le_refl _)
   have e0:=zaQ hr hC hCl j 0 hjl (by omega)
   have e1:=zaQ hr hC hCl j 1 hjl (by omega)
   rw [hab]at e0 e1
   simp only [List.getElem?_cons_zero,List.getElem?_cons_succ,Nat.add_zero]at e0 e1
   have hct:=zoT l j hjl
   have hcl:=zqU l (j+1)
   have hFjn:=zdf (i:=j) hFn
   rw [hFj]at hFjn
   obtain⟨pa,ca,rfl,_,_⟩:=ha.byt.shape
   obtain⟨pb,cb,rfl,_,_⟩:=hb.byt.shape
   have hat:=zrX l k j hjl (by rw [zcP];exact hjl)
   obtain⟨x,hx⟩:∃x,x=l[j]:=⟨_,rfl⟩
   rw [←hx]at ha hb hct hat e0 e1 hab hFj hFjn
   obtain⟨q,hq⟩:∃q:Int,q=k+(cntA (l.take j):Nat):=⟨_,rfl⟩
   rw [←hq]at hat ⊢
   have hq0:0≤q:=by omega
   have hq1:q≤904194304:=by omega
   have HQ:=hide hq
   have HX:=hide hx
   have HT:=hide hat
   have HCT:=hide hct
   have HAB:=hide hab
   have HFJ:=hide hFj
   have hx1:x.1.length≤4194304:=by omega
   have hx2:x.2.length≤4194304:=by omega
   have HDN:=hide hdone
   have HTD:=hide htodo
   clear hq hx hat hct hab hFj hdone htodo hcl
   have hjl':(j:Int)<(l.length:Int):=by omega
   have hj0:(0:Int)≤(j:Int):=by omega
   go_wp2_with fail
   refine (zbP wr 0 _ x.1 q ha (Nat.le_trans hx1 (by decide)) hq0 (by omega)).mono ?_
   rintro e w1 ⟨rfl,ha1,hg1⟩
   have F1:=zbL hg1
   have hgj:∀p∈FB (.slice (some ⟨g,0,none⟩) l.length cap),p∉Fs.getD j []:=fun p hp=>by
    have:p=g:=by simpa [FB,Value.ownBlock]using hp
    rw [this];exact hgF j
   have r1:=zah hr F1 (fun p hp hp'=>hgj p hp (by rw [zaa HFJ];exact List.mem_append_left _ hp'))
   have hb1:=hb.frm F1 (fun p hp hp'=>zcX hFjn p hp' hp)
   have e1':=zaQ r1 hC hCl j 1 hjl (by omega)
   rw [zaa HAB]at e1'
   simp only [List.getElem?_cons_zero,List.getElem?_cons_succ]at e1'
   clear e0 e1
   go_wp2_with fail
   refine (zbP w1 0 _ x.2 (q+(x.1.length:Nat)) hb1 (Nat.le_trans hx2 (by decide)) (by omega) (by omega)).mono ?_
   rintro e w2 ⟨rfl,hb2,hg2⟩
   have F2:=zbL hg2
   have r2:=zah r1 F2 (fun p hp hp'=>hgj p hp (by rw [zaa HFJ];exact List.mem_append_right _ hp'))
   have ha2:=ha1.frm F2 (fun p hp hp'=>zcX hFjn p hp hp')
   have F12:Frm wr w2 (Fs.getD j []):=(F1.mono (fun p hp=>by rw [zaa HFJ];exact List.mem_append_left _ hp)).trans (F2.mono (fun p hp=>by rw [zaa HFJ];exact List.mem_append_right _ hp))
   clear e1'
   go_wp2_with fail
   go_roundw
   case rel=>
    refine⟨j+1,by omega,by go_num,?_,r2,fun i hi hij=> ?_,fun i hi hij=> ?_,hf.trans (F12.mono (fun p hp=>List.mem_append_right _ (zau hp)))⟩
    ·rw [zaa HCT,zaa HQ];go_num
    ·by_cases e:i=j
     ·subst e
      rw [zaa HT]
      exact⟨_,_,zaa HAB,ha2,hb2,zaa HFJ⟩
     ·exact (zaa HDN i hi (by omega)).frm F12 (zbQ hFn e)
    ·exact (zaa HTD i hi (by omega)).frm F12 (zbQ hFn (by omega))
   case measure=>simp [intOf];omega
  ·have e:j=l.length:=by omega
   subst e
   have HW:=hide (show OwAttrs wr (.slice (some ⟨g,0,none⟩) l.length cap) (mkA l k) (FB (.slice (some ⟨g,0,none⟩) l.length cap)++Fs.flatten) from
    ⟨Cs,Fs,by rw [zcP];exact hCl,by rw [zcP];exact hFl,fun i hi=>⟨hC i (by rw [zcP]at hi;omega),hdone i hi (by rw [zcP]at hi;exact hi)⟩,by rw [zcP];exact hr,rfl⟩)
   clear hdone htodo hr
   go_wp2_with fail
   go_ret
   exact⟨by rw [List.take_length];rfl,zaa HW,hf⟩
def cntL {α:Type} (f:α→Nat):List α→Nat
 | []=>0
 | x::r=>1+f x+cntL f r
theorem zhl {α:Type} (f:α→Nat):∀a b:List α,cntL f (a++b)=cntL f a+cntL f b
 | [],b=>by simp [cntL]
 | x::r,b=>by simp only [List.cons_append,cntL,zhl f r b];omega
theorem znN {α:Type} (f:α→Nat) (l:List α) (j:Nat) (h:j<l.length):cntL f (l.take (j+1))=cntL f (l.take j)+(1+f l[j]):=by
 rw [List.take_succ_eq_append_getElem h,zhl]
 simp [cntL]
theorem zrb {α:Type} (f:α→Nat) (l:List α) (j:Nat):cntL f (l.take j)≤cntL f l:=by
 have:=zhl f (l.take j) (l.drop j)
 rw [List.take_append_drop]at this
 omega
def mkL {α:Type} (c:α→Nat) (f:α→Int→α):List α→Int→List α
 | [],_=>[]
 | x::r,k=>f x k::mkL c f r (k+((1+c x:Nat):Int))
theorem zib {α:Type} (c:α→Nat) (f:α→Int→α):∀(l:List α) (k:Int),(mkL c f l k).length=l.length
 | [],_=>rfl
 | x::r,k=>by simp [mkL,zib c f r]
theorem zlW {α:Type} (c:α→Nat) (f:α→Int→α):∀(a b:List α) (k:Int),mkL c f (a++b) k=mkL c f a k++mkL c f b (k+(cntL c a:Nat))
 | [],b,k=>by simp [mkL,cntL]
 | x::r,b,k=>by
  simp only [List.cons_append,mkL,zlW c f r b,cntL,List.cons.injEq,true_and]
  congr 2
  omega
theorem zsb {α:Type} (c:α→Nat) (f:α→Int→α) (l:List α) (k:Int) (j:Nat) (h:j<l.length) (h':j<(mkL c f l k).length):(mkL c f l k)[j]=f l[j] (k+(cntL c (l.take j):Nat)):=by
 have e:mkL c f l k=mkL c f (l.take j) k++mkL c f (l.drop j) (k+(cntL c (l.take j):Nat)):=by rw [←zlW,List.take_append_drop]
 have e2:l.drop j=l[j]::l.drop (j+1):=List.drop_eq_getElem_cons h
 have hl:(mkL c f (l.take j) k).length=j:=by rw [zib];simp;omega
 have:(mkL c f l k)[j]? = some (f l[j] (k+(cntL c (l.take j):Nat))):=by
  rw [e,List.getElem?_append_right (by omega),hl,Nat.sub_self,e2,mkL]
  rfl
 rw [List.getElem?_eq_getElem h']at this
 exact Option.some.inj this
def cntT:(n:Nat)→Tr n→Nat
 | 0=>fun _=>0
 | n+1=>fun t=>t.name.length+t.text.length+cntA t.attrs+cntL (cntT n) t.kids
theorem zfH (n:Nat) (t:Tr (n+1)):cntT (n+1) t=t.name.length+t.text.length+cntA t.attrs+cntL (cntT n) t.kids:=rfl
def skT:(n:Nat)→Tr n→Int→Tr n
 | 0=>fun t _=>t
 | n+1=>fun t z=>(⟨z,t.name,t.text,t.attrs,t.kids⟩:Nd (Tr n))
def mkT':(n:Nat)→Tr n→Int→Tr n
 | 0=>fun t _=>t
 | n+1=>fun t k=>(⟨t.kind,zaV k t.name.length,zaV (k+(t.name.length:Nat)) t.text.length,mkA t.attrs (k+(t.name.length:Nat)+(t.text.length:Nat)),mkL (cntT n) (fun x k=>skT n (mkT' n x (k+1)) k) t.kids (k+(t.name.length:Nat)+(t.text.length:Nat)+(cntA t.attrs:Nat))⟩:Nd (Tr n))
def mkN (n:Nat) (x:Tr n) (k:Int):Tr n:=skT n (mkT' n x (k+1)) k
def mkK (n:Nat) (l:List (Tr n)) (k:Int):List (Tr n):=mkL (cntT n) (mkN n) l k
theorem zcS (n:Nat) (l:List (Tr n)) (k:Int):(mkK n l k).length=l.length:=zib _ _ l k
theorem zsg (n:Nat) (l:List (Tr n)) (k:Int) (j:Nat) (h:j<l.length) (h':j<(mkK n l k).length):(mkK n l k)[j]=mkN n l[j] (k+(cntL (cntT n) (l.take j):Nat)):=zsb _ _ l k j h h'
theorem zpF (Cs:List (List Value)) (size:Nat) (hs:0<size) (h:∀i,i<Cs.length→(Cs.getD i []).length=size) (j:Nat) (hj:j<Cs.length) (v:Value):(Cs.set j ((Cs.getD j []).set 0 v)).flatten=Cs.flatten.set (j*size) v:=by
 induction Cs generalizing j with
 | nil=>simp at hj
 | cons C Cs ih=>
  have h0:C.length=size:=by simpa using h 0 (by simp)
  cases j with
  | zero=>
   simp only [List.set_cons_zero,List.getD_cons_zero,List.flatten_cons,Nat.zero_mul]
   rw [List.set_append_left _ _ (by omega)]
  | succ j=>
   have e:(j+1)*size=C.length+j*size:=by rw [h0,Nat.succ_mul];omega
   rw [List.set_cons_succ,List.flatten_cons,List.flatten_cons,List.getD_cons_succ,e,List.set_append_right _ _ (by omega),Nat.add_sub_cancel_left]
   rw [ih (fun k hk=>by simpa using h (k+1) (by simpa using hk)) j (by simpa using hj)]
def zfV (n:Nat):Prop:=∀(w:World) (v:Value) (l:List (Tr n)) (F:List Nat) (k:Int),OwKids n w v l F→F.Nodup→cntL (cntT n) l≤4194304→0≤k→k+(cntL (cntT n) l:Nat)≤800000000→
  Calls Tryz.prog 69 #[v,.int .i64 k] w fun e w'=>e=.returned (.int .i64 (k+(cntL (cntT n) l:Nat)))∧OwKids n w' v (mkK n l k) F∧Frm w w' F
theorem zoN (w:World) (a:Option Addr) (cap:Nat) (k:Int) :
  Calls Tryz.prog 69 #[.slice a 0 cap,.int .i64 k] w fun e w'=>e=.returned (.int .i64 k)∧w'=w:=by
 go_enter Tryz.func69,Tryz.ntmps69
 go_wp2_with fail
 refine wp_loop_rounds 1 ?_
 rw [rounds_succ]
 go_wp2_with fail
 go_ret
 exact⟨rfl,rfl⟩
theorem zgz (n:Nat) (w:World) (v:Value) (F:List Nat) (k:Int) (h:OwKids n w v [] F) :
  Calls Tryz.prog 69 #[v,.int .i64 k] w fun e w'=>e=.returned (.int .i64 (k+(cntL (cntT n) []:Nat)))∧OwKids n w' v (mkK n [] k) F∧Frm w w' F:=by
 obtain⟨Cs,Fs,hCl,hFl,hR,hrow,hF⟩:=h
 obtain⟨a,cap,rfl⟩:=zbx hrow
 refine (zoN w a cap k).mono ?_
 rintro e w' ⟨rfl,rfl⟩
 exact⟨by simp [cntL],⟨Cs,Fs,hCl,hFl,hR,hrow,hF⟩,Frm.refl _ _⟩
theorem OwKids.cellsLen {n:Nat} {w:World} {C:List Value} {t:Tr n} {F:List Nat} (h:OwNode n w C t F):C.length=5:=by
 cases n with
 | zero=>exact t.elim
 | succ n=>obtain⟨a,b,c,d,Fc,Fd,rfl,_⟩:=h;rfl
theorem zoA {a b c d:List Nat} (h:(a++b++c++d).Nodup):(∀g∈a,g∉b∧g∉c∧g∉d)∧(∀g∈b,g∉c∧g∉d)∧(∀g∈c,g∉d)∧c.Nodup∧d.Nodup:=by
 have h1:=List.nodup_append.1 h
 have h2:=List.nodup_append.1 h1.1
 have h3:=List.nodup_append.1 h2.1
 refine⟨fun g ha=>⟨fun hb=>h3.2.2 g ha g hb rfl,fun hc=>h2.2.2 g (List.mem_append_left _ ha) g hc rfl,fun hd=>h1.2.2 g (List.mem_append_left _ (List.mem_append_left _ ha)) g hd rfl⟩,
  fun g hb=>⟨fun hc=>h2.2.2 g (List.mem_append_right _ hb) g hc rfl,fun hd=>h1.2.2 g (List.mem_append_left _ (List.mem_append_right _ hb)) g hd rfl⟩,
  fun g hc hd=>h1.2.2 g (List.mem_append_right _ hc) g hd rfl,h2.2.1,h1.2.1⟩
set_option maxHeartbeats 6400000 in
theorem zmq (n:Nat) (H:zfV n):zfV (n+1):=by
 intro w v l F k h hF hs h0 h1
 have hml:=OwElems.len h
 unfold maxLen at hml
 by_cases hl0:l=[]
 ·subst hl0;exact zgz (n+1) w v F k h
 obtain⟨Cs,Fs,hCl,hFl,hR,hrow,rfl⟩:=h
 have hFv:=zcX hF
 have hFn:=(List.nodup_append.1 hF).2.1
 have hv:∃g cap,v=.slice (some ⟨g,0,none⟩) l.length cap:=by
  rcases hrow.2 with ⟨_,h⟩ | ⟨g,cap,cur,rfl,_⟩
  ·exact absurd (List.eq_nil_of_length_eq_zero h) hl0
  ·exact⟨g,cap,rfl⟩
 obtain⟨g,cap,rfl⟩:=hv
 have hgF:∀i,g∉Fs.getD i []:=fun i hi=>hFv g (by simp [FB,Value.ownBlock]) (zau hi)
 have hFB:FB (.slice (some ⟨g,0,none⟩) l.length cap)=[g]:=rfl
 rw [hFB]at hF hFv ⊢
 have HR:=hide hR
 have HROW:=hide hrow
 have hm':(l.length:Int)≤9223372036854775807:=by omega
 clear hR hrow hFB
 go_enter Tryz.func69,Tryz.ntmps69
 go_wp2_with fail
 go_loopw [1,5] (fun c i wr=>∃j:Nat,j≤l.length∧i=.int .i64 j∧c=.int .i64 (k+(cntL (cntT (n+1)) (l.take j):Nat))∧∃Ds:List (List Value),Ds.length=l.length∧wr.ownsRow 0 37 5 (.slice (some ⟨g,0,none⟩) l.length cap) l.length Ds.flatten∧
   (∀i (hi:i<(mkK (n+1) l k).length),i<j→OwNode (n+1) wr (Ds.getD i []) (mkK (n+1) l k)[i] (Fs.getD i []))∧(∀i (hi:i<l.length),j≤i→OwNode (n+1) wr (Ds.getD i []) l[i] (Fs.getD i []))∧Frm w wr ([g]++Fs.flatten)) (fun _ i _=>l.length-(intOf i).toNat)
 case atStart=>exact⟨0,Nat.zero_le _,rfl,by simp [cntL],Cs,hCl,zaa HROW,fun i hi hj=>by omega,fun i hi _=>(zaa HR i hi).2,Frm.refl _ _⟩
 case round=>
  obtain⟨j,hj,rfl,rfl,Ds,hDl,hr,hdone,htodo,hf⟩:=hrel
  have hD:∀i,i<Ds.length→(Ds.getD i []).length=5:=fun i hi=>by
   by_cases hij:i<j
   ·exact OwKids.cellsLen (hdone i (by rw [zcS];omega) hij)
   ·exact OwKids.cellsLen (htodo i (by omega) (by omega))
  by_cases hjl:j<l.length
  ·obtain⟨a,b,c,d,Fc,Fd,hab,hk1,hk2,ha,hb,hc,hd,hFj⟩:=htodo j hjl (Nat.le_refl _)
   have hct:=znN (cntT (n+1)) l j hjl
   have hcl:=zrb (cntT (n+1)) l (j+1)
   have hcs:=zfH n l[j]
   have hat:=zsg (n+1) l k j hjl (by rw [zcS];exact hjl)
   obtain⟨x,hx⟩:∃x,x=l[j]:=⟨_,rfl⟩
   rw [←hx]at ha hb hc hd hct hcs hat hab hk1 hk2
   obtain⟨q,hq⟩:∃q:Int,q=k+(cntL (cntT (n+1)) (l.take j):Nat):=⟨_,rfl⟩
   rw [←hq]at hat ⊢
   have hq0:0≤q:=by omega
   have hq1:q+(1+cntT (n+1) x:Nat)≤800000000:=by omega
   rw [hcs]at hq1
   obtain⟨pa,ca,rfl,_,_⟩:=ha.byt.shape
   obtain⟨pb,cb,rfl,_,_⟩:=hb.byt.shape
   obtain⟨pc,cc,rfl,_,_⟩:=Elems.shape (OwAttrs.rd hc)
   obtain⟨pd,cd,rfl,_,_⟩:=Elems.shape (OwKids.rd hd)
   have hFjn:=zdf (i:=j) hFn
   rw [hFj]at hFjn
   obtain⟨na,nb',nc',hFcn,hFdn⟩:=zoA hFjn
   have e0:=zaQ hr hD hDl j 0 hjl (by omega)
   rw [hab]at e0
   simp only [List.getElem?_cons_zero,Nat.add_zero]at e0
   have f0:=hr.frozenAt (j*5)
   have hst:=hr.stored (j*5) (.int .i64 q)
   rw [←zpF Ds 5 (by omega) hD j (by omega)]at hst
   rw [hab,List.set_cons_zero]at hst
   obtain⟨Es,hEs⟩:∃Es,Es=Ds.set j [.int .i64 q,.slice pa x.name.length ca,.slice pb x.text.length cb,.slice pc x.attrs.length cc,.slice pd x.kids.length cd]:=⟨_,rfl⟩
   rw [←hEs]at hst
   have hEl:Es.length=l.length:=by rw [hEs];simpa using hDl
   have hEj:Es.getD j []=[.int .i64 q,.slice pa x.name.length ca,.slice pb x.text.length cb,.slice pc x.attrs.length cc,.slice pd x.kids.length cd]:=by rw [hEs];simp [List.getD_eq_getElem?_getD,show j<Ds.length by omega]
   have hEo:∀i,i≠j→Es.getD i []=Ds.getD i []:=fun i hi=>by rw [hEs];simp [List.getD_eq_getElem?_getD,Ne.symm hi]
   have hE:∀i,i<Es.length→(Es.getD i []).length=5:=fun i hi=>by
    by_cases e:i=j
    ·rw [e,hEj];rfl
    ·rw [hEo i e];exact hD i (by omega)
   obtain⟨r1,hg1⟩:=hst
   have F1:Frm wr (wr.setCell ⟨g,j*5,none⟩ (.int .i64 q)) [g]:=Frm.ofGrown hg1
   have c1:=zaQ r1 hE hEl j 1 hjl (by omega)
   rw [hEj]at c1
   simp only [List.getElem?_cons_zero,List.getElem?_cons_succ]at c1
   have HX:=hide hx
   have HQ:=hide hq
   have HT:=hide hat
   have HCT:=hide hct
   have HCS:=hide hcs
   have HFJ:=hide hFj
   have HDN:=hide hdone
   have HTD:=hide htodo
   have HEJ:=hide hEj
   have hx1:x.name.length≤4194304:=by omega
   have hx2:x.text.length≤4194304:=by omega
   have hx3:cntA x.attrs≤4194304:=by omega
   have hx4:cntL (cntT n) x.kids≤4194304:=by omega
   have hxs:x.name.length+x.text.length+cntA x.attrs+cntL (cntT n) x.kids≤4194304:=by omega
   have hjl':(j:Int)<(l.length:Int):=by omega
   have hgj:∀p∈FB (.slice (some ⟨g,0,none⟩) l.length cap),p∉Fs.getD j []:=fun p hp=>by
    have:p=g:=by simpa [FB,Value.ownBlock]using hp
    rw [this];exact hgF j
   have hgn:g∉Fs.getD j []:=hgF j
   rw [zaa HFJ]at hgn hgj
   simp only [List.mem_append,not_or]at hgn hgj
   obtain⟨⟨⟨hga,hgb⟩,hgc⟩,hgd⟩:=hgn
   have ha1:=ha.frm F1 (fun p hp hp'=>by simp at hp';subst hp';exact hga hp)
   have hb1:=hb.frm F1 (fun p hp hp'=>by simp at hp';subst hp';exact hgb hp)
   have hc1:=OwAttrs.frm hc F1 (fun p hp hp'=>by simp at hp';subst hp';exact hgc hp)
   have hd1:=OwKids.frm hd F1 (fun p hp hp'=>by simp at hp';subst hp';exact hgd hp)
   clear hx hq hat hct hcs hFj hdone htodo hcl hr hEj hEs hab ha hb hc hd hFjn
   go_wp2_with fail
   generalize wr.setCell ⟨g,j*5,none⟩ (.int .i64 q)=w1 at *
   clear e0 f0 c1 hg1
   refine (zbP w1 0 _ x.name (q+1) ha1 (Nat.le_trans hx1 (by decide)) (by omega) (by omega)).mono ?_
   rintro e w2 ⟨rfl,ha2,hg2⟩
   have F2:=zbL hg2
   have r2:=zah r1 F2 (fun p hp hp'=>(hgj p hp).1.1.1 hp')
   have hb2:=hb1.frm F2 (fun p hp hp'=>(na p hp').1 hp)
   have hc2:=OwAttrs.frm hc1 F2 (fun p hp hp'=>(na p hp').2.1 hp)
   have hd2:=OwKids.frm hd1 F2 (fun p hp hp'=>(na p hp').2.2 hp)
   have c2:=zaQ r2 hE hEl j 2 hjl (by omega)
   rw [zaa HEJ]at c2
   simp only [List.getElem?_cons_zero,List.getElem?_cons_succ]at c2
   clear ha1 hb1 hc1 hd1 hg2
   go_wp2_with fail
   clear c2
   refine (zbP w2 0 _ x.text (q+1+(x.name.length:Nat)) hb2 (Nat.le_trans hx2 (by decide)) (by omega) (by omega)).mono ?_
   rintro e w3 ⟨rfl,hb3,hg3⟩
   have F3:=zbL hg3
   have r3:=zah r2 F3 (fun p hp hp'=>(hgj p hp).1.1.2 hp')
   have ha3:=ha2.frm F3 (fun p hp hp'=>(na p hp).1 hp')
   have hc3:=OwAttrs.frm hc2 F3 (fun p hp hp'=>(nb' p hp').1 hp)
   have hd3:=OwKids.frm hd2 F3 (fun p hp hp'=>(nb' p hp').2 hp)
   have c3:=zaQ r3 hE hEl j 3 hjl (by omega)
   rw [zaa HEJ]at c3
   simp only [List.getElem?_cons_zero,List.getElem?_cons_succ]at c3
   clear ha2 hb2 hc2 hd2 hg3
   go_wp2_with fail
   clear c3
   refine (zir w3 _ x.attrs Fc (q+1+(x.name.length:Nat)+(x.text.length:Nat)) hc3 hFcn hx3 (by omega) (by omega)).mono ?_
   rintro e w4 ⟨rfl,hc4,F4⟩
   have r4:=zah r3 F4 (fun p hp hp'=>(hgj p hp).1.2 hp')
   have ha4:=ha3.frm F4 (fun p hp hp'=>(na p hp).2.1 hp')
   have hb4:=hb3.frm F4 (fun p hp hp'=>(nb' p hp).1 hp')
   have hd4:=OwKids.frm hd3 F4 (fun p hp hp'=>nc' p hp' hp)
   have c4:=zaQ r4 hE hEl j 4 hjl (by omega)
   rw [zaa HEJ]at c4
   simp only [List.getElem?_cons_zero,List.getElem?_cons_succ]at c4
   clear ha3 hb3 hc3 hd3
   go_wp2_with fail
   clear c4
   refine (H w4 _ x.kids Fd (q+1+(x.name.length:Nat)+(x.text.length:Nat)+(cntA x.attrs:Nat)) hd4 hFdn hx4 (by omega) (by omega)).mono ?_
   rintro e w5 ⟨rfl,hd5,F5⟩
   have r5:=zah r4 F5 (fun p hp hp'=>(hgj p hp).2 hp')
   have ha5:=ha4.frm F5 (fun p hp hp'=>(na p hp).2.2 hp')
   have hb5:=hb4.frm F5 (fun p hp hp'=>(nb' p hp).2 hp')
   have hc5:=OwAttrs.frm hc4 F5 (fun p hp hp'=>nc' p hp hp')
   have FJ:Frm wr w5 ([g]++Fs.getD j []):=by
    have m1:∀p,p∈FB (Value.slice pa x.name.length ca)→p∈[g]++Fs.getD j []:=fun p hp=>by rw [zaa HFJ];simp [hp]
    have m2:∀p,p∈FB (Value.slice pb x.text.length cb)→p∈[g]++Fs.getD j []:=fun p hp=>by rw [zaa HFJ];simp [hp]
    have m3:∀p,p∈Fc→p∈[g]++Fs.getD j []:=fun p hp=>by rw [zaa HFJ];simp [hp]
    have m4:∀p,p∈Fd→p∈[g]++Fs.getD j []:=fun p hp=>by rw [zaa HFJ];simp [hp]
    exact ((((F1.mono (fun p hp=>List.mem_append_left _ hp)).trans (F2.mono m1)).trans (F3.mono m2)).trans (F4.mono m3)).trans (F5.mono m4)
   clear ha4 hb4 hc4 hd4 F1 F2 F3 F4 F5 r1 r2 r3 r4
   go_wp2_with fail
   go_roundw
   case rel=>
    refine⟨j+1,by omega,by go_num,?_,Es,hEl,r5,fun i hi hij=> ?_,fun i hi hij=> ?_,hf.trans (FJ.mono (fun p hp=> ?_))⟩
    ·rw [zaa HCT,zaa HCS,zaa HQ];go_num
    ·by_cases e:i=j
     ·subst e
      rw [zaa HT,zaa HEJ]
      have hl2:(mkK n x.kids (q+1+(x.name.length:Nat)+(x.text.length:Nat)+(cntA x.attrs:Nat))).length=x.kids.length:=zcS _ _ _
      exact⟨_,_,_,_,Fc,Fd,rfl,by show (-9223372036854775808:Int)≤q;omega,by show q≤(9223372036854775807:Int);omega,ha5,hb5,hc5,hd5,zaa HFJ⟩
     ·rw [hEo i e]
      exact (zaa HDN i hi (by omega)).frm FJ (fun p hp hp'=>by
       rcases List.mem_append.1 hp' with h | h
       ·simp at h;subst h;exact hgF i hp
       ·exact zbQ hFn e p hp h)
    ·rw [hEo i (by omega)]
     exact (zaa HTD i hi (by omega)).frm FJ (fun p hp hp'=>by
      rcases List.mem_append.1 hp' with h | h
      ·simp at h;subst h;exact hgF i hp
      ·exact zbQ hFn (by omega) p hp h)
    ·rcases List.mem_append.1 hp with h | h
     ·exact List.mem_append_left _ h
     ·exact List.mem_append_right _ (zau h)
   case measure=>simp [intOf];omega
  ·have e:j=l.length:=by omega
   subst e
   have HW:=hide (show OwKids (n+1) wr (.slice (some ⟨g,0,none⟩) l.length cap) (mkK (n+1) l k) ([g]++Fs.flatten) from
    ⟨Ds,Fs,by rw [zcS];exact hDl,by rw [zcS];exact hFl,fun i hi=>⟨hD i (by rw [zcS]at hi;omega),hdone i hi (by rw [zcS]at hi;exact hi)⟩,by rw [zcS];exact hr,rfl⟩)
   clear hdone htodo hr hD
   go_wp2_with fail
   go_ret
   exact⟨by first | rfl | (rw [List.take_length];rfl),zaa HW,hf⟩
theorem zoQ (n:Nat):zfV n:=by
 induction n with
 | zero=>
  intro w v l F k h hF _ _ _
  cases l with
  | nil=>exact zgz 0 w v F k h
  | cons x r=>exact x.elim
 | succ n ih=>exact zmq n ih
theorem OwElems.lt {α:Type} {w:World} {e:TypeId} {size:Nat} {v:Value} {l:List α} {R:List Value→α→List Nat→Prop} {F:List Nat} (h:OwElems w e size v l R F) (hR:∀C x G,R C x G→∀g∈G,g<w.heap.size):∀g∈F,g<w.heap.size:=by
 obtain⟨Cs,Fs,h1,h2,h3,h4,rfl⟩:=h
 intro g hg
 rcases List.mem_append.1 hg with h | h
 ·exact (h4.lt g (by simpa [FB]using h)).2
 ·obtain⟨G,hG,hgG⟩:=List.mem_flatten.1 h
  obtain⟨i,hi,rfl⟩:=List.getElem_of_mem hG
  have:=(h3 i (by omega)).2
  rw [show Fs.getD i []=Fs[i] by simp [hi]]at this
  exact hR _ _ _ this g hgG
theorem OwAttr.lt {w:World} {C:List Value} {x:List Int×List Int} {G:List Nat} (h:OwAttr w C x G):∀g∈G,g<w.heap.size:=by
 obtain⟨a,b,_,h1,h2,rfl⟩:=h
 intro g hg
 rcases List.mem_append.1 hg with h | h
 ·exact (h1.lt g (by simpa [FB]using h)).2
 ·exact (h2.lt g (by simpa [FB]using h)).2
theorem OwAttrs.lt {w:World} {v:Value} {l:List (List Int×List Int)} {F:List Nat} (h:OwAttrs w v l F):∀g∈F,g<w.heap.size:=OwElems.lt h (fun _ _ _ hr=>hr.lt)
theorem OwNode.lt:∀{n:Nat} {w:World} {C:List Value} {t:Tr n} {F:List Nat},OwNode n w C t F→∀g∈F,g<w.heap.size
 | 0,_,_,t,_,_=>t.elim
 | n+1,w,C,t,F,⟨a,b,c,d,Fc,Fd,_,_,_,ha,hb,hc,hd,hF⟩=>by
  subst hF
  intro g hg
  rcases List.mem_append.1 hg with h | h
  ·rcases List.mem_append.1 h with h | h
   ·rcases List.mem_append.1 h with h | h
    ·exact (ha.lt g (by simpa [FB]using h)).2
    ·exact (hb.lt g (by simpa [FB]using h)).2
   ·exact hc.lt g h
  ·exact OwElems.lt hd (fun _ _ _ hr=>OwNode.lt hr) g h
set_option maxHeartbeats 3200000 in
theorem zoB (n:Nat) (w:World) (a0 a b c d:Value) (t:Tr (n+1)) (F:List Nat) (k:Int) (h:OwNode (n+1) w [a0,a,b,c,d] t F) (hF:F.Nodup) (hs:cntT (n+1) t≤4194304) (h0:0≤k) (h1:k+(cntT (n+1) t:Nat)≤800000000) :
  Calls Tryz.prog 28 #[.agg #[a0,a,b,c,d],.int .i64 k] w fun e w'=>e=.returned (.int .i64 (k+(cntT (n+1) t:Nat)))∧OwNode (n+1) w' [a0,a,b,c,d] (mkT' (n+1) t k) F∧Frm w w' F:=by
 obtain⟨_,_,_,_,Fc,Fd,e0,hk1,hk2,ha,hb,hc,hd,rfl⟩:=h
 simp only [List.cons.injEq,and_true]at e0
 obtain⟨rfl,rfl,rfl,rfl,rfl⟩:=e0
 have hcs:=zfH n t
 rw [hcs]at hs h1 ⊢
 obtain⟨na,nb',nc',hFcn,hFdn⟩:=zoA hF
 obtain⟨pa,ca,rfl,_,_⟩:=ha.byt.shape
 obtain⟨pb,cb,rfl,_,_⟩:=hb.byt.shape
 obtain⟨pc,cc,rfl,_,_⟩:=Elems.shape (OwAttrs.rd hc)
 obtain⟨pd,cd,rfl,_,_⟩:=Elems.shape (OwKids.rd hd)
 have hB1:Below w.heap.size w (w.alloc (.cells #[.int .i64 t.kind,.slice pa t.name.length ca,.slice pb t.text.length cb,.slice pc t.attrs.length cc,.slice pd t.kids.length cd] 37)):=(Below.refl _ _).alloc (Nat.le_refl _) _
 have l1:=Loc.made w #[.int .i64 t.kind,.slice pa t.name.length ca,.slice pb t.text.length cb,.slice pc t.attrs.length cc,.slice pd t.kids.length cd] 37
 have F1:=fun S=>Frm.ofBelow hB1 S
 have ha1:=ha.keep hB1
 have hb1:=hb.keep hB1
 have hc1:=OwAttrs.frm hc (F1 []) (fun _ _=>by simp)
 have hd1:=OwKids.frm hd (F1 []) (fun _ _=>by simp)
 have hqa:∀p∈FB (.slice pa t.name.length ca),p<w.heap.size:=fun p hp=>(ha.lt p (by simpa [FB]using hp)).2
 have hqb:∀p∈FB (.slice pb t.text.length cb),p<w.heap.size:=fun p hp=>(hb.lt p (by simpa [FB]using hp)).2
 have hx1:t.name.length≤4194304:=by omega
 have hx2:t.text.length≤4194304:=by omega
 have hx3:cntA t.attrs≤4194304:=by omega
 have hx4:cntL (cntT n) t.kids≤4194304:=by omega
 have hqc:=hc.lt
 clear ha hb hc hd hF hcs
 go_enter Tryz.func28,Tryz.ntmps28
 go_wp2_with fail
 generalize (w.alloc (.cells #[.int .i64 t.kind,.slice pa t.name.length ca,.slice pb t.text.length cb,.slice pc t.attrs.length cc,.slice pd t.kids.length cd] 37))=w1 at *
 refine (zbP w1 0 _ t.name k ha1 (Nat.le_trans hx1 (by decide)) h0 (by omega)).mono ?_
 rintro e w2 ⟨rfl,ha2,hg2⟩
 have F2:=zbL hg2
 have l2:=l1.frm F2 (fun hp=>by have:=hqa _ hp;omega)
 have hb2:=hb1.frm F2 (fun p hp hp'=>(na p hp').1 hp)
 have hc2:=OwAttrs.frm hc1 F2 (fun p hp hp'=>(na p hp').2.1 hp)
 have hd2:=OwKids.frm hd1 F2 (fun p hp hp'=>(na p hp').2.2 hp)
 obtain⟨x0,x1,x2,x3,x4⟩:=l2.five
 go_wp2_with fail
 refine (zbP w2 0 _ t.text (k+(t.name.length:Nat)) hb2 (Nat.le_trans hx2 (by decide)) (by omega) (by omega)).mono ?_
 rintro e w3 ⟨rfl,hb3,hg3⟩
 have F3:=zbL hg3
 have l3:=l2.frm F3 (fun hp=>by have:=hqb _ hp;omega)
 have ha3:=ha2.frm F3 (fun p hp hp'=>(na p hp).1 hp')
 have hc3:=OwAttrs.frm hc2 F3 (fun p hp hp'=>(nb' p hp').1 hp)
 have hd3:=OwKids.frm hd2 F3 (fun p hp hp'=>(nb' p hp').2 hp)
 clear x0 x1 x2 x3 x4
 obtain⟨x0,x1,x2,x3,x4⟩:=l3.five
 go_wp2_with fail
 refine (zir w3 _ t.attrs Fc (k+(t.name.length:Nat)+(t.text.length:Nat)) hc3 hFcn hx3 (by omega) (by omega)).mono ?_
 rintro e w4 ⟨rfl,hc4,F4⟩
 have l4:=l3.frm F4 (fun hp=>by have:=hqc _ hp;omega)
 have ha4:=ha3.frm F4 (fun p hp hp'=>(na p hp).2.1 hp')
 have hb4:=hb3.frm F4 (fun p hp hp'=>(nb' p hp).1 hp')
 have hd4:=OwKids.frm hd3 F4 (fun p hp hp'=>nc' p hp' hp)
 clear x0 x1 x2 x3 x4
 obtain⟨x0,x1,x2,x3,x4⟩:=l4.five
 go_wp2_with fail
 refine (zoQ n w4 _ t.kids Fd (k+(t.name.length:Nat)+(t.text.length:Nat)+(cntA t.attrs:Nat)) hd4 hFdn hx4 (by omega) (by omega)).mono ?_
 rintro e w5 ⟨rfl,hd5,F5⟩
 have ha5:=ha4.frm F5 (fun p hp hp'=>(na p hp).2.2 hp')
 have hb5:=hb4.frm F5 (fun p hp hp'=>(nb' p hp).2 hp')
 have hc5:=OwAttrs.frm hc4 F5 (fun p hp hp'=>nc' p hp hp')
 go_wp2_with fail
 go_ret
 refine⟨?_,⟨_,_,_,_,Fc,Fd,rfl,hk1,hk2,ha5,hb5,hc5,hd5,rfl⟩,?_⟩
 ·refine zeN ?_;omega
 ·exact ((((F1 _).trans (F2.mono (fun p hp=>by simp [hp]))).trans (F3.mono (fun p hp=>by simp [hp]))).trans (F4.mono (fun p hp=>by simp [hp]))).trans (F5.mono (fun p hp=>by simp [hp]))
end Go.Proofs.YtlpnibbdmkeklaaGreatDoor
namespace Go.Proofs.YtlpnibbdmkeklaaGreatDoor
open Go.RowKit Go.Shelf
set_option linter.unusedVariables false
def zgu {β:Type} (D:Nat) (I:β→World→Prop):Prop:=
 ∀s W W' row,I s W→W.grownBy W' row→(∀r,row=some r→r=D∨r=D+1)→I s W'
def BooksSame (D:Nat) (W W':World):Prop:=W'.heap[D]? = W.heap[D]?∧W'.heap[D+1]? = W.heap[D+1]?
def zlO {α:Type} (D:Nat) (Mt:Nat→Obj→Prop) (I Ix:List α→World→Prop) (ys:List α) (W:World):Exit→Act→World→Prop
 | .normal,_,W'=>BooksSame D W W'∧Frp Mt W W'∧I ys W'
 | .ret,_,W'=>BooksSame D W W'∧Ix ys W'
 | _,_,_=>False
def zqF {α:Type} (P:Program) (gf:Nat) (lb:Array Value) (encs:α→Array Value) (Bx:Obj→Prop) (Mt:Nat→Obj→Prop) (xs:List α) (l:Nat) (w:World):Prop:=
 ∀(J Jx:List α→World→Prop),(∀s W W',J s W→W.grownBy W' none→J s W')→
  (∀m pre x W1,J pre W1→pre++[x] <+: xs→YieldAt Fence.wide m P l (encs x) W1 fun e W'=>
   (e=.returned (.bool true)∧J (pre++[x]) W'∧Frp Mt W1 W')∨(e=.returned (.bool false)∧Jx (pre++[x]) W'))→
  ∀(n:Nat) (W:World),Below w.heap.size w W→(∀q o,W.heap.size≤q→Bx o→¬ Mt q o)→J [] W→
   CallsIn Fence.wide n P gf (#[.func (.yield l) #[] #[]]++lb) W fun e W'=>(∃v,e=.returned v)∧(J xs W'∨∃pre,pre <+: xs∧Jx pre W')
theorem zmy {m m':Nat} {P:Program} {l:Nat} {f:FuncId} {tmps:Array Value} {assign body:Code} {w:World} {R:Ending→World→Prop}
  (h:RoundIn Fence.wide m P l f tmps assign body w R):RoundIn Fence.wide m' P l f tmps assign body w R:=⟨h.1,fun c cs _=>h.2 c cs (room_wide _)⟩
variable {P:Program}
theorem znW {α:Type} {n m D:Nat} {Mt:Nat→Obj→Prop} {fn:FuncId} {rec:LoopState→Option Code→Loop} {tmps:Array Value} {assign body:Code}
  (I Ix:List α→World→Prop) (hI:zgu D I) (hIx:zgu D Ix) (hG:∀r,Mt (D+1) (.loop r)) (hrec:∀st pe st' pe',{ rec st pe with state:=st',pending:=pe' }=rec st' pe') (hst:∀st pe,(rec st pe).state=st)
  {pre:List α} {x:α} {W:World} (Ax:Act→World→Prop) (hAx:∀a',zgu D (fun (_:Unit) W=>Ax a' W))
  (hi:I pre W) (hD:W.heap[D]? = some (.deferred (some []))) (hL:W.heap[D+1]? = some (.loop (rec .ready none)))
  (hassign:∀K:Act→World→Prop,(∀a' W',Below W.heap.size W W'→Ax a' W'→K a' W')→assign.wpIn (Fence.wide.inRound (D+1)) n P (Exit.then K (fun _ _ _=>False)) { tmps:=tmps,defers:=[] } W)
  (hbody:∀a' W',I pre W'→Ax a' W'→D+2≤W'.heap.size→body.wpIn (Fence.wide.inRound (D+1)) n P (zlO D Mt I Ix (pre++[x]) W') a' W') :
  RoundIn Fence.wide m P (D+1) fn tmps assign body W fun e W'=>
   (e=.returned (.bool true)∧(I (pre++[x]) W'∧W'.heap[D]? = some (.deferred (some []))∧W'.heap[D+1]? = some (.loop (rec .ready none)))∧Frp Mt W W')∨
   (e=.returned (.bool false)∧Ix (pre++[x]) W'∧W'.heap[D]? = some (.deferred (some []))∧W'.heap[D+1]? = some (.loop (rec .done (some .ret)))):=by
 refine zmy (m:=n) (roundIn_of_wpIn trivial (hassign _ ?_))
 intro a' W1 hB1 hax
 have hlt:D+1<W.heap.size:=(Array.getElem?_eq_some_iff.1 hL).1
 have hi1:I pre W1:=hI pre W W1 none hi ⟨hB1.os,hB1.tape,hB1.output,hB1.size,fun k hk _=>hB1.block k hk⟩ (fun r e=>by cases e)
 have hD1:=(hB1.block D (by omega)).trans hD
 have hL1:=(hB1.block (D+1) hlt).trans hL
 have hlt1:D+1<W1.heap.size:=(Array.getElem?_eq_some_iff.1 hL1).1
 refine⟨_,run_beginRound hL1 (hst _ _),?_⟩
 obtain⟨W2,hW2⟩:∃W2,W1.putObj (D+1) (.loop { rec .ready none with state:=.busy })=W2:=⟨_,rfl⟩
 have hg2:W1.grownBy W2 (some (D+1)):=by rw [←hW2];exact grownBy_putObj' W1 (D+1) _
 have hL2:W2.heap[D+1]? = some (.loop { rec .ready none with state:=.busy }):=by rw [←hW2];exact World.putObj_heap_same hlt1
 have hD2:W2.heap[D]? = some (.deferred (some [])):=by rw [←hW2];exact (World.putObj_heap_other (by omega)).trans hD1
 have hF2:Frp Mt W W2:=(Frp.ofBelow hB1 Mt).trans (Frp.ofFrm (Frm.ofGrown hg2) (fun g h o ho=>by simp at h;subst h;rw [hL1]at ho;cases ho;exact hG _))
 rw [hW2]
 have hi2:I pre W2:=hI pre W1 W2 _ hi1 hg2 (fun r e=>by cases e;exact .inr rfl)
 have hax2:Ax a' W2:=hAx a' () W1 W2 _ hax hg2 (fun r e=>by cases e;exact .inr rfl)
 have hlt2:D+2≤W2.heap.size:=by have:=(Array.getElem?_eq_some_iff.1 hL2).1;omega
 refine wpIn_mono (hbody a' W2 hi2 hax2 hlt2) ?_
 have fin:∀(jump:Option Code) (W3:World),BooksSame D W2 W3→∃W4,(Instr.endRound (D+1) jump).run P W3=.ok (.bool jump.isNone) W4∧W3.grownBy W4 (some (D+1))∧W4.heap[D]? = some (.deferred (some []))∧W4.heap[D+1]? = some (.loop (rec (if jump.isNone then .ready else .done) jump)):=by
  intro jump W3 hb
  have hL3:=hb.2.trans hL2
  have hlt3:D+1<W3.heap.size:=(Array.getElem?_eq_some_iff.1 hL3).1
  refine⟨_,run_endRound jump hL3,grownBy_putObj' W3 (D+1) _,(World.putObj_heap_other (by omega)).trans (hb.1.trans hD2),?_⟩
  rw [World.putObj_heap_same hlt3]
  have:=hrec .ready none (if jump.isNone then .ready else .done) jump
  rw [←this]
 rintro e a3 W3 hp
 cases e with
 | normal=>
  obtain⟨hb,hF3,hi3⟩:=hp
  obtain⟨W4,hr,hg4,hD4,hL4⟩:=fin none W3 hb
  exact⟨_,W4,hr,.inl ⟨rfl,⟨hI _ W3 W4 _ hi3 hg4 (fun r e=>by cases e;exact .inr rfl),hD4,hL4⟩,(hF2.trans hF3).trans (Frp.ofFrm (Frm.ofGrown hg4) (fun g h o ho=>by simp at h;subst h;rw [hb.2.trans hL2]at ho;cases ho;exact hG _))⟩⟩
 | ret=>
  obtain⟨hb,hi3⟩:=hp
  obtain⟨W4,hr,hg4,hD4,hL4⟩:=fin (some .ret) W3 hb
  exact⟨_,W4,hr,.inr ⟨rfl,hIx _ W3 W4 _ hi3 hg4 (fun r e=>by cases e;exact .inr rfl),hD4,hL4⟩⟩
 | exit id=>exact hp.elim
 | goto t=>exact hp.elim
 | panic ch=>exact hp.elim
 | outgrown=>exact hp.elim
theorem znV {α:Type} {n:Nat} {g:Operand} {ps:Array Tmp} {assign body:Code} {Q:Exit→Act→World→Prop} {a:Act} {w:World} {gf:Nat} {lb:Array Value}
  (hg:a.eval g=.func (.func gf) #[] lb) (eg:∀args w,(callFunc gf args).run P w=.ok (.enter gf args) w)
  {encs:α→Array Value} {Bx:Obj→Prop} {Mt:Nat→Obj→Prop} {xs:List α} (hG:∀r,Mt (w.heap.size+1) (.loop r)) (hGl:∀q o,w.heap.size+2≤q→Bx o→¬ Mt q o) (hseq:zqF P gf lb encs Bx Mt xs (w.heap.size+1) w) (hps:∀x,(encs x).size=ps.size)
  (I Ix:List α→World→Prop) (hI:zgu w.heap.size I) (hIx:zgu w.heap.size Ix) (h0:I [] w)
  (Ax:α→Act→World→Prop) (hAx:∀x a',zgu w.heap.size (fun (_:Unit) W=>Ax x a' W))
  (hassign:∀(pre:List α) (x:α) (W:World) (K:Act→World→Prop),I pre W→w.heap.size+2≤W.heap.size→(∀a' W',Below W.heap.size W W'→Ax x a' W'→K a' W')→
   assign.wpIn (Fence.wide.inRound (w.heap.size+1)) n P (Exit.then K (fun _ _ _=>False)) { tmps:=(ps.zip (encs x)).foldl (fun t (p,v)=>t.setIfInBounds p v) a.tmps,defers:=[] } W)
  (hbody:∀(pre:List α) (x:α) (a':Act) (W:World),I pre W→Ax x a' W→pre++[x] <+: xs→w.heap.size+2≤W.heap.size→
   body.wpIn (Fence.wide.inRound (w.heap.size+1)) n P (zlO w.heap.size Mt I Ix (pre++[x]) W) a' W)
  (hdone:∀W:World,I xs W→W.heap[w.heap.size]? = some (.deferred (some []))→Q .normal { a with defers:={ target:=.collected w.heap.size,args:= #[] }::a.defers } W)
  (hstop:∀(pre:List α) (W:World),pre <+: xs→Ix pre W→W.heap[w.heap.size]? = some (.deferred (some []))→Code.ret.wpIn Fence.wide n P Q { a with defers:={ target:=.collected w.heap.size,args:= #[] }::a.defers } W) :
  (Code.rangeFunc g ps assign body).wpIn Fence.wide n P Q a w:=by
 refine wpIn_rangeFunc ?_
 intro fn hfn
 obtain⟨rec,hrec⟩:∃rec:LoopState→Option Code→Loop,rec=fun st pe=>{ state:=st,pending:=pe,fn,tmps:=a.tmps,params:=ps,assign,body,defers:=w.heap.size }:=⟨_,rfl⟩
 obtain⟨W1,hW1⟩:∃W1,(w.alloc (.deferred (some []))).alloc (.loop (rec .ready none))=W1:=⟨_,rfl⟩
 have hL1:W1.heap[w.heap.size+1]? = some (.loop (rec .ready none)):=by
  rw [←hW1];have:=World.alloc_heap_new (w.alloc (.deferred (some []))) (.loop (rec .ready none));rwa [World.size_alloc]at this
 have hD1:W1.heap[w.heap.size]? = some (.deferred (some [])):=by
  rw [←hW1];exact (Below.heap_alloc _ _ _ (by simp)).trans (World.alloc_heap_new w _)
 have hB1:Below w.heap.size w W1:=by rw [←hW1];exact ((Below.refl _ w).alloc (Nat.le_refl _) _).alloc (by simp) _
 have hI1:I [] W1:=hI [] w W1 none h0 ⟨hB1.os,hB1.tape,hB1.output,hB1.size,fun k hk _=>hB1.block k hk⟩ (fun r e=>by cases e)
 refine⟨w.heap.size+1,[{ target:=.collected w.heap.size,args:= #[] }],W1,{ target:=.fn (.func gf) lb,args:= #[.func (.yield (w.heap.size+1)) #[] #[]] },W1,gf,
  #[.func (.yield (w.heap.size+1)) #[] #[]]++lb,W1,?_,?_,fun _ _=>trivial,?_,(fun h=>(by cases h)),?_⟩
 ·rw [←hW1,hrec];exact run_enterLoop_outer _ _ _ _ _
 ·simp only [resolve,hg]
  simp [go_sem]
 ·simp [invoke,go_sem,eg]
 ·refine (hseq
   (fun pre W=>I pre W∧W.heap[w.heap.size]? = some (.deferred (some []))∧W.heap[w.heap.size+1]? = some (.loop (rec .ready none)))
   (fun pre W=>Ix pre W∧W.heap[w.heap.size]? = some (.deferred (some []))∧W.heap[w.heap.size+1]? = some (.loop (rec .done (some .ret)))) ?_ ?_ (n-1) W1 hB1 (fun q o h hb=>hGl q o (by have:=(Array.getElem?_eq_some_iff.1 hL1).1;omega) hb) ⟨hI1,hD1,hL1⟩).mono ?_
  ·rintro s W W' ⟨hi,hD,hL⟩ hg'
   exact⟨hI s W W' none hi hg' (fun r e=>by cases e),(hg'.block _ (Array.getElem?_eq_some_iff.1 hD).1 (by simp)).trans hD,(hg'.block _ (Array.getElem?_eq_some_iff.1 hL).1 (by simp)).trans hL⟩
  ·rintro m pre x W ⟨hi,hD,hL⟩ hpx
   have hy:=run_yield (P:=P) (args:=encs x) hL (by rw [hrec];exact hps x)
   rw [hrec]at hy
   refine⟨fn,_,assign,body,hy,?_⟩
   refine (znW (n:=n) (m:=m) (fn:=fn) (x:=x) I Ix hI hIx hG (by rw [hrec];exact fun _ _ _ _=>rfl) (by rw [hrec];exact fun _ _=>rfl) (Ax x) (hAx x) hi hD hL (fun K hK=>hassign pre x W K hi (by have:=(Array.getElem?_eq_some_iff.1 hL).1;omega) hK) (fun a' W' hi' hax hl=>hbody pre x a' W' hi' hax hpx hl)).mono ?_
   rintro e W' (⟨rfl,h1,h2⟩ | ⟨rfl,h1⟩)
   ·exact .inl ⟨rfl,h1,h2⟩
   ·exact .inr ⟨rfl,h1⟩
  ·rintro e W2 ⟨⟨v,rfl⟩,(⟨hi,hD,hL⟩ | ⟨pre,hpre,hi,hD,hL⟩)⟩
   ·have he:=run_endLoop (P:=P) hL (by rw [hrec];simp)
    rw [hrec]at he
    exact⟨none,_,he,hdone _ (hI xs W2 _ _ hi (grownBy_putObj' W2 _ _) (fun r e=>by cases e;exact .inr rfl)) ((World.putObj_heap_other (by omega)).trans hD)⟩
   ·have he:=run_endLoop (P:=P) hL (by rw [hrec];simp)
    rw [hrec]at he
    exact⟨some .ret,_,he,hstop pre _ hpre (hIx pre W2 _ _ hi (grownBy_putObj' W2 _ _) (fun r e=>by cases e;exact .inr rfl)) ((World.putObj_heap_other (by omega)).trans hD)⟩
end Go.Proofs.YtlpnibbdmkeklaaGreatDoor
namespace Go.Proofs.YtlpnibbdmkeklaaGreatDoor
open Go.RowKit
set_option linter.unusedVariables false
def zfX (x:Int):Bool:=decide (97≤x∧x≤122)
def digB (x:Int):Bool:=decide (48≤x∧x≤57)
theorem zfk {x:Int} (h:97≤x∧x≤122):zfX x=true:=by unfold zfX;simpa using h
theorem zez {x:Int} (h:¬ (97≤x∧x≤122)):zfX x=false:=by unfold zfX;simpa using h
theorem zkE {x:Int} (h:48≤x∧x≤57):digB x=true:=by unfold digB;simpa using h
theorem zhT {x:Int} (h:¬ (48≤x∧x≤57)):digB x=false:=by unfold digB;simpa using h
theorem zdE (x:Int) (w:World):Calls Tryz.prog 135 #[.int .u8 x] w fun e w'=>e=.returned (.bool (zfX x))∧w'=w:=by
 by_cases h1:97≤x
 ·by_cases h2:x≤122
  ·have HD:=hide (zfk ⟨h1,h2⟩)
   go_enter Tryz.func135,Tryz.ntmps135
   go_wp2
   go_ret
   exact⟨by rw [zaa HD];rfl,rfl⟩
  ·have HD:=hide (zez (x:=x) (by omega))
   go_enter Tryz.func135,Tryz.ntmps135
   go_wp2
   go_ret
   exact⟨by rw [zaa HD];rfl,rfl⟩
 ·have HD:=hide (zez (x:=x) (by omega))
  have d1:decide (97≤x)=false:=by simpa using h1
  go_enter Tryz.func135,Tryz.ntmps135
  go_wp2
  go_ret
  exact⟨by rw [zaa HD];rfl,rfl⟩
theorem zlB (x:Int) (w:World):Calls Tryz.prog 136 #[.int .u8 x] w fun e w'=>e=.returned (.bool (digB x))∧w'=w:=by
 by_cases h1:48≤x
 ·by_cases h2:x≤57
  ·have HD:=hide (zkE ⟨h1,h2⟩)
   go_enter Tryz.func136,Tryz.ntmps136
   go_wp2
   go_ret
   exact⟨by rw [zaa HD];rfl,rfl⟩
  ·have HD:=hide (zhT (x:=x) (by omega))
   go_enter Tryz.func136,Tryz.ntmps136
   go_wp2
   go_ret
   exact⟨by rw [zaa HD];rfl,rfl⟩
 ·have HD:=hide (zhT (x:=x) (by omega))
  have d1:decide (48≤x)=false:=by simpa using h1
  go_enter Tryz.func136,Tryz.ntmps136
  go_wp2
  go_ret
  exact⟨by rw [zaa HD];rfl,rfl⟩
def zgc (x:Int):Bool:=decide (32≤x∧x≤126)
theorem zhF {x:Int} (h:32≤x∧x≤126):zgc x=true:=by unfold zgc;simpa using h
theorem zfF {x:Int} (h:¬ (32≤x∧x≤126)):zgc x=false:=by unfold zgc;simpa using h
theorem ziu (x:Int) (w:World):Calls Tryz.prog 134 #[.int .u8 x] w fun e w'=>e=.returned (.bool (zgc x))∧w'=w:=by
 by_cases h1:32≤x
 ·by_cases h2:x≤126
  ·have HD:=hide (zhF ⟨h1,h2⟩)
   go_enter Tryz.func134,Tryz.ntmps134
   go_wp2
   go_ret
   exact⟨by rw [zaa HD];rfl,rfl⟩
  ·have HD:=hide (zfF (x:=x) (by omega))
   go_enter Tryz.func134,Tryz.ntmps134
   go_wp2
   go_ret
   exact⟨by rw [zaa HD];rfl,rfl⟩
 ·have HD:=hide (zfF (x:=x) (by omega))
  have d1:decide (32≤x)=false:=by simpa using h1
  go_enter Tryz.func134,Tryz.ntmps134
  go_wp2
  go_ret
  exact⟨by rw [zaa HD];rfl,rfl⟩
theorem zlh (w:World) (a:Option Addr) (n cap:Nat) (h:n<1∨8<n) :
  Calls Tryz.prog 114 #[.slice a n cap] w fun e w'=>e=.returned (.bool false)∧w'=w:=by
 by_cases h1:n<1
 ·have h1':(n:Int)<1:=by omega
  go_enter Tryz.func114,Tryz.ntmps114
  go_wp2_with fail
  go_ret
  exact⟨rfl,rfl⟩
 ·have h1':decide ((n:Int)<1)=false:=by simp;omega
  have h2:(8:Int)<(n:Int):=by omega
  go_enter Tryz.func114,Tryz.ntmps114
  go_wp2_with fail
  go_ret
  exact⟨rfl,rfl⟩
open Classical in
set_option maxHeartbeats 1600000 in
theorem zoL (w:World) (b off cap:Nat) (l:List Int) (hok:okB l) (h1:1≤l.length) (h8:l.length≤8)
  (hc:∀i,i<l.length→w.cell? ⟨b,off+i,none⟩=some (.int .u8 (l.getD i 0))) :
  Calls Tryz.prog 114 #[.slice (some ⟨b,off,none⟩) l.length cap] w fun e w'=>e=.returned (.bool (decide (zai l)))∧w'=w:=by
 have d1:decide ((l.length:Int)<1)=false:=by simp;omega
 have d2:decide ((8:Int)<(l.length:Int))=false:=by simp;omega
 have hl0:(0:Int)<(l.length:Int):=by omega
 obtain⟨y,hy⟩:∃y,y=l.getD 0 0:=⟨_,rfl⟩
 have hcy:w.cell? ⟨b,off,none⟩=some (.int .u8 y):=by rw [hy];exact hc 0 (by omega)
 have HY:=hide hy
 clear hy
 by_cases hs:97≤y∧y≤122
 ·have sy:=zfk hs
  go_enter Tryz.func114,Tryz.ntmps114
  go_wp2_with (go_at_call 135;refine (zdE y w).mono ?_;rintro e w' ⟨rfl,rfl⟩)
  go_loop [22] (fun i=>∃k:Nat,k≤l.length∧i=.int .i64 k∧zcD zcI l k) (fun i=>l.length-(intOf i).toNat)
  case atStart=>exact⟨0,Nat.zero_le _,rfl,fun i hi=>by omega⟩
  case round=>
   obtain⟨k,hk,rfl,ha⟩:=hrel
   have HA:=hide ha
   clear ha
   by_cases hlt:k<l.length
   ·obtain⟨x,hx⟩:∃x,x=l.getD k 0:=⟨_,rfl⟩
    have hcx:w'.cell? ⟨b,off+k,none⟩=some (.int .u8 x):=by rw [hx];exact hc _ hlt
    have HX:=hide hx
    have hlt':(k:Int)<(l.length:Int):=by omega
    clear hc hcy sy hx
    by_cases hn:97≤x∧x≤122
    ·have HN:=hide (show zcI k x from .inl hn)
     have sx:=zfk hn
     clear hn
     go_wp2_with (go_at_call 135;refine (zdE x _).mono ?_;rintro e w' ⟨rfl,rfl⟩)
     go_round
     case rel=>exact⟨k+1,by omega,by go_num,zcg (zaa HA) (by rw [←zaa HX];exact zaa HN)⟩
     case measure=>simp [intOf];omega
    ·have sx:=zez hn
     by_cases hd:48≤x∧x≤57
     ·have hk0:0<k:=by
       by_cases e:k=0
       ·subst e;exact absurd hs (by rw [zaa HY,←zaa HX];exact hn)
       ·omega
      have HN:=hide (show zcI k x from .inr ⟨hk0,hd⟩)
      have sd:=zkE hd
      clear hn hd
      go_wp2_with (first | (go_at_call 135;refine (zdE x _).mono ?_;rintro e w' ⟨rfl,rfl⟩) | (go_at_call 136;refine (zlB x _).mono ?_;rintro e w' ⟨rfl,rfl⟩))
      go_round
      case rel=>exact⟨k+1,by omega,by go_num,zcg (zaa HA) (by rw [←zaa HX];exact zaa HN)⟩
      case measure=>simp [intOf];omega
     ·have sd:=zhT hd
      have HF:=hide (show decide (zai l)=false by
       simp only [decide_eq_false_iff_not]
       rintro⟨_,_,h⟩
       have:=h k hlt
       rw [←zaa HX]at this
       rcases this with h | ⟨_,h⟩
       ·exact hn h
       ·exact hd h)
      clear hn hd
      go_wp2_with (first | (go_at_call 135;refine (zdE x _).mono ?_;rintro e w' ⟨rfl,rfl⟩) | (go_at_call 136;refine (zlB x _).mono ?_;rintro e w' ⟨rfl,rfl⟩))
      go_ret
      exact⟨by rw [zaa HF];rfl,rfl⟩
   ·have e:k=l.length:=by omega
    subst e
    have HF:=hide (show decide (zai l)=true by simp only [decide_eq_true_eq];exact⟨h1,h8,zaa HA⟩)
    clear hc
    go_wp2_with fail
    go_ret
    exact⟨by rw [zaa HF];rfl,rfl⟩
 ·have sy:=zez hs
  have HF:=hide (show decide (zai l)=false by
   simp only [decide_eq_false_iff_not]
   rintro⟨_,_,h⟩
   have:=h 0 (by omega)
   rw [←zaa HY]at this
   rcases this with h | ⟨h,_⟩
   ·exact hs h
   ·omega)
  clear hc hs
  go_enter Tryz.func114,Tryz.ntmps114
  go_wp2_with (go_at_call 135;refine (zdE y w).mono ?_;rintro e w' ⟨rfl,rfl⟩)
  go_ret
  exact⟨by rw [zaa HF];rfl,rfl⟩
open Classical in
theorem zeo (w:World) (v:Value) (l:List Int) (h:Byt w v l) :
  Calls Tryz.prog 114 #[v] w fun e w'=>e=.returned (.bool (decide (zai l)))∧w'=w:=by
 by_cases hl:l.length<1∨8<l.length
 ·obtain⟨a,cap,rfl,_⟩:=h.shape
  have hd:decide (zai l)=false:=by simp only [decide_eq_false_iff_not];rintro⟨_,_,_⟩;omega
  rw [hd]
  exact zlh w a _ cap hl
 ·obtain⟨hok,hm,⟨rfl,rfl⟩ | ⟨x,cap,rfl,hc,rfl⟩ | ⟨b,off,cap,rfl,_,_,_,_,h5⟩⟩:=h
  ·simp at hl
  ·simp at hl
  ·exact zoL w b off cap l hok (by omega) (by omega) h5
theorem zih (w:World) (v:Value) (l:List Int) (h:Byt w v l) (hn:zai l):Calls Tryz.prog 114 #[v] w fun e w'=>e=.returned (.bool true)∧w'=w:=by
 refine (zeo w v l h).mono ?_
 rintro e w' ⟨rfl,h⟩
 exact⟨by simp [hn],h⟩
theorem zpS (w:World) (v:Value) (l:List Int) (h:Byt w v l) (hn:¬ zai l):Calls Tryz.prog 114 #[v] w fun e w'=>e=.returned (.bool false)∧w'=w:=by
 refine (zeo w v l h).mono ?_
 rintro e w' ⟨rfl,h⟩
 exact⟨by simp [hn],h⟩
open Classical in
set_option maxHeartbeats 1600000 in
theorem zey (w:World) (v:Value) (l:List Int) (h:Byt w v l) :
  Calls Tryz.prog 113 #[v] w fun e w'=>e=.returned (.bool (decide (zat l)))∧w'=w:=by
 by_cases hl:30<l.length
 ·obtain⟨a,cap,rfl,_⟩:=h.shape
  have HD:=hide (show decide (zat l)=false by simp only [decide_eq_false_iff_not];rintro⟨_,_⟩;omega)
  have d2:(30:Int)<(l.length:Int):=by omega
  go_enter Tryz.func113,Tryz.ntmps113
  go_wp2
  go_ret
  exact⟨by rw [zaa HD];rfl,rfl⟩
 have d2:¬ (30:Int)<(l.length:Int):=by omega
 by_cases h0:l=[]
 ·obtain⟨a,cap,rfl,_⟩:=h.shape
  subst h0
  have HD:=hide (show decide (zat [])=true by simp only [decide_eq_true_eq];exact⟨by simp,fun i hi=>by simp at hi⟩)
  go_enter Tryz.func113,Tryz.ntmps113
  go_wp2
  refine wp_loop_rounds 1 ?_
  rw [rounds_succ]
  go_wp2
  go_ret
  exact⟨by rw [zaa HD];rfl,rfl⟩
 obtain⟨hok,hm,⟨_,e⟩ | ⟨_,_,_,_,e⟩ | ⟨b,off,cap,rfl,_,_,_,_,hc⟩⟩:=h
 ·exact absurd e h0
 ·exact absurd e h0
 go_enter Tryz.func113,Tryz.ntmps113
 go_wp2
 go_loop [10] (fun i=>∃k:Nat,k≤l.length∧i=.int .i64 k∧zcD zcl l k) (fun i=>l.length-(intOf i).toNat)
 case atStart=>exact⟨0,Nat.zero_le _,rfl,fun i hi=>by omega⟩
 case round=>
  obtain⟨k,hk,rfl,ha⟩:=hrel
  have HA:=hide ha
  clear ha
  by_cases hlt:k<l.length
  ·obtain⟨x,hx⟩:∃x,x=l.getD k 0:=⟨_,rfl⟩
   have hcx:w.cell? ⟨b,off+k,none⟩=some (.int .u8 x):=by rw [hx];exact hc _ hlt
   have HX:=hide hx
   have hlt':(k:Int)<(l.length:Int):=by omega
   clear hc hx
   by_cases hn:zcl k x
   ·have HN:=hide hn
    have sx:=zhF (x:=x) (by unfold zcl at hn;omega)
    clear hn
    go_wp2_with (go_at_call 134;refine (ziu x _).mono ?_;rintro e w' ⟨rfl,rfl⟩)
    go_round
    case rel=>exact⟨k+1,by omega,by go_num,zcg (zaa HA) (by rw [←zaa HX];exact zaa HN)⟩
    case measure=>simp [intOf];omega
   ·have HF:=hide (show decide (zat l)=false by
     simp only [decide_eq_false_iff_not]
     rintro⟨_,h⟩
     exact hn (by rw [zaa HX];exact h k hlt))
    have sx:=zfF (x:=x) (by unfold zcl at hn;omega)
    clear hn
    go_wp2_with (go_at_call 134;refine (ziu x _).mono ?_;rintro e w' ⟨rfl,rfl⟩)
    go_ret
    exact⟨by rw [zaa HF];rfl,rfl⟩
  ·have e:k=l.length:=by omega
   subst e
   have HF:=hide (show decide (zat l)=true by simp only [decide_eq_true_eq];exact⟨by omega,zaa HA⟩)
   clear hc
   go_wp2
   go_ret
   exact⟨by rw [zaa HF];rfl,rfl⟩
theorem znH (w:World) (v:Value) (l:List Int) (h:Byt w v l) (hn:zat l):Calls Tryz.prog 113 #[v] w fun e w'=>e=.returned (.bool true)∧w'=w:=by
 refine (zey w v l h).mono ?_
 rintro e w' ⟨rfl,h⟩
 exact⟨by simp [hn],h⟩
theorem zqq (w:World) (v:Value) (l:List Int) (h:Byt w v l) (hn:¬ zat l):Calls Tryz.prog 113 #[v] w fun e w'=>e=.returned (.bool false)∧w'=w:=by
 refine (zey w v l h).mono ?_
 rintro e w' ⟨rfl,h⟩
 exact⟨by simp [hn],h⟩
set_option maxRecDepth 100000
open Classical in
set_option maxHeartbeats 3200000 in
theorem zmU (w:World) (v:Value) (l:List (List Int×List Int)) (h:RdAttrs w v l) :
  Calls Tryz.prog 125 #[v] w fun e w'=>e=.returned (.bool (decide (zal l)))∧Below w.heap.size w w':=by
 by_cases hl:4<l.length
 ·obtain⟨a,cap,rfl,_⟩:=Elems.shape h
  have HD:=hide (show decide (zal l)=false by simp only [decide_eq_false_iff_not];rintro⟨_,_⟩;omega)
  have d2:(4:Int)<(l.length:Int):=by omega
  go_enter Tryz.func125,Tryz.ntmps125
  go_wp2_with fail
  go_ret
  exact⟨by rw [zaa HD];rfl,Below.refl _ _⟩
 have d2:¬ (4:Int)<(l.length:Int):=by omega
 by_cases h0:l=[]
 ·obtain⟨a,cap,rfl,_⟩:=Elems.shape h
  subst h0
  have HD:=hide (show decide (zal [])=true by simp only [decide_eq_true_eq];exact⟨by simp,fun i hi=>by simp at hi⟩)
  go_enter Tryz.func125,Tryz.ntmps125
  go_wp2_with fail
  refine wp_loop_rounds 1 ?_
  rw [rounds_succ]
  go_wp2_with fail
  go_ret
  exact⟨by rw [zaa HD];rfl,Below.refl _ _⟩
 obtain⟨_,⟨_,e⟩ | ⟨_,_,_,_,e⟩ | ⟨b,off,cap,rfl,g1,g2,g3,g4,g5⟩⟩:=h
 ·exact absurd e h0
 ·exact absurd e h0
 go_enter Tryz.func125,Tryz.ntmps125
 go_wp2_with fail
 go_loopw [10] (fun i wr=>∃k:Nat,k≤l.length∧i=.int .i64 k∧(∀i,i<k→zbY l i)∧Below w.heap.size w wr) (fun i _=>l.length-(intOf i).toNat)
 case atStart=>exact⟨0,Nat.zero_le _,rfl,fun i hi=>by omega,Below.refl _ _⟩
 case round=>
  obtain⟨k,hk,rfl,ha,hB⟩:=hrel
  have HA:=hide ha
  clear ha
  by_cases hlt:k<l.length
  ·obtain⟨c0,c1,e0,e1,hc⟩:=zeP (g5 k hlt)
   obtain⟨_,_,ee,hc0,hc1⟩:=hc
   simp only [List.cons.injEq,and_true]at ee
   obtain⟨rfl,rfl⟩:=ee
   replace e0:=(hB.cell (p:=⟨b,off+k*2,none⟩) g4).trans e0
   replace e1:=(hB.cell (p:=⟨b,off+k*2+1,none⟩) g4).trans e1
   replace hc0:=hc0.keep hB
   replace hc1:=hc1.keep hB
   have hlt':(k:Int)<(l.length:Int):=by omega
   have hk0:(0:Int)≤(k:Int):=by omega
   obtain⟨x,hx⟩:∃x,x=l[k]:=⟨_,rfl⟩
   rw [←hx]at hc0 hc1
   have hgd:l.getD k ([],[])=x:=by rw [hx];simp [hlt]
   obtain⟨a0,n0,hv0,_,_⟩:=hc0.shape
   obtain⟨a1,n1,hv1,_,_⟩:=hc1.shape
   subst hv0 hv1
   have HGD:=hide hgd
   have HX:=hide hx
   clear hgd hx
   have hB1:Below wr.heap.size wr (wr.alloc (.cells #[.slice a0 x.1.length n0,.slice a1 x.2.length n1] 144)):=(Below.refl _ _).alloc (Nat.le_refl _) _
   have l1:=Loc.made wr #[.slice a0 x.1.length n0,.slice a1 x.2.length n1] 144
   have hcell:∀j,j<l.length→∃y:Value,y∈[y]∧wr.cell? ⟨b,off+j*2,none⟩=some y∧Byt wr y (l.getD j ([],[])).1:=by
    intro j hj
    obtain⟨p0,p1,u0,u1,hp⟩:=zeP (g5 j hj)
    obtain⟨_,_,ee,hp0,hp1⟩:=hp
    simp only [List.cons.injEq,and_true]at ee
    obtain⟨rfl,rfl⟩:=ee
    exact⟨_,by simp,(hB.cell (p:=⟨b,off+j*2,none⟩) g4).trans u0,by rw [show l.getD j ([],[])=l[j] by simp [hj]];exact hp0.keep hB⟩
   have HC:=hide hcell
   clear hcell g5
   have hbs:b<wr.heap.size:=Nat.lt_of_lt_of_le g4 hB.size
   generalize hn0:x.1.length=m0 at *
   generalize hn1:x.2.length=m1 at *
   clear hn0 hn1
   go_wp2_with fail
   generalize wr.alloc (.cells #[.slice a0 m0 n0,.slice a1 m1 n1] 144)=w1 at *
   have c0:w1.cell? ⟨wr.heap.size,0,none⟩=some (.slice a0 m0 n0):=l1.cell 0
   have c1:w1.cell? ⟨wr.heap.size,1,none⟩=some (.slice a1 m1 n1):=l1.cell 1
   have hA1:=zad hB hB1
   have HB1:=hide hB1
   clear hB1 e0 e1
   refine (zeo w1 _ x.1 (hc0.keep (zaa HB1))).mono ?_
   rintro e w1 ⟨rfl,rfl⟩
   by_cases hn:zai x.1
   ·rw [show decide (zai x.1)=true by simpa using hn]
    go_wp2_with fail
    refine (zey w1 _ x.2 (hc1.keep (zaa HB1))).mono ?_
    rintro e w1 ⟨rfl,rfl⟩
    by_cases ht:zat x.2
    ·rw [show decide (zat x.2)=true by simpa using ht]
     by_cases hkz:k=0
     ·have HT:=hide (show zbY l k from ⟨by rw [zaa HGD];exact hn,by rw [zaa HGD];exact ht,fun h=>by omega⟩)
      subst hkz
      clear hn ht HC HX HGD hc0 hc1 HB1
      go_wp2_with fail
      go_quiet (fail)
      go_wp2_with fail
      go_roundw
      case rel=>exact⟨1,by omega,by go_num,fun i hi=>by obtain rfl:i=0:=(by omega);exact zaa HT,below_drewN hA1 _⟩
      case measure=>simp [intOf];omega
     ·obtain⟨y,_,u0,hp0⟩:=zaa HC (k-1) (by omega)
      have hB1:=zaa HB1
      replace u0:=(hB1.cell (p:=⟨b,off+(k-1)*2,none⟩) hbs).trans u0
      replace hp0:=hp0.keep hB1
      have hx0:=hc0.keep hB1
      generalize hy:(l.getD (k-1) ([],[])).1=yl at *
      obtain⟨a2,n2,hv2,_,_⟩:=hp0.shape
      subst hv2
      generalize yl.length=m2 at *
      have hkp:0<k:=by omega
      have hkd:decide (0<k)=true:=by simp;omega
      have hk1:(0:Int)≤(k:Int)-1:=by omega
      have hk2:(k:Int)-1<(l.length:Int):=by omega
      have hk3:((k:Int)-1).toNat=k-1:=by omega
      have hcq:∀q,Calls Tryz.prog 143 #[.slice a2 m2 n2,.slice a0 m0 n0] (w1.drewN q) fun e w'=>e=.returned (.int .i64 (cmpB yl x.1))∧w'=w1.drewN q:=fun q=>zkh _ _ _ _ _ (hp0.keep (below_drewN (Below.refl _ _) q)) (hx0.keep (below_drewN (Below.refl _ _) q))
      have HQ:=hide hcq
      have hlc:=ziD yl x.1
      by_cases hl2:zdP yl x.1=true
      ·have HT:=hide (show zbY l k from ⟨by rw [zaa HGD];exact hn,by rw [zaa HGD];exact ht,fun _=>by rw [zaa HGD,hy];exact hl2⟩)
       have hcz:decide (0≤cmpB yl x.1)=false:=by rw [hlc]at hl2;simp at hl2 ⊢;omega
       have hcz':¬ 0≤cmpB yl x.1:=by simpa using hcz
       clear hn ht HX HGD hc0 hc1 HB1 HC hcq hlc hl2 hy hp0 hx0 hB1
       generalize cmpB yl x.1=cm at *
       go_wp2_with fail
       go_quiet ((go_at_call 143;exact Calls.quiet_of_same (zaa HQ _)))
       go_wp2_with fail
       go_roundw
       case rel=>exact⟨k+1,by omega,by go_num,fun i hi=>zku (zaa HA) (zaa HT) i hi,below_drewN hA1 _⟩
       case measure=>simp [intOf];omega
      ·have HF:=hide (show decide (zal l)=false by
        simp only [decide_eq_false_iff_not]
        rintro⟨_,h⟩
        exact hl2 (by have:=(h k hlt).2.2 (by omega);rwa [zaa HGD,hy]at this))
       have hcz:decide (0≤cmpB yl x.1)=true:=by rw [hlc]at hl2;simp at hl2 ⊢;omega
       have hcz':0≤cmpB yl x.1:=by simpa using hcz
       clear hn ht HX HGD hc0 hc1 HB1 HC hcq hlc hl2 hy hp0 hx0 hB1
       generalize cmpB yl x.1=cm at *
       go_wp2_with fail
       go_quiet ((go_at_call 143;exact Calls.quiet_of_same (zaa HQ _)))
       go_wp2_with fail
       go_ret
       exact⟨by rw [zaa HF];rfl,below_drewN hA1 _⟩
    ·rw [show decide (zat x.2)=false by simpa using ht]
     have HF:=hide (show decide (zal l)=false by
      simp only [decide_eq_false_iff_not]
      rintro⟨_,h⟩
      exact ht (by have:=(h k hlt).2.1;rwa [zaa HGD]at this))
     clear hn ht
     go_wp2_with fail
     go_ret
     exact⟨by rw [zaa HF];rfl,hA1⟩
   ·have hd:decide (zai x.1)=false:=by simpa using hn
    rw [hd]
    have HF:=hide (show decide (zal l)=false by
     simp only [decide_eq_false_iff_not]
     rintro⟨_,h⟩
     exact hn (by have:=(h k hlt).1;rwa [zaa HGD]at this))
    clear hn hd
    go_wp2_with fail
    go_ret
    exact⟨by rw [zaa HF];rfl,hA1⟩
  ·have e:k=l.length:=by omega
   subst e
   have HF:=hide (show decide (zal l)=true by simp only [decide_eq_true_eq];exact⟨by omega,zaa HA⟩)
   clear g5
   go_wp2_with fail
   go_ret
   exact⟨by rw [zaa HF];rfl,hB⟩
end Go.Proofs.YtlpnibbdmkeklaaGreatDoor
