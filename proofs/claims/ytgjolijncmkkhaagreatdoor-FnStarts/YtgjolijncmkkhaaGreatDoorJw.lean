/- Own texts joined: RootB, EqT, HeldA, HeldN, HeldT, RepA, RootI, StartI, St10, RepZ, CpS, CpO, OrdI, FqS, KdW, KdC, KdS, FqF, KdO, NdI, L5rd, L5rk, KlS, L5ah, L5kd, L5nd. -/
import Derived.Test.YtgjolijncmkkhaaGreatDoorJa
import Derived.Test.YtgjolijncmkkhaaGreatDoorJb
import Derived.Test.YtgjolijncmkkhaaGreatDoorJc
import Derived.Test.YtgjolijncmkkhaaGreatDoorJe
import Derived.Test.YtgjolijncmkkhaaGreatDoorJf
import Derived.Test.YtgjolijncmkkhaaGreatDoorJn
import Derived.Test.YtgjolijncmkkhaaGreatDoorJo
import Derived.Test.YtgjolijncmkkhaaGreatDoorJp
import Derived.Test.YtgjolijncmkkhaaGreatDoorJq
import Derived.Test.YtgjolijncmkkhaaGreatDoorJr
import Derived.Test.YtgjolijncmkkhaaGreatDoorJt
import Derived.Test.YtgjolijncmkkhaaGreatDoorJv
import Derived.Deep.RegionHeld3
import Derived.Deep.CutBlock
import Derived.WalkMore
import Derived.Shelf.SlSortCmp.WholeK
import Derived.Shelf.SlSortCmp.NoneTotal
import Derived.Shelf.Lay
import Derived.Ground.SlsfProg
import Derived.Test.YtgjolijncmkkhaaGreatDoorChecked
import Derived.Deep.QuietTactic
import Derived.BigQuiet
import Derived.Deep.RegionLaw
namespace Go.Proofs.YtgjolijncmkkhaaGreatDoor
open Go.RowKit
set_option linter.unusedVariables false
set_option maxRecDepth 100000
theorem rd5 {n:Nat} {w:Xk} {a b c d e:Xl} {t:Tr (n+1)} (h:RdNode (n+1) w [a,b,c,d,e] t):∃z ab nb cb ac nc cc ad nd cd ae ne ce,a=.int .i64 z∧b=.slice ab nb cb∧c=.slice ac nc cc∧d=.slice ad nd cd∧e=.slice ae ne ce:=by
 obtain⟨_,_,_,_,e0,_,_,hb,hc,hd,he⟩:=h
 simp only [List.cons.injEq,and_true]at e0
 obtain⟨rfl,rfl,rfl,rfl,rfl⟩:=e0
 obtain⟨ab,cb,rfl,_,_⟩:=hb.shape
 obtain⟨ac,cc,rfl,_,_⟩:=hc.shape
 obtain⟨ad,cd,rfl,_,_⟩:=Elems.shape hd
 obtain⟨ae,ce,rfl,_,_⟩:=Elems.shape he
 exact⟨_,_,_,_,_,_,_,_,_,_,_,_,_,rfl,rfl,rfl,rfl,rfl⟩
def zll (n:Nat) (t:Tr (n+1)):Bool:=okN n t && !zaz t.name
def zbw (n:Nat) (id:Int) (t:Tr (n+1)):Bool:=decide (0<=id) && decide (id<8) && zll n t
theorem Loc.tenA {w:Xk} {g:Nat} {v0 v1 v2 v3 v4 v5 v6 v7 v8 v9:Xl} {T:Xm} (h:Loc w g #[v0,v1,v2,v3,v4,v5,v6,v7,v8,v9] T):w.cell? ⟨g,0,none⟩=some v0∧w.cell? ⟨g,1,none⟩=some v1∧w.cell? ⟨g,2,none⟩=some v2∧w.cell? ⟨g,3,none⟩=some v3∧w.cell? ⟨g,4,none⟩=some v4∧w.cell? ⟨g,5,none⟩=some v5∧w.cell? ⟨g,6,none⟩=some v6∧w.cell? ⟨g,7,none⟩=some v7∧w.cell? ⟨g,8,none⟩=some v8∧w.cell? ⟨g,9,none⟩=some v9:=
 ⟨h.cell 0,h.cell 1,h.cell 2,h.cell 3,h.cell 4,h.cell 5,h.cell 6,h.cell 7,h.cell 8,h.cell 9⟩
theorem zrF {w:Xk} {g:Nat} {u0 u1 u2 u3 u4 u5 u6 u7 u8 u9:Xl} {T:Xm} (h:Loc w g #[u0,u1,u2,u3,u4,u5,u6,u7,u8,u9] T) (v0 v1 v2 v3 v4 v5 v6 v7 v8 v9:Xl) :
  Loc ((((((((((w.setCell ⟨g,0,none⟩ (v0)).setCell ⟨g,1,none⟩ (v1)).setCell ⟨g,2,none⟩ (v2)).setCell ⟨g,3,none⟩ (v3)).setCell ⟨g,4,none⟩ (v4)).setCell ⟨g,5,none⟩ (v5)).setCell ⟨g,6,none⟩ (v6)).setCell ⟨g,7,none⟩ (v7)).setCell ⟨g,8,none⟩ (v8)).setCell ⟨g,9,none⟩ (v9)) g #[v0,v1,v2,v3,v4,v5,v6,v7,v8,v9] T∧Frm w ((((((((((w.setCell ⟨g,0,none⟩ (v0)).setCell ⟨g,1,none⟩ (v1)).setCell ⟨g,2,none⟩ (v2)).setCell ⟨g,3,none⟩ (v3)).setCell ⟨g,4,none⟩ (v4)).setCell ⟨g,5,none⟩ (v5)).setCell ⟨g,6,none⟩ (v6)).setCell ⟨g,7,none⟩ (v7)).setCell ⟨g,8,none⟩ (v8)).setCell ⟨g,9,none⟩ (v9)) [g]:=by
 have h0:Loc (w.setCell ⟨g,0,none⟩ (v0)) g #[v0,u1,u2,u3,u4,u5,u6,u7,u8,u9] T:=h.set 0 v0
 have h1:Loc ((w.setCell ⟨g,0,none⟩ (v0)).setCell ⟨g,1,none⟩ (v1)) g #[v0,v1,u2,u3,u4,u5,u6,u7,u8,u9] T:=h0.set 1 v1
 have h2:Loc (((w.setCell ⟨g,0,none⟩ (v0)).setCell ⟨g,1,none⟩ (v1)).setCell ⟨g,2,none⟩ (v2)) g #[v0,v1,v2,u3,u4,u5,u6,u7,u8,u9] T:=h1.set 2 v2
 have h3:Loc ((((w.setCell ⟨g,0,none⟩ (v0)).setCell ⟨g,1,none⟩ (v1)).setCell ⟨g,2,none⟩ (v2)).setCell ⟨g,3,none⟩ (v3)) g #[v0,v1,v2,v3,u4,u5,u6,u7,u8,u9] T:=h2.set 3 v3
 have h4:Loc (((((w.setCell ⟨g,0,none⟩ (v0)).setCell ⟨g,1,none⟩ (v1)).setCell ⟨g,2,none⟩ (v2)).setCell ⟨g,3,none⟩ (v3)).setCell ⟨g,4,none⟩ (v4)) g #[v0,v1,v2,v3,v4,u5,u6,u7,u8,u9] T:=h3.set 4 v4
 have h5:Loc ((((((w.setCell ⟨g,0,none⟩ (v0)).setCell ⟨g,1,none⟩ (v1)).setCell ⟨g,2,none⟩ (v2)).setCell ⟨g,3,none⟩ (v3)).setCell ⟨g,4,none⟩ (v4)).setCell ⟨g,5,none⟩ (v5)) g #[v0,v1,v2,v3,v4,v5,u6,u7,u8,u9] T:=h4.set 5 v5
 have h6:Loc (((((((w.setCell ⟨g,0,none⟩ (v0)).setCell ⟨g,1,none⟩ (v1)).setCell ⟨g,2,none⟩ (v2)).setCell ⟨g,3,none⟩ (v3)).setCell ⟨g,4,none⟩ (v4)).setCell ⟨g,5,none⟩ (v5)).setCell ⟨g,6,none⟩ (v6)) g #[v0,v1,v2,v3,v4,v5,v6,u7,u8,u9] T:=h5.set 6 v6
 have h7:Loc ((((((((w.setCell ⟨g,0,none⟩ (v0)).setCell ⟨g,1,none⟩ (v1)).setCell ⟨g,2,none⟩ (v2)).setCell ⟨g,3,none⟩ (v3)).setCell ⟨g,4,none⟩ (v4)).setCell ⟨g,5,none⟩ (v5)).setCell ⟨g,6,none⟩ (v6)).setCell ⟨g,7,none⟩ (v7)) g #[v0,v1,v2,v3,v4,v5,v6,v7,u8,u9] T:=h6.set 7 v7
 have h8:Loc (((((((((w.setCell ⟨g,0,none⟩ (v0)).setCell ⟨g,1,none⟩ (v1)).setCell ⟨g,2,none⟩ (v2)).setCell ⟨g,3,none⟩ (v3)).setCell ⟨g,4,none⟩ (v4)).setCell ⟨g,5,none⟩ (v5)).setCell ⟨g,6,none⟩ (v6)).setCell ⟨g,7,none⟩ (v7)).setCell ⟨g,8,none⟩ (v8)) g #[v0,v1,v2,v3,v4,v5,v6,v7,v8,u9] T:=h7.set 8 v8
 have h9:Loc ((((((((((w.setCell ⟨g,0,none⟩ (v0)).setCell ⟨g,1,none⟩ (v1)).setCell ⟨g,2,none⟩ (v2)).setCell ⟨g,3,none⟩ (v3)).setCell ⟨g,4,none⟩ (v4)).setCell ⟨g,5,none⟩ (v5)).setCell ⟨g,6,none⟩ (v6)).setCell ⟨g,7,none⟩ (v7)).setCell ⟨g,8,none⟩ (v8)).setCell ⟨g,9,none⟩ (v9)) g #[v0,v1,v2,v3,v4,v5,v6,v7,v8,v9] T:=h8.set 9 v9
 exact⟨h9,((((((((((zal w _ _ _).trans (zal _ _ _ _)).trans (zal _ _ _ _)).trans (zal _ _ _ _)).trans (zal _ _ _ _)).trans (zal _ _ _ _)).trans (zal _ _ _ _)).trans (zal _ _ _ _)).trans (zal _ _ _ _)).trans (zal _ _ _ _))⟩
theorem zwK {P:Prop} [Decidable P] {b:Bool} (h:b=true↔P):b=decide P:=by
 cases b with
 | true=>simp [h.1 rfl]
 | false=>simp;exact fun hh=>by have:=h.2 hh;cases this
open Classical in
set_option maxHeartbeats 6400000 in
theorem zwc (n:Nat) (w:Xk) (a b c d e:Xl) (t:Tr (n+1)) (h:RdNode (n+1) w [a,b,c,d,e] t) (hsz:szT (n+1) t<=2097152) :
  Calls Tryz.prog 79 #[.agg #[a,b,c,d,e]] w fun e w'=>e=.returned (.bool (zll n t))∧Below w.heap.size w w':=by
 obtain⟨z,ab,nb,cb,ac,nc,cc,ad,nd,cd,ae,ne,ce,rfl,rfl,rfl,rfl,rfl⟩:=rd5 h
 have HN:=hide (fun W (hW:Below w.heap.size w W)=>zgh n W _ _ _ _ _ t (h.keep hW) hsz)
 have Da:Byt w (.slice ab nb cb) t.name:=by
  obtain⟨_,_,_,_,e0,_,_,hb,_⟩:=h
  simp only [List.cons.injEq,and_true]at e0
  obtain⟨_,rfl,_⟩:=e0
  exact hb
 have HB:=hide Da
 have HV:=hide (show zaz t.name=decide (Void t.name) from zwK (zbC t.name))
 clear h Da
 unfold zll
 have Aa:=(Below.refl w.heap.size w).alloc (Nat.le_refl _) (.cells #[.int .i64 z,.slice ab nb cb,.slice ac nc cc,.slice ad nd cd,.slice ae ne ce] 29)
 have l1:=Loc.made w #[.int .i64 z,.slice ab nb cb,.slice ac nc cc,.slice ad nd cd,.slice ae ne ce] 29
 have Ca:=Aa.alloc (by simp) (.cells vs0 82)
 have l2:=Loc.made (w.alloc (.cells #[.int .i64 z,.slice ab nb cb,.slice ac nc cc,.slice ad nd cd,.slice ae ne ce] 29)) vs0 82
 have Fa:=l1.alloc (.cells vs0 82)
 have Ba:(w.alloc (.cells #[.int .i64 z,.slice ab nb cb,.slice ac nc cc,.slice ad nd cd,.slice ae ne ce] 29)).heap.size=w.heap.size+1:=by simp
 rw [Ba]at l2
 have LL:=hide (And.intro Ca (And.intro Fa l2))
 have Ga:(Value.agg #[.int .u32 0,.int .i32 0,.int .u32 0,.map none])=.agg vs0:=rfl
 clear Aa l1 Ca l2 Fa Ba
 unfold vs0 at LL
 go_enter Tryz.func79,Tryz.ntmps79
 go_wp2_with fail
 obtain⟨hA,l1,l2⟩:=zaa LL
 clear LL
 generalize ((w.alloc (.cells #[.int .i64 z,.slice ab nb cb,.slice ac nc cc,.slice ad nd cd,.slice ae ne ce] 29)).alloc (.cells #[.int .u32 0,.int .i32 0,.int .u32 0,.map none] 82))=wa at *
 refine (zaa HN _ hA).mono ?_
 rintro e w1 ⟨rfl,hB⟩
 have Aa:=zam hA hB
 replace l1:=l1.all hB
 replace l2:=l2.all hB
 clear hA hB HN
 cases hb:okN n t with
 | false=>
  go_wp2_with fail
  go_ret
  exact⟨by rw [hb];rfl,Aa⟩
 | true=>
  obtain⟨x0,x1,x2,x3,x4⟩:=l1.five
  go_wp2_with fail
  refine (zmk w1.heap.size (w.heap.size+1) w1 _ t.name (.inl l2) (Nat.le_refl _) (fun w' f=>(zaa HB).keep (Aa.trans (f.below Aa.size (fun q hq=>by simp at hq;omega))))).mono ?_
  rintro e w2 ⟨rfl,_,f⟩
  have Ca:=Aa.trans (f.below Aa.size (fun q hq=>by simp at hq;omega))
  have hv:=zaa HV
  generalize decide (Void t.name)=vd at *
  clear f l1 l2 x0 x1 x2 x3 x4
  go_wp2_with fail
  go_ret
  exact⟨by rw [hb,hv];rfl,Ca⟩
set_option maxHeartbeats 3200000 in
theorem zlc (n:Nat) (w:Xk) (id:Int) (a b c d e:Xl) (t:Tr (n+1)) (h:RdNode (n+1) w [a,b,c,d,e] t) (hsz:szT (n+1) t<=2097152) :
  Calls Tryz.prog 40 #[.int .i64 id,.agg #[a,b,c,d,e]] w fun e w'=>e=.returned (.bool (zbw n id t))∧Below w.heap.size w w':=by
 obtain⟨z,ab,nb,cb,ac,nc,cc,ad,nd,cd,ae,ne,ce,rfl,rfl,rfl,rfl,rfl⟩:=rd5 h
 have HN:=hide (fun W (hW:Below w.heap.size w W)=>zwc n W _ _ _ _ _ t (h.keep hW) hsz)
 clear h
 unfold zbw
 generalize zll n t=rb at *
 have hA:=(Below.refl w.heap.size w).alloc (Nat.le_refl _) (.cells #[.int .i64 z,.slice ab nb cb,.slice ac nc cc,.slice ad nd cd,.slice ae ne ce] 29)
 by_cases h1:0<=id
 ·by_cases h2:id<8
  ·have d1:decide (0<=id)=true:=by simpa using h1
   have d2:decide (id<8)=true:=by simpa using h2
   rw [d1,d2]
   go_enter Tryz.func40,Tryz.ntmps40
   go_wp2_with fail
   refine (zaa HN _ hA).mono ?_
   rintro e w1 ⟨rfl,hB⟩
   have Aa:=zam hA hB
   go_wp2_with fail
   go_ret
   exact⟨rfl,Aa⟩
  ·have d1:decide (0<=id)=true:=by simpa using h1
   have d2:decide (id<8)=false:=by simpa using h2
   rw [d1,d2]
   go_enter Tryz.func40,Tryz.ntmps40
   go_wp2_with fail
   go_ret
   exact⟨rfl,hA⟩
 ·have d1:decide (0<=id)=false:=by simpa using h1
  rw [d1]
  go_enter Tryz.func40,Tryz.ntmps40
  go_wp2_with fail
  go_ret
  exact⟨rfl,hA⟩
def stN (n:Nat) (id:Int) (t:Tr (n+1)):Tr (n+1):=if zbw n id t then t else (⟨0,[],[],[],[]⟩:Nd (Tr n))
def sId (n:Nat) (id:Int) (t:Tr (n+1)):Int:=if zbw n id t then id else 0
theorem zrD {n:Nat} {id:Int} {t:Tr (n+1)} (h:zbw n id t=true):stN n id t=t:=by unfold stN;exact if_pos h
theorem zvC {n:Nat} {id:Int} {t:Tr (n+1)} (h:zbw n id t=false):stN n id t=(⟨0,[],[],[],[]⟩:Nd (Tr n)):=by unfold stN;exact if_neg (by rw [h];simp)
theorem zsd {n:Nat} {id:Int} {t:Tr (n+1)} (h:zbw n id t=true):sId n id t=id:=by unfold sId;rw [if_pos h]
theorem zuZ {n:Nat} {id:Int} {t:Tr (n+1)} (h:zbw n id t=false):sId n id t=0:=by unfold sId;rw [h];rfl
theorem zoI (n:Nat) (W:Xk):OwNode (n+1) W [.int .i64 0,.slice none 0 0,.slice none 0 0,.slice none 0 0,.slice none 0 0] (⟨0,[],[],[],[]⟩:Nd (Tr n)) []:=
 ⟨.slice none 0 0,.slice none 0 0,.slice none 0 0,.slice none 0 0,[],[],rfl,by show (-9223372036854775808:Int)<=0;omega,by show (0:Int)<=9223372036854775807;omega,⟨zbm,World.ownsRow_nil _ _ _ _⟩,⟨zbm,World.ownsRow_nil _ _ _ _⟩,OwElems.naught _ _ _ _,OwElems.naught _ _ _ _,by simp [FB,Value.ownBlock]⟩
set_option maxHeartbeats 12800000 in
theorem zrd (n:Nat) (w:Xk) (id:Int) (a b c d e:Xl) (t:Tr (n+1)) (h:RdNode (n+1) w [a,b,c,d,e] t) (hsz:szT (n+1) t<=2097152) :
  Calls Tryz.prog 20 #[.int .i64 id,.agg #[a,b,c,d,e]] w fun e w'=>∃(zk:Int) (pk:Xi) (npk cpk:Nat) (qk:Xi) (nqk cqk:Nat) (rk:Xi) (nrk crk:Nat) (uk:Xi) (nuk cuk:Nat),e=.returned (.tuple #[.agg #[.int .i64 (sId n id t),.int .i64 0,.int .i64 zk,.slice pk npk cpk,.slice qk nqk cqk,.slice rk nrk crk,.slice uk nuk cuk,.slice none 0 0,.slice none 0 0,.bool false],.bool (zbw n id t)])∧∃F,OwNode (n+1) w' [.int .i64 zk,.slice pk npk cpk,.slice qk nqk cqk,.slice rk nrk crk,.slice uk nuk cuk] (stN n id t) F∧F.Nodup∧Rng F w.heap.size w'.heap.size∧Below w.heap.size w w':=by
 obtain⟨za,pa,Ja,La,qa,Ha,Da,ra,Ga,Fa,ua,Ia,Ka,rfl,rfl,rfl,rfl,rfl⟩:=rd5 h
 obtain⟨l1,l2,hA⟩:=two w #[.int .i64 za,.slice pa Ja La,.slice qa Ha Da,.slice ra Ga Fa,.slice ua Ia Ka] #[.int .i64 0,.int .i64 0,.int .i64 0,.slice none 0 0,.slice none 0 0,.slice none 0 0,.slice none 0 0,.slice none 0 0,.slice none 0 0,.bool false] 29 42
 have HC:=hide (fun W (hW:Below w.heap.size w W)=>zve (n+1) t W _ _ _ _ _ (h.keep hW) hsz)
 have HS:=hide (fun W (hW:Below w.heap.size w W)=>zlc n W id _ _ _ _ _ t (h.keep hW) hsz)
 clear h
 go_enter Tryz.func20,Tryz.ntmps20
 go_wp2_with fail
 generalize ((w.alloc (.cells #[.int .i64 za,.slice pa Ja La,.slice qa Ha Da,.slice ra Ga Fa,.slice ua Ia Ka] 29)).alloc (.cells #[.int .i64 0,.int .i64 0,.int .i64 0,.slice none 0 0,.slice none 0 0,.slice none 0 0,.slice none 0 0,.slice none 0 0,.slice none 0 0,.bool false] 42))=wa at *
 refine (zaa HS _ hA).mono ?_
 rintro e w1 ⟨rfl,hB⟩
 have Aa:=zam hA hB
 replace l1:=l1.all hB
 replace l2:=l2.all hB
 clear hA hB HS
 cases hst:zbw n id t with
 | false=>
  have Ba:=hide (zuZ hst)
  have Ca:=hide (zvC hst)
  obtain⟨lX,fX⟩:=zrF l2 (.int .i64 0) (.int .i64 0) (.int .i64 0) (.slice none 0 0) (.slice none 0 0) (.slice none 0 0) (.slice none 0 0) (.slice none 0 0) (.slice none 0 0) (.bool false)
  have Oa:=l2.lt
  have bX:=Aa.trans (fX.below Aa.size (fun g hg=>by simp at hg;omega))
  have HP:=hide bX
  have e1:=zaa Ba
  have e2:=zaa Ca
  obtain⟨y0,y1,y2,y3,y4,y5,y6,y7,y8,y9⟩:=l2.tenA
  have i0:=l2.frozen 0
  have i1:=l2.frozen 1
  have i2:=l2.frozen 2
  have i3:=l2.frozen 3
  have i4:=l2.frozen 4
  have i5:=l2.frozen 5
  have i6:=l2.frozen 6
  have i7:=l2.frozen 7
  have i8:=l2.frozen 8
  have i9:=l2.frozen 9
  obtain⟨g0,g1,g2,g3,g4,g5,g6,g7,g8,g9⟩:=lX.tenA
  clear bX fX lX l1 l2 Aa
  go_wp2_with fail
  exact bodyPost_ret (v:=.tuple #[.agg #[.int .i64 0,.int .i64 0,.int .i64 0,.slice none 0 0,.slice none 0 0,.slice none 0 0,.slice none 0 0,.slice none 0 0,.slice none 0 0,.bool false],.bool false]) (by simp [results,Tryz.results20,go_sem,g0,g1,g2,g3,g4,g5,g6,g7,g8,g9]) rfl ⟨0,none,0,0,none,0,0,none,0,0,none,0,0,by first | rw [e1,hst] | rfl,[],by first | exact zoI n _ | (rw [e2];exact zoI n _),List.nodup_nil,Rng.nil _ _,zaa HP⟩
 | true=>
  have Ba:=hide (zsd hst)
  have Ca:=hide (zrD hst)
  obtain⟨x0,x1,x2,x3,x4⟩:=l1.five
  go_wp2_with fail
  clear x0 x1 x2 x3 x4
  refine (zaa HC _ Aa).mono ?_
  rintro e w3 ⟨zk,pk,npk,cpk,qk,nqk,cqk,rk,nrk,crk,uk,nuk,cuk,rfl,G,ho,Ma,rg,hB⟩
  have hA:=Aa
  have Na:=Aa.size
  have hD:=zam hA hB
  have l4:=l2.all hB
  obtain⟨lX,fX⟩:=zrF l4 (.int .i64 id) (.int .i64 0) (.int .i64 zk) (.slice pk npk cpk) (.slice qk nqk cqk) (.slice rk nrk crk) (.slice uk nuk cuk) (.slice none 0 0) (.slice none 0 0) (.bool false)
  have Oa:=l2.lt
  have oX:=ho.frm fX (fun g hg=>by have:=rg g hg;simp only [List.mem_singleton];omega)
  have bX:=hD.trans (fX.below hD.size (fun g hg=>by simp at hg;omega))
  have rX:Rng G w.heap.size _:=rg.mono Na fX.size
  have HP:=hide (And.intro oX (And.intro rX bX))
  have e1:=zaa Ba
  have e2:=zaa Ca
  obtain⟨y0,y1,y2,y3,y4,y5,y6,y7,y8,y9⟩:=l4.tenA
  have i0:=l4.frozen 0
  have i1:=l4.frozen 1
  have i2:=l4.frozen 2
  have i3:=l4.frozen 3
  have i4:=l4.frozen 4
  have i5:=l4.frozen 5
  have i6:=l4.frozen 6
  have i7:=l4.frozen 7
  have i8:=l4.frozen 8
  have i9:=l4.frozen 9
  obtain⟨g0,g1,g2,g3,g4,g5,g6,g7,g8,g9⟩:=lX.tenA
  clear oX bX rX fX lX l4 l1 l2 hA hB hD ho rg
  go_wp2_with fail
  obtain⟨oX,rX,bX⟩:=zaa HP
  exact bodyPost_ret (v:=.tuple #[.agg #[.int .i64 id,.int .i64 0,.int .i64 zk,.slice pk npk cpk,.slice qk nqk cqk,.slice rk nrk crk,.slice uk nuk cuk,.slice none 0 0,.slice none 0 0,.bool false],.bool true]) (by simp [results,Tryz.results20,go_sem,g0,g1,g2,g3,g4,g5,g6,g7,g8,g9]) rfl ⟨zk,pk,npk,cpk,qk,nqk,cqk,rk,nrk,crk,uk,nuk,cuk,by first | rw [e1,hst] | rfl,G,by first | exact oX | (rw [e2];exact oX),Ma,rX,bX⟩
set_option maxHeartbeats 1600000 in
theorem zwf (w:Xk) (id k:Int) (a1 a2 a3 a4:Xi) (n1 n2 n3 n4 c1 c2 c3 c4:Nat):Calls Tryz.prog 45 #[.agg #[.int .i64 id,.int .i64 0,.int .i64 k,.slice a1 n1 c1,.slice a2 n2 c2,.slice a3 n3 c3,.slice a4 n4 c4,.slice none 0 0,.slice none 0 0,.bool false]] w fun e w'=>e=.returned (.bool true)∧Below w.heap.size w w':=by
 have hA:=(Below.refl w.heap.size w).alloc (Nat.le_refl _) (.cells #[.int .i64 id,.int .i64 0,.int .i64 k,.slice a1 n1 c1,.slice a2 n2 c2,.slice a3 n3 c3,.slice a4 n4 c4,.slice none 0 0,.slice none 0 0,.bool false] 42)
 go_enter Tryz.func45,Tryz.ntmps45
 go_wp2_with fail
 refine wp_loop_rounds 1 ?_
 rw [rounds_succ]
 go_wp2_with fail
 go_ret
 exact⟨rfl,hA⟩
set_option maxHeartbeats 1600000 in
theorem zxa (w:Xk) (id k:Int) (a1 a2 a3 a4:Xi) (n1 n2 n3 n4 c1 c2 c3 c4:Nat):Calls Tryz.prog 46 #[.agg #[.int .i64 id,.int .i64 0,.int .i64 k,.slice a1 n1 c1,.slice a2 n2 c2,.slice a3 n3 c3,.slice a4 n4 c4,.slice none 0 0,.slice none 0 0,.bool false]] w fun e w'=>e=.returned (.bool true)∧Below w.heap.size w w':=by
 have hA:=(Below.refl w.heap.size w).alloc (Nat.le_refl _) (.cells #[.int .i64 id,.int .i64 0,.int .i64 k,.slice a1 n1 c1,.slice a2 n2 c2,.slice a3 n3 c3,.slice a4 n4 c4,.slice none 0 0,.slice none 0 0,.bool false] 42)
 go_enter Tryz.func46,Tryz.ntmps46
 go_wp2_with fail
 refine wp_loop_rounds 1 ?_
 rw [rounds_succ]
 go_wp2_with fail
 go_ret
 exact⟨rfl,hA⟩
set_option maxHeartbeats 3200000 in
theorem zoV (n:Nat) (w:Xk) (id k:Int) (a1 a2 a3 a4:Xi) (n1 n2 n3 n4 c1 c2 c3 c4:Nat) (t:Tr (n+1)) (h:RdNode (n+1) w [.int .i64 k,.slice a1 n1 c1,.slice a2 n2 c2,.slice a3 n3 c3,.slice a4 n4 c4] t) (hsz:szT (n+1) t<=2097152) :
  Calls Tryz.prog 22 #[.agg #[.int .i64 id,.int .i64 0,.int .i64 k,.slice a1 n1 c1,.slice a2 n2 c2,.slice a3 n3 c3,.slice a4 n4 c4,.slice none 0 0,.slice none 0 0,.bool false]] w fun e w'=>e=.returned (.bool (zbw n id t))∧Below w.heap.size w w':=by
 have HS:=hide (fun W (hW:Below w.heap.size w W)=>zlc n W id _ _ _ _ _ t (h.keep hW) hsz)
 clear h hsz
 generalize zbw n id t=sb at *
 have hA:=(Below.refl w.heap.size w).alloc (Nat.le_refl _) (.cells #[.int .i64 id,.int .i64 0,.int .i64 k,.slice a1 n1 c1,.slice a2 n2 c2,.slice a3 n3 c3,.slice a4 n4 c4,.slice none 0 0,.slice none 0 0,.bool false] 42)
 have l0:=Loc.made w #[.int .i64 id,.int .i64 0,.int .i64 k,.slice a1 n1 c1,.slice a2 n2 c2,.slice a3 n3 c3,.slice a4 n4 c4,.slice none 0 0,.slice none 0 0,.bool false] 42
 go_enter Tryz.func22,Tryz.ntmps22
 go_wp2_with fail
 generalize (w.alloc (.cells #[.int .i64 id,.int .i64 0,.int .i64 k,.slice a1 n1 c1,.slice a2 n2 c2,.slice a3 n3 c3,.slice a4 n4 c4,.slice none 0 0,.slice none 0 0,.bool false] 42))=wa at *
 refine (zaa HS _ hA).mono ?_
 rintro e w1 ⟨rfl,hB⟩
 have Aa:=zam hA hB
 replace l0:=l0.all hB
 clear hA hB HS
 obtain⟨x0,x1,x2,x3,x4,x5,x6,x7,x8,x9⟩:=l0.tenA
 cases sb with
 | false=>
  go_wp2_with fail
  go_ret
  exact⟨rfl,Aa⟩
 | true=>
 go_wp2_with fail
 clear x0 x1 x2 x3 x4 x5 x6 x7 x8 x9
 refine (zpz _ _ _).mono ?_
 rintro e w2 ⟨rfl,hw⟩
 replace hw:=hw.symm
 subst hw
 obtain⟨x0,x1,x2,x3,x4,x5,x6,x7,x8,x9⟩:=l0.tenA
 go_wp2_with fail
 clear x0 x1 x2 x3 x4 x5 x6 x7 x8 x9
 refine (zwf _ _ _ _ _ _ _ _ _ _ _ _ _ _ _).mono ?_
 rintro e w3 ⟨rfl,hB⟩
 have Ca:=zam Aa hB
 replace l0:=l0.all hB
 clear Aa hB
 obtain⟨x0,x1,x2,x3,x4,x5,x6,x7,x8,x9⟩:=l0.tenA
 go_wp2_with fail
 clear x0 x1 x2 x3 x4 x5 x6 x7 x8 x9
 refine (zxa _ _ _ _ _ _ _ _ _ _ _ _ _ _ _).mono ?_
 rintro e w4 ⟨rfl,hB⟩
 have Ba:=zam Ca hB
 go_wp2_with fail
 go_ret
 exact⟨rfl,Ba⟩
set_option maxRecDepth 1000000
theorem zuv {a b:Xg} {k:Nat} (ha:k<a.length) (hb:k<b.length):cmpK (a.drop k) (b.drop k)=if cmpZ (a.getD k 0) (b.getD k 0)=0 then cmpK (a.drop (k+1)) (b.drop (k+1)) else cmpZ (a.getD k 0) (b.getD k 0):=by
 rw [zgf ha,zgf hb,cmpK]
theorem zng {a b:Xg} {k:Nat} (ha:k<a.length) (hb:k=b.length):cmpK (a.drop k) (b.drop k)=1:=by
 rw [zgf ha,hb,List.drop_length]
 rfl
theorem zmO {a b:Xg} {k:Nat} (ha:k=a.length) (hb:k<=b.length):cmpK (a.drop k) (b.drop k)=if k<b.length then -1 else 0:=by
 rw [ha,List.drop_length]
 by_cases h:a.length<b.length
 ·rw [if_pos h,zgf h]
  rfl
 ·rw [if_neg h,List.drop_of_length_le (by omega)]
  rfl
set_option maxHeartbeats 3200000 in
theorem zws (w:Xk) (u v:Xl) (a b:Xg) (hu:Ints w u a) (hv:Ints w v b) :
  Calls Tryz.prog 159 #[u,v] w fun e w'=>e=.returned (.int .i64 (cmpK a b))∧w'=w:=by
 have La:=hu.2.1
 have Ga:=hv.2.1
 unfold maxLen at La Ga
 by_cases h0:a=[]
 ·subst h0
  obtain⟨a1,c1,rfl,_⟩:=hu.shape
  obtain⟨a2,c2,rfl,_⟩:=hv.shape
  have HE:=hide (zmO (a:=[]) (b:=b) (k:=0) rfl (Nat.zero_le _))
  simp only [List.drop_zero]at HE
  clear hu hv
  generalize b.length=m at *
  by_cases hm:0<m
  ·have d:decide (0<m)=true:=decide_eq_true hm
   have d':(0:Int)<(m:Int):=by omega
   rw [if_pos hm]at HE
   go_enter Tryz.func159,Tryz.ntmps159
   go_wp2_with fail
   refine wp_loop_rounds 1 ?_
   rw [rounds_succ]
   go_wp2_with fail
   go_ret
   exact⟨by rw [zaa HE];rfl,rfl⟩
  ·have e:m=0:=by omega
   subst e
   rw [if_neg hm]at HE
   go_enter Tryz.func159,Tryz.ntmps159
   go_wp2_with fail
   refine wp_loop_rounds 1 ?_
   rw [rounds_succ]
   go_wp2_with fail
   go_ret
   exact⟨by rw [zaa HE];rfl,rfl⟩
 obtain⟨Ma,_,⟨rfl,rfl⟩ | ⟨x,Ka,rfl,hc,rfl⟩ | ⟨p,Qa,Ka,rfl,h1,h2,h3,h4,h5⟩⟩:=hu
 ·exact absurd rfl h0
 ·exact absurd rfl h0
 have Da:0<a.length:=by
  cases a with
  | nil=>exact absurd rfl h0
  | cons x r=>simp
 by_cases hb0:b=[]
 ·subst hb0
  obtain⟨a2,c2,rfl,_⟩:=hv.shape
  have HE:=hide (zng (a:=a) (b:=[]) (k:=0) Da rfl)
  simp only [List.drop_zero]at HE
  have c1:=h5 0 Da
  rw [Nat.add_zero]at c1
  generalize a.getD 0 0=x at *
  have Oa:(0:Int)<(a.length:Int):=by omega
  clear h5 hv
  generalize a.length=n at *
  go_enter Tryz.func159,Tryz.ntmps159
  go_wp2_with fail
  refine wp_loop_rounds 1 ?_
  rw [rounds_succ]
  go_wp2_with fail
  go_ret
  exact⟨by rw [zaa HE];rfl,rfl⟩
 obtain⟨Fa,_,⟨rfl,rfl⟩ | ⟨x,Ca,rfl,hc,rfl⟩ | ⟨q,Ha,Ca,rfl,g1,g2,g3,g4,g5⟩⟩:=hv
 ·exact absurd rfl hb0
 ·exact absurd rfl hb0
 generalize hA:a.length=n at *
 generalize hC:b.length=m at *
 have HA:=hide hA
 have HC:=hide hC
 clear hA hC h0 hb0
 go_enter Tryz.func159,Tryz.ntmps159
 go_wp2_with fail
 go_loop [11] (fun i=>∃k:Nat,k<=n∧k<=m∧i=.int .i64 k∧Hid (cmpK a b=cmpK (a.drop k) (b.drop k))) (fun i=>n-(intOf i).toNat)
 case atStart=>exact⟨0,Nat.zero_le _,Nat.zero_le _,rfl,hide rfl⟩
 case round=>
  obtain⟨k,hk,Ja,rfl,ht⟩:=hrel
  by_cases hka:k<n
  ·have Aa:(k:Int)<(n:Int):=by omega
   have Pa:(0:Int)<=(k:Int):=by omega
   have c1:=h5 k hka
   by_cases hkb:k<m
   ·have Ba:¬ (m:Int)<=(k:Int):=by omega
    have Ia:(k:Int)<(m:Int):=by omega
    have c2:=g5 k hkb
    have HS:=hide (zuv (a:=a) (b:=b) (k:=k) (by rw [zaa HA];exact hka) (by rw [zaa HC];exact hkb))
    generalize a.getD k 0=x at *
    generalize b.getD k 0=y at *
    clear h5 g5
    have HZ:=hide (zxb w x y)
    go_wp2_with fail
    refine (zaa HZ).mono ?_
    rintro e w' ⟨rfl,rfl⟩
    clear HZ
    generalize cmpZ x y=z at *
    by_cases hz:z=0
    ·subst hz
     have HT:=hide ((zaa ht).trans (show cmpK (a.drop k) (b.drop k)=cmpK (a.drop (k+1)) (b.drop (k+1)) by rw [zaa HS,if_pos rfl]))
     clear c1 c2
     go_wp2_with fail
     go_round
     case rel=>exact⟨k+1,by omega,by omega,by go_num,HT⟩
     case measure=>simp [intOf];omega
    ·have dz:(z != 0)=true:=by simpa using hz
     have HT:=hide ((zaa ht).trans (show cmpK (a.drop k) (b.drop k)=z by rw [zaa HS,if_neg hz]))
     clear c1 c2 hz
     go_wp2_with fail
     go_ret
     exact⟨by rw [zaa HT];rfl,rfl⟩
   ·have Ba:(m:Int)<=(k:Int):=by omega
    have HT:=hide ((zaa ht).trans (zng (by rw [zaa HA];exact hka) (by rw [zaa HC];omega)))
    generalize a.getD k 0=x at *
    clear h5 g5
    go_wp2_with fail
    go_ret
    exact⟨by rw [zaa HT];rfl,rfl⟩
  ·have Aa:¬ (k:Int)<(n:Int):=by omega
   have HT:=hide ((zaa ht).trans (zmO (by rw [zaa HA];omega) (by rw [zaa HC];exact Ja)))
   have e:k=n:=by omega
   subst e
   clear h5 g5
   by_cases hm:k<m
   ·have Na:(k:Int)<(m:Int):=by omega
    rw [if_pos (by rw [zaa HC];exact hm)]at HT
    go_wp2_with fail
    go_ret
    exact⟨by rw [zaa HT];rfl,rfl⟩
   ·have Na:¬ (k:Int)<(m:Int):=by omega
    rw [if_neg (by rw [zaa HC];exact hm)]at HT
    go_wp2_with fail
    go_ret
    exact⟨by rw [zaa HT];rfl,rfl⟩
set_option maxHeartbeats 3200000 in
theorem zuf (w:Xk) (b c:Nat) (x y:Int) (c0:w.cell? ⟨b,0,none⟩=some (.int .i64 x)) (c1:w.cell? ⟨b,1,none⟩=some (.int .i64 y)) :
  Calls Tryz.prog 158 #[.slice (some ⟨b,0,none⟩) 2 c] w fun e w'=>e=.returned (.int .i64 (if x=0 then y else x))∧w'=w:=by
 by_cases hx:x=0
 ·subst hx
  rw [if_pos rfl]
  by_cases hy:y=0
  ·subst hy
   go_enter Tryz.func158,Tryz.ntmps158
   go_wp2_with fail
   refine wp_loop_rounds 3 ?_
   rw [rounds_succ]
   go_wp2_with fail
   rw [rounds_succ]
   go_wp2_with fail
   rw [rounds_succ]
   go_wp2_with fail
   go_ret
   exact⟨rfl,rfl⟩
  ·have dy:(y != 0)=true:=by simpa using hy
   clear hy
   go_enter Tryz.func158,Tryz.ntmps158
   go_wp2_with fail
   refine wp_loop_rounds 3 ?_
   rw [rounds_succ]
   go_wp2_with fail
   rw [rounds_succ]
   go_wp2_with fail
   go_ret
   exact⟨rfl,rfl⟩
 ·rw [if_neg hx]
  have dx:(x != 0)=true:=by simpa using hx
  clear hx
  go_enter Tryz.func158,Tryz.ntmps158
  go_wp2_with fail
  refine wp_loop_rounds 3 ?_
  rw [rounds_succ]
  go_wp2_with fail
  go_ret
  exact⟨rfl,rfl⟩
set_option maxHeartbeats 1600000 in
theorem zoR (w:Xk) (n r n' r':Int) :
  Calls Tryz.prog 124 #[.agg #[.int .i64 n,.int .i64 r],.agg #[.int .i64 n',.int .i64 r']] w fun e w'=>e=.returned (.int .i64 (ordI n r n' r'))∧w'=(w.alloc (.cells #[.int .i64 n,.int .i64 r] 50)).alloc (.cells #[.int .i64 n',.int .i64 r'] 50):=by
 have l0:=(Loc.made w #[.int .i64 n,.int .i64 r] 50).alloc (.cells #[.int .i64 n',.int .i64 r'] 50)
 have l1:=Loc.made (w.alloc (.cells #[.int .i64 n,.int .i64 r] 50)) #[.int .i64 n',.int .i64 r'] 50
 simp only [World.size_alloc]at l1
 have x0:=l0.cell 0
 have x1:=l0.cell 1
 have y0:=l1.cell 0
 have y1:=l1.cell 1
 clear l0 l1
 by_cases e1:n=n'
 ·have d1:(n == n')=true:=by simpa using e1
  have d3:decide (n<n')=false:=by simp;omega
  by_cases e2:r=r'
  ·have d2:(r == r')=true:=by simpa using e2
   have HE:=hide (show ordI n r n' r'=0 by unfold ordI;rw [if_pos ⟨e1,e2⟩])
   clear e1 e2
   go_enter Tryz.func124,Tryz.ntmps124
   go_wp2_with fail
   go_ret
   exact⟨by rw [zaa HE];rfl,rfl⟩
  ·have d2:(r == r')=false:=by simpa using e2
   by_cases e3:r<r'
   ·have d4:decide (r<r')=true:=by simpa using e3
    have HE:=hide (show ordI n r n' r' = -1 by unfold ordI zbH;rw [if_neg (fun h=>e2 h.2),if_pos (by simp [e1,e3])])
    clear e1 e2 e3
    go_enter Tryz.func124,Tryz.ntmps124
    go_wp2_with fail
    go_ret
    exact⟨by rw [zaa HE];rfl,rfl⟩
   ·have d4:decide (r<r')=false:=by simp;omega
    have HE:=hide (show ordI n r n' r'=1 by unfold ordI zbH;rw [if_neg (fun h=>e2 h.2),if_neg (by simp [e1,e3])])
    clear e1 e2 e3
    go_enter Tryz.func124,Tryz.ntmps124
    go_wp2_with fail
    go_ret
    exact⟨by rw [zaa HE];rfl,rfl⟩
 ·have d1:(n == n')=false:=by simpa using e1
  by_cases e3:n<n'
  ·have d4:decide (n<n')=true:=by simpa using e3
   have HE:=hide (show ordI n r n' r' = -1 by unfold ordI zbH;rw [if_neg (fun h=>e1 h.1),if_pos (by simp [e3])])
   clear e1 e3
   go_enter Tryz.func124,Tryz.ntmps124
   go_wp2_with fail
   go_ret
   exact⟨by rw [zaa HE];rfl,rfl⟩
  ·have d4:decide (n<n')=false:=by simp;omega
   have HE:=hide (show ordI n r n' r'=1 by unfold ordI zbH;rw [if_neg (fun h=>e1 h.1),if_neg (by simp [e1,e3])])
   clear e1 e3
   go_enter Tryz.func124,Tryz.ntmps124
   go_wp2_with fail
   go_ret
   exact⟨by rw [zaa HE];rfl,rfl⟩
end Go.Proofs.YtgjolijncmkkhaaGreatDoor
namespace Go.Proofs.YtgjolijncmkkhaaGreatDoor
open Go.RowKit Go.Maps
set_option linter.unusedVariables false
set_option maxRecDepth 100000
def PlQ (w0 w:Xk) (C:Xj) (p:PlV) (F:Xh):Prop:=RdPlC w0 C p∧F=[]
def PlsQ (w0 w:Xk) (v:Xl) (l:List PlV) (F:Xh):Prop:=OwElems w 146 9 v l (PlQ w0 w) F
theorem PlQ.frm {w0 w w':Xk} {C:Xj} {p:PlV} {F S:Xh} (h:PlQ w0 w C p F) (f:Frm w w' S) (hd:∀g∈F,g∉S):PlQ w0 w' C p F:=h
theorem PlsQ.frm {w0 w w':Xk} {v:Xl} {l:List PlV} {F S:Xh} (h:PlsQ w0 w v l F) (f:Frm w w' S) (hd:∀g∈F,g∉S):PlsQ w0 w' v l F:=OwElems.frm h f hd (fun C x G hr hG=>hr)
theorem PlQ.lt {w0 w:Xk} {C:Xj} {p:PlV} {F:Xh} (h:PlQ w0 w C p F):∀g∈F,g<w.heap.size:=fun g hg=>by rw [h.2]at hg;cases hg
theorem PlsQ.lt {w0 w:Xk} {v:Xl} {l:List PlV} {F:Xh} (h:PlsQ w0 w v l F):∀g∈F,g<w.heap.size:=OwElems.lt h (fun _ _ _ hr=>hr.lt)
theorem PlQ.typ {w0 w:Xk} {C:Xj} {p:PlV} {F:Xh} (h:PlQ w0 w C p F):∀q∈F,CellT w q:=fun g hg=>by rw [h.2]at hg;cases hg
theorem PlsQ.typ {w0 w:Xk} {v:Xl} {l:List PlV} {F:Xh} (h:PlsQ w0 w v l F):∀q∈F,CellT w q:=zgC h (.inl rfl) (fun _ _ _ hr=>hr.typ)
structure FoQ0 (w0 w:Xk) (g mb:Nat) (a:Xi) (c:Nat) (l:List PlV) (F:Xh):Prop where
 set:FSet (mb+1) (.slice a l.length c) (.map (some mb)) w g
 row:PlsQ w0 w (.slice a l.length c) l F
 len:l.length<=100000
theorem FoQ0.keep {w0:Xk} {w w':Xk} {g mb:Nat} {a:Xi} {c:Nat} {l:List PlV} {F:Xh} (h:FoQ0 w0 w g mb a c l F) (hb:Below w.heap.size w w'):FoQ0 w0 w' g mb a c l F:=⟨h.set.frm (Frm.ofBelow hb []) (by simp) (fun q hq=>by cases hq),h.row.frm (Frm.ofBelow hb []) (fun _ _=>by simp),h.len⟩
structure FoQ (w0 w:Xk) (g mb:Nat) (a:Xi) (c:Nat) (l:List PlV) (F:Xh):Prop where
 set:FSet (mb+1) (.slice a l.length c) (.map (some mb)) w g
 map:AtM w mb l
 row:PlsQ w0 w (.slice a l.length c) l F
 nd:F.Nodup
 ge:∀q∈F,w0.heap.size<=q
 geg:w0.heap.size<=g
 gem:w0.heap.size<=mb
 ids:∀p∈l,okI p.id∧okI p.par
 len:l.length<=100000
theorem FoQ.q0 {w0:Xk} {w:Xk} {g mb:Nat} {a:Xi} {c:Nat} {l:List PlV} {F:Xh} (h:FoQ w0 w g mb a c l F):FoQ0 w0 w g mb a c l F:=⟨h.set,h.row,h.len⟩
theorem FoQ.gF {w0:Xk} {w:Xk} {g mb:Nat} {a:Xi} {c:Nat} {l:List PlV} {F:Xh} (h:FoQ w0 w g mb a c l F):g∉F:=fun hg=>by
 obtain⟨cs,hl,_⟩:=h.set.loc
 exact (PlsQ.typ h.row g hg).notL (by decide) hl
theorem FoQ.mF {w0:Xk} {w:Xk} {g mb:Nat} {a:Xi} {c:Nat} {l:List PlV} {F:Xh} (h:FoQ w0 w g mb a c l F):mb∉F:=fun hg=>by
 obtain⟨es,k,e⟩:=h.map.isMap
 exact (PlsQ.typ h.row mb hg).notMap e
theorem FoQ.gm {w0:Xk} {w:Xk} {g mb:Nat} {a:Xi} {c:Nat} {l:List PlV} {F:Xh} (h:FoQ w0 w g mb a c l F):g≠mb:=fun e=>by
 obtain⟨es,k,e'⟩:=h.map.isMap
 obtain⟨cs,hl,_⟩:=h.set.loc
 unfold Loc at hl
 rw [e,e']at hl
 cases hl
theorem FoQ.frm {w0:Xk} {w w':Xk} {g mb:Nat} {a:Xi} {c:Nat} {l:List PlV} {F S:Xh} (h:FoQ w0 w g mb a c l F) (f:Frm w w' S) (hg:g∉S) (hm:mb∉S) (hF:∀q∈F,q∉S) (hS:∀q∈S,Cells w q):FoQ w0 w' g mb a c l F:=
 ⟨h.set.frm f hg (fun q hq=>.inr (hS q hq)),h.map.frm f hm,h.row.frm f hF,h.nd,h.ge,h.geg,h.gem,h.ids,h.len⟩
theorem FoQ.keep {w0:Xk} {w w':Xk} {g mb:Nat} {a:Xi} {c:Nat} {l:List PlV} {F:Xh} (h:FoQ w0 w g mb a c l F) (hb:Below w.heap.size w w'):FoQ w0 w' g mb a c l F:=h.frm (Frm.ofBelow hb []) (by simp) (by simp) (fun _ _=>by simp) (fun q hq=>by cases hq)
theorem FoQ.box {w0:Xk} {w:Xk} {g mb:Nat} {a:Xi} {c:Nat} {l:List PlV} {F:Xh} (h:FoQ w0 w g mb a c l F) {q:Nat} {cs:Array Xl} {T:Xm} (k:Loc w q cs T) (hT:T≠146∧T≠3∧T≠5∧T≠132) (hT':T≠141):q∉g::mb::F:=fun hq=>by
 rcases List.mem_cons.1 hq with rfl | hq
 ·obtain⟨Aa,hl,_⟩:=h.set.loc
  unfold Loc at hl k
  rw [hl]at k
  injection k with k
  injection k with _ k
  exact hT' k.symm
 ·rcases List.mem_cons.1 hq with rfl | hq
  ·obtain⟨es,k',e'⟩:=h.map.isMap
   unfold Loc at k
   rw [e']at k
   cases k
  ·exact (PlsQ.typ h.row q hq).notL hT k
end Go.Proofs.YtgjolijncmkkhaaGreatDoor
namespace Go.Proofs.YtgjolijncmkkhaaGreatDoor
open Go.RowKit
set_option linter.unusedVariables false
set_option maxRecDepth 100000
def KdE (w0:Xk):Type:={x:PlV×Xj // RdPlC w0 x.2 x.1}
def KdE.mk {w0:Xk} (p:PlV) (C:Xj) (h:RdPlC w0 C p):KdE w0:=⟨(p,C),h⟩
def KdE.enc {w0:Xk} (x:KdE w0):Xj:=x.1.2
def KdE.pl {w0:Xk} (x:KdE w0):PlV:=x.1.1
theorem RdPlC.nine {w:Xk} {C:Xj} {p:PlV} (h:RdPlC w C p):C.length=9:=by
 obtain⟨k,n,t,a,rfl,_⟩:=h
 rfl
theorem RdPlC.ones {w:Xk} {C:Xj} {p:PlV} (h:RdPlC w C p):∀v∈C,v.oneCell'=true:=by
 obtain⟨k,n,t,a,rfl,h1,h2,h3,h4⟩:=h
 obtain⟨a1,c1,rfl,_,_⟩:=h1.shape
 obtain⟨a2,c2,rfl,_,_⟩:=h2.shape
 obtain⟨a3,c3,rfl,_,_⟩:=h3.shape
 obtain⟨a4,c4,rfl,_,_⟩:=Elems.shape h4
 intro v hv
 simp only [List.mem_cons,List.not_mem_nil,or_false]at hv
 rcases hv with rfl | rfl | rfl | rfl | rfl | rfl | rfl | rfl | rfl<;>rfl
theorem KdE.nine {w0:Xk} (x:KdE w0):x.enc.length=9:=x.2.nine
def cmpE {w0:Xk} (x y:KdE w0):Int:=cmpP x.pl y.pl
theorem ltE {w0:Xk} (x y:KdE w0):ltOf cmpE x y=zaJ x.pl y.pl:=zzo _ _
theorem swoE (w0:Xk):Go.Sort.SWO (ltOf (cmpE (w0:=w0))) where
 irrefl x:=by rw [ltE];exact zno _
 trans x y z h1 h2:=by rw [ltE]at *;exact zeF h1 h2
 ntrans x y z h1 h2:=by rw [ltE]at *;exact zoJ h1 h2
theorem znD {w0 w:Xk} [Inhabited (KdE w0)] {g m:Nat} (d:Array (KdE w0)) (os:Array Obj):Frm w (sortWorldK KdE.enc 9 w g 0 m d os) [g]:=by
 refine⟨rfl,rfl,rfl,size_sortWorldK_c _ _ _ _ _ _ _ _,fun i hi hn=> ?_⟩
 have Ba:g≠i:=fun e=>hn (by rw [e];simp)
 unfold sortWorldK Go.Sort.grow
 have Aa:i<(Go.Sort.putRowK (KdE.enc (w0:=w0)) 9 (Go.Sort.ahead w m) g 0 d).heap.size:=by rw [Go.Sort.size_putRowK];exact hi
 show ((Go.Sort.putRowK KdE.enc 9 (Go.Sort.ahead w m) g 0 d).heap++os)[i]? = _
 rw [Array.getElem?_append_left Aa]
 simp [Go.Sort.putRowK,Go.Sort.putRow,Go.Sort.mapBlock,Go.Sort.ahead,Array.getElem?_modify,Ba]
theorem zsA {w0:Xk} [Inhabited (KdE w0)] (d:Array (KdE w0)):(Go.Sort.flatK KdE.enc 9 d).toList=(d.toList.map KdE.enc).flatten:=by
 have hC:∀i,i<(d.toList.map KdE.enc).length->((d.toList.map (KdE.enc (w0:=w0))).getD i []).length=9:=fun i hi=>by
  have Aa:i<d.size:=by simpa using hi
  simp [Aa,KdE.nine]
 have hl:∀L:List (Xj),(∀i,i<L.length->(L.getD i []).length=9)->L.flatten.length=L.length*9:=by
  intro L
  induction L with
  | nil=>intro _;rfl
  | cons a L ih=>
   intro h
   have h0:=h 0 (by simp)
   simp only [List.getD_cons_zero]at h0
   rw [List.flatten_cons,List.length_append,h0,ih (fun i hi=>by have:=h (i+1) (by simpa using hi);simpa using this),List.length_cons]
   omega
 apply List.ext_getElem?
 intro t
 by_cases ht:t<d.size*9
 ·have h9:t / 9<d.size:=by omega
  have e:=zmi (d.toList.map KdE.enc) 9 hC (t / 9) (t % 9) (by simpa using h9) (by omega)
  rw [show t / 9*9+t % 9=t by omega]at e
  rw [e]
  have hg:=Go.Sort.get_flatK (KdE.enc (w0:=w0)) 9 d t ht
  have hs:t<(Go.Sort.flatK (KdE.enc (w0:=w0)) 9 d).size:=by rw [Go.Sort.size_flatK];exact ht
  rw [Array.getElem?_toList,Array.getElem?_eq_getElem hs]
  rw [getElem!_pos _ t hs]at hg
  rw [hg]
  have hn:=KdE.nine d[t / 9]
  have hm:t % 9<d[t / 9].enc.length:=by rw [hn];omega
  simp [h9,getElem!_pos,hm]
 ·rw [List.getElem?_eq_none (by simp;omega),List.getElem?_eq_none (by rw [hl _ hC];simp;omega)]
theorem zof {w0 w:Xk} [Inhabited (KdE w0)] {e:Xm} {g n cap m:Nat} {xs:Xj} (h:w.ownsRow 0 e 9 (.slice (some ⟨g,0,none⟩) n cap) n xs) (d:Array (KdE w0)) (hd:d.size=n) (os:Array Obj) :
  (sortWorldK KdE.enc 9 w g 0 m d os).ownsRow 0 e 9 (.slice (some ⟨g,0,none⟩) n cap) n (d.toList.map KdE.enc).flatten:=by
 rcases h.2 with ⟨e0,_⟩ | ⟨g',Ha,Ba,e0,hb,hg,hn,hm,hs,ht⟩
 ·cases e0
 ·injection e0 with e1 _ e3
  injection e1 with e1
  injection e1 with e1
  subst e1;subst e3
  have Ga:g<w.heap.size:=by
   rcases Nat.lt_or_ge g w.heap.size with h' | h'
   ·exact h'
   ·rw [Array.getElem?_eq_none h']at hg;cases hg
  refine⟨by rw [<-zsA];simp [hd],.inr ⟨g,cap,Go.Sort.putCells id 0 (Go.Sort.flatK KdE.enc 9 d) Ba,rfl,hb,?_,by omega,hm,by simpa [Go.Sort.putCells]using hs,?_⟩⟩
  ·unfold sortWorldK Go.Sort.grow
   have Fa:g<(Go.Sort.putRowK (KdE.enc (w0:=w0)) 9 (Go.Sort.ahead w m) g 0 d).heap.size:=by rw [Go.Sort.size_putRowK];exact Ga
   show ((Go.Sort.putRowK KdE.enc 9 (Go.Sort.ahead w m) g 0 d).heap++os)[g]? = _
   rw [Array.getElem?_append_left Fa]
   simp [Go.Sort.putRowK,Go.Sort.putRow,Go.Sort.mapBlock,Go.Sort.ahead,Array.getElem?_modify,hg,Go.Sort.onCells]
  ·rw [<-zsA]
   apply List.ext_getElem?
   intro j
   have Ca:n*9<=cap*9:=Nat.mul_le_mul_right 9 hn
   rw [List.getElem?_take,Array.getElem?_toList,Array.getElem?_toList]
   by_cases hj:j<n*9
   ·have Da:j<Ba.size:=by omega
    have Aa:j<(Go.Sort.flatK (KdE.enc (w0:=w0)) 9 d).size:=by rw [Go.Sort.size_flatK,hd];exact hj
    rw [if_pos hj]
    simp only [Go.Sort.putCells,Array.getElem?_mapIdx,Array.getElem?_eq_getElem Da,Option.map_some,Nat.zero_add,Nat.sub_zero,id]
    rw [if_pos ⟨Nat.zero_le _,Aa⟩,getElem!_pos _ j Aa,Array.getElem?_eq_getElem Aa]
   ·rw [if_neg hj,Array.getElem?_eq_none (by rw [Go.Sort.size_flatK,hd];omega)]
theorem PlsQ.row {w0 w:Xk} {g c:Nat} {l:List PlV} {F:Xh} (h:PlsQ w0 w (.slice (some ⟨g,0,none⟩) l.length c) l F):∃d:List (KdE w0),d.map KdE.pl=l∧w.ownsRow 0 146 9 (.slice (some ⟨g,0,none⟩) l.length c) l.length (d.map KdE.enc).flatten∧F=[g]:=by
 obtain⟨Cs,Fs,h1,h2,h3,h4,h5⟩:=h
 have hF:Fs.flatten=[]:=by
  rw [List.flatten_eq_nil_iff]
  intro G hG
  obtain⟨i,hi,rfl⟩:=List.getElem_of_mem hG
  have:=(h3 i (by omega)).2.2
  simpa [hi]using this
 have hC:∀i (hi:i<l.length),RdPlC w0 (Cs.getD i []) l[i]:=fun i hi=>(h3 i hi).2.1
 refine⟨List.ofFn (fun i:Fin l.length=>KdE.mk l[i.1] (Cs.getD i.1 []) (hC i.1 i.2)),?_,?_,by rw [h5,hF];rfl⟩
 ·apply List.ext_getElem
  ·rw [List.length_map,List.length_ofFn]
  ·intro i hi Aa
   rw [List.getElem_map,List.getElem_ofFn]
   rfl
 ·have e:(List.ofFn (fun i:Fin l.length=>KdE.mk l[i.1] (Cs.getD i.1 []) (hC i.1 i.2))).map KdE.enc=Cs:=by
   apply List.ext_getElem
   ·rw [List.length_map,List.length_ofFn,h1]
   ·intro i hi Aa
    rw [List.getElem_map,List.getElem_ofFn]
    show Cs.getD i []=_
    simp [Aa]
  rw [e]
  exact h4
theorem zwz {w0 w:Xk} {g c:Nat} {d:List (KdE w0)} (h:w.ownsRow 0 146 9 (.slice (some ⟨g,0,none⟩) d.length c) d.length (d.map KdE.enc).flatten):PlsQ w0 w (.slice (some ⟨g,0,none⟩) (d.map KdE.pl).length c) (d.map KdE.pl) [g]:=by
 refine⟨d.map KdE.enc,List.replicate d.length [],by simp,by simp,fun i hi=> ?_,by simpa using h,?_⟩
 ·have Aa:i<d.length:=by simpa using hi
  have hr:(List.replicate d.length ([]:Xh)).getD i []=[]:=by simp [Aa]
  rw [hr]
  have hc:(d.map KdE.enc).getD i []=d[i].enc:=by simp [Aa]
  rw [hc]
  refine⟨KdE.nine _,?_,rfl⟩
  simp only [List.getElem_map]
  exact d[i].2
 ·simp [FB,Value.ownBlock]
theorem PlsQ.holds {w0 w:Xk} [Inhabited (KdE w0)] {g c n:Nat} {d:List (KdE w0)} {e:Xm} (h:w.ownsRow 0 e 9 (.slice (some ⟨g,0,none⟩) n c) n (d.map KdE.enc).flatten) (hn:d.length=n):Go.Sort.HoldsK KdE.enc 9 w g 0 d.toArray:=by
 intro j hj
 rw [Go.Sort.size_flatK]at hj
 have Aa:j<n*9:=by simpa [hn]using hj
 refine⟨?_,?_⟩
 ·rw [Nat.zero_add,h.cellAt j Aa,show (d.map (KdE.enc (w0:=w0)))=(d.toArray.toList.map KdE.enc) from rfl,<-zsA]
  have hs:j<(Go.Sort.flatK (KdE.enc (w0:=w0)) 9 d.toArray).size:=by rw [Go.Sort.size_flatK];exact hj
  rw [Array.getElem?_toList,Array.getElem?_eq_getElem hs,getElem!_pos _ j hs]
  rfl
 ·rw [Nat.zero_add]
  exact h.frozenAt j
def Gw (w w':Xk):Prop:=∃n os,w'=Go.Sort.grow (w.drewN n) os
theorem Gw.refl (w:Xk):Gw w w:=⟨0,#[],by rw [Go.Sort.grow_empty];rfl⟩
theorem Gw.alloc {w w':Xk} (h:Gw w w') (o:Obj):Gw w (w'.alloc o):=by
 obtain⟨n,os,rfl⟩:=h
 exact⟨n,os ++ #[o],by rw [Go.Sort.alloc_eq_grow,Go.Sort.grow_grow]⟩
theorem Gw.drew {w w':Xk} (h:Gw w w'):Gw w w'.drew:=by
 obtain⟨n,os,rfl⟩:=h
 exact⟨n+1,os,rfl⟩
set_option maxHeartbeats 3200000 in
theorem zsT (w:Xk) (p q:PlV) (k1 n1 t1 a1 k2 n2 t2 a2:Xi) (ck1 cn1 ct1 ca1 ck2 cn2 ct2 ca2:Nat) (h1:Ints w (.slice k1 p.key.length ck1) p.key) (h2:Ints w (.slice k2 q.key.length ck2) q.key) :
  Calls Tryz.prog 157 #[.agg #[.int .i64 p.idN,.int .i64 p.idR,.int .i64 p.parN,.int .i64 p.parR,.slice k1 p.key.length ck1,.int .i64 p.kind,.slice n1 p.name.length cn1,.slice t1 p.text.length ct1,.slice a1 p.attrs.length ca1],.agg #[.int .i64 q.idN,.int .i64 q.idR,.int .i64 q.parN,.int .i64 q.parR,.slice k2 q.key.length ck2,.int .i64 q.kind,.slice n2 q.name.length cn2,.slice t2 q.text.length ct2,.slice a2 q.attrs.length ca2]] w fun e w'=>e=.returned (.int .i64 (cmpP p q))∧Gw w w':=by
 refine zaF ?_
 intro Q HQ
 have hA:Below w.heap.size w ((w.alloc (.cells #[.int .i64 p.idN,.int .i64 p.idR,.int .i64 p.parN,.int .i64 p.parR,.slice k1 p.key.length ck1,.int .i64 p.kind,.slice n1 p.name.length cn1,.slice t1 p.text.length ct1,.slice a1 p.attrs.length ca1] 146)).alloc (.cells #[.int .i64 q.idN,.int .i64 q.idR,.int .i64 q.parN,.int .i64 q.parR,.slice k2 q.key.length ck2,.int .i64 q.kind,.slice n2 q.name.length cn2,.slice t2 q.text.length ct2,.slice a2 q.attrs.length ca2] 146)):=zam ((Below.refl _ _).alloc (Nat.le_refl _) _) ((Below.refl _ _).alloc (Nat.le_refl _) _)
 have l0:=(Loc.made w #[.int .i64 p.idN,.int .i64 p.idR,.int .i64 p.parN,.int .i64 p.parR,.slice k1 p.key.length ck1,.int .i64 p.kind,.slice n1 p.name.length cn1,.slice t1 p.text.length ct1,.slice a1 p.attrs.length ca1] 146).alloc (.cells #[.int .i64 q.idN,.int .i64 q.idR,.int .i64 q.parN,.int .i64 q.parR,.slice k2 q.key.length ck2,.int .i64 q.kind,.slice n2 q.name.length cn2,.slice t2 q.text.length ct2,.slice a2 q.attrs.length ca2] 146)
 have l1:=Loc.made (w.alloc (.cells #[.int .i64 p.idN,.int .i64 p.idR,.int .i64 p.parN,.int .i64 p.parR,.slice k1 p.key.length ck1,.int .i64 p.kind,.slice n1 p.name.length cn1,.slice t1 p.text.length ct1,.slice a1 p.attrs.length ca1] 146)) #[.int .i64 q.idN,.int .i64 q.idR,.int .i64 q.parN,.int .i64 q.parR,.slice k2 q.key.length ck2,.int .i64 q.kind,.slice n2 q.name.length cn2,.slice t2 q.text.length ct2,.slice a2 q.attrs.length ca2] 146
 simp only [World.size_alloc]at l1
 have HK:=hide (fun W (hW:Below w.heap.size w W)=>zws W _ _ p.key q.key (h1.keep hW) (h2.keep hW))
 have hv:cmpP p q=if cmpK p.key q.key=0 then ordI p.idN p.idR q.idN q.idR else cmpK p.key q.key:=rfl
 rw [hv]at HQ
 have hG:Gw w ((w.alloc (.cells #[.int .i64 p.idN,.int .i64 p.idR,.int .i64 p.parN,.int .i64 p.parR,.slice k1 p.key.length ck1,.int .i64 p.kind,.slice n1 p.name.length cn1,.slice t1 p.text.length ct1,.slice a1 p.attrs.length ca1] 146)).alloc (.cells #[.int .i64 q.idN,.int .i64 q.idR,.int .i64 q.parN,.int .i64 q.parR,.slice k2 q.key.length ck2,.int .i64 q.kind,.slice n2 q.name.length cn2,.slice t2 q.text.length ct2,.slice a2 q.attrs.length ca2] 146)):=((Gw.refl w).alloc _).alloc _
 have HA:=hide (And.intro hA (And.intro hG (And.intro l0 l1)))
 clear h1 h2 hA l0 l1 hv hG
 generalize cmpK p.key q.key=z at *
 have HO:=hide (fun W b c c0 c1=>zuf W b c z (ordI p.idN p.idR q.idN q.idR) c0 c1)
 generalize (if z=0 then ordI p.idN p.idR q.idN q.idR else z)=r at *
 go_enter Tryz.func157,Tryz.ntmps157
 go_wp2_with fail
 obtain⟨hA,hG,l0,l1⟩:=zaa HA
 clear HA
 generalize ((w.alloc (.cells #[.int .i64 p.idN,.int .i64 p.idR,.int .i64 p.parN,.int .i64 p.parR,.slice k1 p.key.length ck1,.int .i64 p.kind,.slice n1 p.name.length cn1,.slice t1 p.text.length ct1,.slice a1 p.attrs.length ca1] 146)).alloc (.cells #[.int .i64 q.idN,.int .i64 q.idR,.int .i64 q.parN,.int .i64 q.parR,.slice k2 q.key.length ck2,.int .i64 q.kind,.slice n2 q.name.length cn2,.slice t2 q.text.length ct2,.slice a2 q.attrs.length ca2] 146))=w1 at *
 have x0:=l0.cell 0
 have x1:=l0.cell 1
 have x4:=l0.cell 4
 have y0:=l1.cell 0
 have y1:=l1.cell 1
 have y4:=l1.cell 4
 simp at x0 x1 x4 y0 y1 y4
 have HG:=hide (And.intro hA hG)
 have Aa:=l0.lt
 have Ba:=l1.lt
 clear hA hG l0 l1
 have hi:∀(W:Xk),Below w1.heap.size w1 W->Gw w W->Calls Tryz.prog 124 #[.agg #[.int .i64 p.idN,.int .i64 p.idR],.agg #[.int .i64 q.idN,.int .i64 q.idR]] W fun e w'=>e=.returned (.int .i64 (ordI p.idN p.idR q.idN q.idR))∧Below w1.heap.size w1 w'∧Gw w w':=fun W hW gW=>
  (zoR W p.idN p.idR q.idN q.idR).mono fun e w' ⟨h1,h2⟩=>⟨h1,by rw [h2];exact (hW.alloc hW.size _).alloc (by have:=hW.size;simp;omega) _,by rw [h2];exact (gW.alloc _).alloc _⟩
 have HI:=hide hi
 clear hi
 go_region_held3 (fun w'=>w'.cell? ⟨w.heap.size,0,none⟩=some (.int .i64 p.idN)∧w'.cell? ⟨w.heap.size,1,none⟩=some (.int .i64 p.idR)∧w'.cell? ⟨w.heap.size,4,none⟩=some (.slice k1 p.key.length ck1)∧w'.cell? ⟨w.heap.size+1,0,none⟩=some (.int .i64 q.idN)∧w'.cell? ⟨w.heap.size+1,1,none⟩=some (.int .i64 q.idR)∧w'.cell? ⟨w.heap.size+1,4,none⟩=some (.slice k2 q.key.length ck2))
  (first | exact⟨by assumption,by assumption,by assumption,by assumption,by assumption,by assumption⟩ | exact⟨by simp [*],by simp [*],by simp [*],by simp [*],by simp [*],by simp [*]⟩ | exact⟨(World.cell?_alloc_lt _ _ _ (by assumption)).trans (by assumption),(World.cell?_alloc_lt _ _ _ (by assumption)).trans (by assumption),(World.cell?_alloc_lt _ _ _ (by assumption)).trans (by assumption),(World.cell?_alloc_lt _ _ _ (by assumption)).trans (by assumption),(World.cell?_alloc_lt _ _ _ (by assumption)).trans (by assumption),(World.cell?_alloc_lt _ _ _ (by assumption)).trans (by assumption)⟩)
  (first
   | (go_at_call 159;refine (zaa HK _ ((zaa HG).1.drew)).mono ?_;rintro e w2 ⟨rfl,rfl⟩)
   | (go_at_call 124;refine (zaa HI _ ((Below.refl _ _).drew) ((zaa HG).2.drew)).mono ?_;rintro e w3 ⟨rfl,hE,gE⟩;have Ca:=Nat.lt_of_lt_of_le Aa hE.size;have Da:=Nat.lt_of_lt_of_le Ba hE.size;have z0:=(hE.cell Aa).trans x0;have z1:=(hE.cell Aa).trans x1;have z4:=(hE.cell Aa).trans x4;have u0:=(hE.cell Ba).trans y0;have u1:=(hE.cell Ba).trans y1;have u4:=(hE.cell Ba).trans y4)
   | (go_at_call 158;refine (zaa HO _ _ _ (World.cell?_alloc_new _ _ _ _) (World.cell?_alloc_new _ _ _ _)).mono ?_;rintro e w4 ⟨rfl,rfl⟩))
 go_wp2_with fail
 exact zaa HQ _ _ ⟨rfl,gE.alloc _⟩
def Tryz.sortPl_ren : Go.Shelf.Ren := ⟨fun | 6 => 156 | 15 => 185 | 14 => 184 | 28 => 212 | 29 => 213 | 20 => 204 | 21 => 205 | 22 => 206 | 23 => 207 | 24 => 208 | 25 => 209 | 26 => 210 | 27 => 211 | 46 => 243 | 47 => 244 | 48 => 245 | 49 => 246 | 50 => 247 | 57 => 273 | n => n, fun | 22 => 105 | 24 => 146 | 25 => 209 | 3 => 3 | 39 => 181 | 0 => 0 | 53 => 71 | 55 => 264 | 4 => 4 | 46 => 257 | 45 => 256 | 50 => 188 | 5 => 5 | 9 => 9 | 66 => 307 | 70 => 101 | 76 => 347 | 77 => 338 | n => n, fun | n => n⟩
theorem Tryz.sortPl : Go.Proofs.SlLaysF0.n6 Tryz.prog Tryz.sortPl_ren := {
  mixed := by kernel_rfl
  f6 := ⟨Tryz.f156.name, by decide, Tryz.func156.trans (congrArg some (by kernel_rfl))⟩
  f14 := ⟨Tryz.f184.name, by decide, Tryz.func184.trans (congrArg some (by kernel_rfl))⟩
  f15 := Tryz.func185.trans (congrArg some (by kernel_rfl))
  f20 := ⟨Tryz.f204.name, by decide, Tryz.func204.trans (congrArg some (by kernel_rfl))⟩
  f21 := ⟨Tryz.f205.name, by decide, Tryz.func205.trans (congrArg some (by kernel_rfl))⟩
  f22 := ⟨Tryz.f206.name, by decide, Tryz.func206.trans (congrArg some (by kernel_rfl))⟩
  f23 := ⟨Tryz.f207.name, by decide, Tryz.func207.trans (congrArg some (by kernel_rfl))⟩
  f24 := ⟨Tryz.f208.name, by decide, Tryz.func208.trans (congrArg some (by kernel_rfl))⟩
  f25 := ⟨Tryz.f209.name, by decide, Tryz.func209.trans (congrArg some (by kernel_rfl))⟩
  f26 := ⟨Tryz.f210.name, by decide, Tryz.func210.trans (congrArg some (by kernel_rfl))⟩
  f27 := ⟨Tryz.f211.name, by decide, Tryz.func211.trans (congrArg some (by kernel_rfl))⟩
  f28 := Tryz.func212.trans (congrArg some (by kernel_rfl))
  f29 := Tryz.func213.trans (congrArg some (by kernel_rfl))
  f46 := ⟨Tryz.f243.name, by decide, Tryz.func243.trans (congrArg some (by kernel_rfl))⟩
  f47 := Tryz.func244.trans (congrArg some (by kernel_rfl))
  f48 := Tryz.func245.trans (congrArg some (by kernel_rfl))
  f49 := ⟨Tryz.f246.name, by decide, Tryz.func246.trans (congrArg some (by kernel_rfl))⟩
  f50 := ⟨Tryz.f247.name, by decide, Tryz.func247.trans (congrArg some (by kernel_rfl))⟩
  f57 := ⟨Tryz.f273.name, by decide, Tryz.func273.trans (congrArg some (by kernel_rfl))⟩
  t0 := Tryz.underlying0
  a0 := Tryz.isAgg0
  z0 := Tryz.sizeOf0
  v0 := Tryz.zeroValue0
  t3 := Tryz.underlying3
  a3 := Tryz.isAgg3
  z3 := Tryz.sizeOf3
  v3 := Tryz.zeroValue3
  t4 := Tryz.underlying4
  a4 := Tryz.isAgg4
  z4 := Tryz.sizeOf4
  v4 := Tryz.zeroValue4
  t5 := Tryz.underlying5
  a5 := Tryz.isAgg5
  z5 := Tryz.sizeOf5
  v5 := Tryz.zeroValue5
  t9 := Tryz.underlying9
  a9 := Tryz.isAgg9
  z9 := Tryz.sizeOf9
  v9 := Tryz.zeroValue9
  t22 := Tryz.underlying105
  a22 := Tryz.isAgg105
  z22 := Tryz.sizeOf105
  v22 := Tryz.zeroValue105
  t25 := Tryz.underlying209
  a25 := Tryz.isAgg209
  z25 := Tryz.sizeOf209
  v25 := Tryz.zeroValue209
  t39 := Tryz.underlying181
  a39 := Tryz.isAgg181
  z39 := Tryz.sizeOf181
  v39 := Tryz.zeroValue181
  t45 := Tryz.underlying256
  a45 := Tryz.isAgg256
  z45 := Tryz.sizeOf256
  v45 := Tryz.zeroValue256
  t46 := Tryz.underlying257
  a46 := Tryz.isAgg257
  z46 := Tryz.sizeOf257
  v46 := Tryz.zeroValue257
  t50 := Tryz.underlying188
  a50 := Tryz.isAgg188
  z50 := Tryz.sizeOf188
  v50 := Tryz.zeroValue188
  t53 := Tryz.underlying71
  a53 := Tryz.isAgg71
  z53 := Tryz.sizeOf71
  v53 := Tryz.zeroValue71
  t55 := Tryz.underlying264
  a55 := Tryz.isAgg264
  z55 := Tryz.sizeOf264
  v55 := Tryz.zeroValue264
  t66 := Tryz.underlying307
  a66 := Tryz.isAgg307
  z66 := Tryz.sizeOf307
  v66 := Tryz.zeroValue307
  t70 := Tryz.underlying101
  a70 := Tryz.isAgg101
  z70 := Tryz.sizeOf101
  v70 := Tryz.zeroValue101
  t76 := Tryz.underlying347
  a76 := Tryz.isAgg347
  z76 := Tryz.sizeOf347
  v76 := Tryz.zeroValue347
  t77 := Tryz.underlying338
  a77 := Tryz.isAgg338
  z77 := Tryz.sizeOf338
  v77 := Tryz.zeroValue338 }
theorem zuQ {w0 w:Xk} [Inhabited (KdE w0)] (hB0:Below w0.heap.size w0 w) (g n:Nat) (hg:w0.heap.size<=g):CmpLays Tryz.prog 157 #[] (KdE.enc (w0:=w0)) 9 cmpE g 0 n w:=by
 intro m os dk Fa x y
 have hW:Below w0.heap.size w0 (sortWorldK KdE.enc 9 w g 0 m dk os):=hB0.trans ((znD dk os).below hB0.size (fun i hi=>by simp at hi;omega))
 obtain⟨⟨p,C⟩,hp⟩:=x
 obtain⟨⟨q,D⟩,hq⟩:=y
 obtain⟨k,n,t,a,e1,h1,h2,h3,h4⟩:=hp
 obtain⟨k',n',t',a',e2,Aa,Ca,Ba,Da⟩:=hq
 dsimp only at e1 e2 h1 h2 h3 h4 Aa Ca Ba Da
 subst e1
 subst e2
 obtain⟨a1,c1,rfl,_,_⟩:=h1.shape
 obtain⟨a2,c2,rfl,_,_⟩:=h2.shape
 obtain⟨a3,c3,rfl,_,_⟩:=h3.shape
 obtain⟨a4,c4,rfl,_,_⟩:=Elems.shape h4
 obtain⟨b1,f1,rfl,_,_⟩:=Aa.shape
 obtain⟨b2,f2,rfl,_,_⟩:=Ca.shape
 obtain⟨b3,f3,rfl,_,_⟩:=Ba.shape
 obtain⟨b4,f4,rfl,_,_⟩:=Elems.shape Da
 exact zsT _ p q a1 a2 a3 a4 b1 b2 b3 b4 c1 c2 c3 c4 f1 f2 f3 f4 (h1.keep hW) (Aa.keep hW)
set_option maxHeartbeats 1600000 in
theorem ztt (w0 w:Xk) (g c:Nat) (ks:List PlV) (F:Xh) (h:PlsQ w0 w (.slice (some ⟨g,0,none⟩) ks.length c) ks F) (hn:ks≠[]) (hl:ks.length<=100000) (hB0:Below w0.heap.size w0 w) (hg:w0.heap.size<=g) :
  Calls Tryz.prog 156 #[.slice (some ⟨g,0,none⟩) ks.length c,.func (.func 157) #[] #[]] w fun e w'=>e=.returned (.tuple #[])∧∃ks':List PlV,ks'.Perm ks∧(∀i j (hi:i<ks'.length) (hj:j<ks'.length),i<j->zaJ ks'[j] ks'[i]=false)∧PlsQ w0 w' (.slice (some ⟨g,0,none⟩) ks'.length c) ks' [g]∧Frm w w' [g]:=by
 have Ha:=OwElems.len h
 obtain⟨d,hd,Ba,rfl⟩:=h.row
 have Ca:d.length=ks.length:=by rw [<-hd];simp
 have Ja:d≠[]:=fun e=>hn (by rw [<-hd,e];rfl)
 haveI:Inhabited (KdE w0):=⟨d.head Ja⟩
 have hH:=PlsQ.holds Ba Ca
 have Ga:g<w.heap.size:=(Ba.lt g rfl).2
 have eg:∀args w,(callFunc 157 args).run Tryz.prog w=.ok (.enter 157 args) w:=enters_of Tryz.func157 (by kernel_rfl) rfl
 have Aa:=AnyQ.slices_SortFunc Tryz.sortPl 9 Tryz.isAgg146 Tryz.sizeOf146 KdE.enc KdE.nine (fun x=>x.2.ones) cmpE (swoE w0) 157 #[] g 0 c d.toArray w eg (zuQ hB0 g _ hg) hH Ga (by simp;omega)
 change Calls Tryz.prog 156 _ _ _ at Aa
 rw [show d.toArray.size=ks.length by simpa using Ca]at Aa
 refine Aa.mono ?_
 rintro e w' ⟨rfl,d',n,os,hp,hs,rfl⟩
 have Fa:d'.size=ks.length:=by rw [hp.1];simpa using Ca
 have Da:d'.toList.Perm d:=by
  have:=hp.2.2
  rw [<-Fa]at this
  have e1:d'.extract 0 d'.size=d':=by simp
  have e2:d.toArray.extract 0 d'.size=d.toArray:=by rw [show d'.size=d.toArray.size from hp.1];simp
  rw [e1,e2]at this
  simpa using this
 refine⟨rfl,d'.toList.map KdE.pl,?_,?_,?_,znD d' os⟩
 ·rw [<-hd]
  exact Da.map _
 ·intro i j hi hj La
  have Ka:i<d'.size:=by simpa using hi
  have Ia:j<d'.size:=by simpa using hj
  have:=hs i j (Nat.zero_le _) La (by omega)
  rw [ltE,getElem!_pos d' j Ia,getElem!_pos d' i Ka]at this
  simpa using this
 ·have:=zwz (w:=sortWorldK KdE.enc 9 w g 0 n d' os) (g:=g) (c:=c) (d:=d'.toList) (by
   rw [show d'.toList.length=ks.length by simpa using Fa]
   exact zof Ba d' Fa os)
  exact this
theorem zjO (w:Xk) (a:Xi) (c:Nat) :
  Calls Tryz.prog 156 #[.slice a 0 c,.func (.func 157) #[] #[]] w fun e w'=>e=.returned (.tuple #[])∧w'=w:=
 AnyF.slices_SortFunc_none Tryz.sortPl a c _ w
end Go.Proofs.YtgjolijncmkkhaaGreatDoor
namespace Go.Proofs.YtgjolijncmkkhaaGreatDoor
open Go.RowKit Go.Maps
set_option linter.unusedVariables false
set_option maxRecDepth 100000
theorem FoQ.at {w0:Xk} {w:Xk} {g mb:Nat} {a:Xi} {c:Nat} {l:List PlV} {F:Xh} (h:FoQ w0 w g mb a c l F) (hl:0<l.length):∃gr,a=some ⟨gr,0,none⟩∧gr∈F:=by
 obtain⟨Cs,Fs,e1,e2,e3,e4,rfl⟩:=h.row
 obtain⟨gr,Aa,e,_,_⟩:=e4.form hl
 injection e with e _ _
 subst e
 exact⟨gr,rfl,List.mem_append_left _ (by simp [FB,Value.ownBlock])⟩
set_option maxHeartbeats 1600000 in
theorem zcq {w0:Xk} {w:Xk} {g mb:Nat} {a:Xi} {c:Nat} {l:List PlV} {F:Xh} (h:FoQ w0 w g mb a c l F) (i:IdV) (hi:okI i) :
  Calls Tryz.prog 83 #[.pointer (some ⟨g,0,none⟩),zbg i] w fun e w'=>(posP l i=none->e=.returned (.pointer none))∧(∀k,posP l i=some k->∃gr,a=some ⟨gr,0,none⟩∧e=.returned (.pointer (some ⟨gr,k*9,none⟩)))∧Below w.heap.size w w':=by
 have hA:Below w.heap.size w (w.alloc (.cells #[.int .i64 i.1,.int .i64 i.2] 50)):=(Below.refl _ _).alloc (Nat.le_refl _) _
 have lb:=Loc.made w #[.int .i64 i.1,.int .i64 i.2] 50
 have hd:Below (w.alloc (.cells #[.int .i64 i.1,.int .i64 i.2] 50)).heap.size (w.alloc (.cells #[.int .i64 i.1,.int .i64 i.2] 50)) (w.alloc (.cells #[.int .i64 i.1,.int .i64 i.2] 50)).drew:=(Below.refl _ _).drew
 have h1:=h.keep hA
 have h2:=h1.keep hd
 obtain⟨cs,lg,Ga,Ba⟩:=h2.set.loc
 obtain⟨ci,Ja,Ca⟩:=h2.map.look hi
 have g0:=lg.cell 0
 have g1:=lg.cell 1
 rw [Ga]at g0
 rw [Ba]at g1
 have Fa:=zam hA hd
 have Da:=h.at
 have Ka:=h.len
 have hP:∀k,posP l i=some k->k<l.length:=fun k hk=>(posP_some.1 hk).1
 unfold zbg at *
 have LL:=hide (And.intro Fa (And.intro Da (And.intro Ca hP)))
 have Aa:=lb.all hd
 have b0:=Aa.cell 0
 have b1:=Aa.cell 1
 clear h h1 h2 hA hd lb Aa lg Ga Ba Fa Da Ca hP hi
 refine zaF ?_
 intro Q HQ
 generalize hp:posP l i=po at *
 go_enter Tryz.func83,Tryz.ntmps83
 go_wp2_with fail
 go_region
 cases po with
 | none=>
  go_wp2_with fail
  exact zaa HQ _ _ ⟨fun _=>rfl,fun k hk=>(by cases hk),(zaa LL).1⟩
 | some k=>
  have La:=(zaa LL).2.2.2 k rfl
  have Ha:=(zaa LL).2.2.1 k rfl
  obtain⟨gr,rfl,_⟩:=(zaa LL).2.1 (by omega)
  subst Ha
  have Ma:(0:Int)<=(k:Int):=by omega
  have Ia:(k:Int)<(l.length:Int):=by omega
  go_wp2_with fail
  exact zaa HQ _ _ ⟨fun h=>(by cases h),fun k' hk=>(by cases hk;exact⟨gr,rfl,rfl⟩),(zaa LL).1⟩
theorem FoQ0.own {w0 w:Xk} {g mb gr:Nat} {c:Nat} {l:List PlV} {F:Xh} (h:FoQ0 w0 w g mb (some ⟨gr,0,none⟩) c l F) {k:Nat} (hk:k<l.length) :
  ∃(k1:Xi) (ck:Nat) (n1:Xi) (cn:Nat) (t1:Xi) (ct:Nat) (a1:Xi) (ca:Nat) (Fa:Xh),w.cell? ⟨gr,k*9,none⟩=some (.int .i64 l[k].idN)∧w.cell? ⟨gr,k*9+1,none⟩=some (.int .i64 l[k].idR)∧w.cell? ⟨gr,k*9+2,none⟩=some (.int .i64 l[k].parN)∧w.cell? ⟨gr,k*9+3,none⟩=some (.int .i64 l[k].parR)∧w.cell? ⟨gr,k*9+4,none⟩=some (.slice k1 l[k].key.length ck)∧w.cell? ⟨gr,k*9+5,none⟩=some (.int .i64 l[k].kind)∧w.cell? ⟨gr,k*9+6,none⟩=some (.slice n1 l[k].name.length cn)∧w.cell? ⟨gr,k*9+7,none⟩=some (.slice t1 l[k].text.length ct)∧w.cell? ⟨gr,k*9+8,none⟩=some (.slice a1 l[k].attrs.length ca)∧
   Ints w0 (.slice k1 l[k].key.length ck) l[k].key∧Byt w0 (.slice n1 l[k].name.length cn) l[k].name∧Byt w0 (.slice t1 l[k].text.length ct) l[k].text∧RdAttrs w0 (.slice a1 l[k].attrs.length ca) l[k].attrs:=by
 obtain⟨Cs,Fs,e1,e2,e3,e4,rfl⟩:=h.row
 obtain⟨_,⟨K,N,T,A,eC,o1,o2,o3,o4⟩,eF⟩:=e3 k hk
 obtain⟨k1,ck,rfl,_⟩:=o1.shape
 obtain⟨n1,cn,rfl,_⟩:=o2.shape
 obtain⟨t1,ct,rfl,_⟩:=o3.shape
 obtain⟨a1,ca,rfl,_⟩:=Elems.shape o4
 have Aa:=fun r (hr:r<9)=>zcD e4 (fun i hi=>(e3 i (by omega)).1) e1 k r hk hr
 rw [eC]at Aa
 have d:=fun r hr=>Aa r hr
 have d0:=d 0 (by omega)
 have d1:=d 1 (by omega)
 have d2:=d 2 (by omega)
 have d3:=d 3 (by omega)
 have d4:=d 4 (by omega)
 have d5:=d 5 (by omega)
 have d6:=d 6 (by omega)
 have d7:=d 7 (by omega)
 have d8:=d 8 (by omega)
 exact⟨k1,ck,n1,cn,t1,ct,a1,ca,[],d0,d1,d2,d3,d4,d5,d6,d7,d8,o1,o2,o3,o4⟩
theorem FoQ.own {w0 w:Xk} {g mb gr:Nat} {c:Nat} {l:List PlV} {F:Xh} (h:FoQ w0 w g mb (some ⟨gr,0,none⟩) c l F) {k:Nat} (hk:k<l.length) :
  ∃(k1:Xi) (ck:Nat) (n1:Xi) (cn:Nat) (t1:Xi) (ct:Nat) (a1:Xi) (ca:Nat) (Fa:Xh),w.cell? ⟨gr,k*9,none⟩=some (.int .i64 l[k].idN)∧w.cell? ⟨gr,k*9+1,none⟩=some (.int .i64 l[k].idR)∧w.cell? ⟨gr,k*9+2,none⟩=some (.int .i64 l[k].parN)∧w.cell? ⟨gr,k*9+3,none⟩=some (.int .i64 l[k].parR)∧w.cell? ⟨gr,k*9+4,none⟩=some (.slice k1 l[k].key.length ck)∧w.cell? ⟨gr,k*9+5,none⟩=some (.int .i64 l[k].kind)∧w.cell? ⟨gr,k*9+6,none⟩=some (.slice n1 l[k].name.length cn)∧w.cell? ⟨gr,k*9+7,none⟩=some (.slice t1 l[k].text.length ct)∧w.cell? ⟨gr,k*9+8,none⟩=some (.slice a1 l[k].attrs.length ca)∧
   Ints w0 (.slice k1 l[k].key.length ck) l[k].key∧Byt w0 (.slice n1 l[k].name.length cn) l[k].name∧Byt w0 (.slice t1 l[k].text.length ct) l[k].text∧RdAttrs w0 (.slice a1 l[k].attrs.length ca) l[k].attrs:=h.q0.own hk
end Go.Proofs.YtgjolijncmkkhaaGreatDoor
namespace Go.Proofs.YtgjolijncmkkhaaGreatDoor
open Go.RowKit
set_option linter.unusedVariables false
set_option maxRecDepth 100000
theorem zfP {cs:Array Xl} {w:Xk} {g:Nat} {T:Xm} (h:Loc w g cs T) (v0 v1 v2 v3 v4 v5 v6 v7 v8:Xl) (e:cs = #[v0,v1,v2,v3,v4,v5,v6,v7,v8]):w.cell? ⟨g,0,none⟩=some v0∧w.cell? ⟨g,1,none⟩=some v1∧w.cell? ⟨g,2,none⟩=some v2∧w.cell? ⟨g,3,none⟩=some v3∧w.cell? ⟨g,4,none⟩=some v4∧w.cell? ⟨g,5,none⟩=some v5∧w.cell? ⟨g,6,none⟩=some v6∧w.cell? ⟨g,7,none⟩=some v7∧w.cell? ⟨g,8,none⟩=some v8:=by
 subst e
 exact⟨h.cell 0,h.cell 1,h.cell 2,h.cell 3,h.cell 4,h.cell 5,h.cell 6,h.cell 7,h.cell 8⟩
set_option maxHeartbeats 6400000 in
theorem zzn {w0 w:Xk} {g mb gr:Nat} {c:Nat} {l:List PlV} {F:Xh} (h:FoQ0 w0 w g mb (some ⟨gr,0,none⟩) c l F) (hB0:Below w0.heap.size w0 w) (h2:2<=l.length) (hu:(l.map PlV.id).Nodup) (id:IdV) :
  Calls Tryz.prog 121 #[.pointer (some ⟨g,0,none⟩),.agg #[.int .i64 id.1,.int .i64 id.2]] w fun e w'=>∃av cv ks F',e=.returned (.slice av (List.length ks) cv)∧PlsQ w0 w' (.slice av (List.length ks) cv) ks F'∧Rng F' w.heap.size w'.heap.size∧ks.map some=(zay l id).map (fun k=>l[k]?)∧Below w.heap.size w w':=by
 refine zaF ?_
 intro Q HQ
 obtain⟨iN,iR⟩:=id
 obtain⟨i0,pa,ra,sa,Cb⟩:=info_parts zmG
 have hA:=(Below.refl w.heap.size w).alloc (Nat.le_refl _) (.cells #[.int .i64 iN,.int .i64 iR] 50)
 have lb:=Loc.made w #[.int .i64 iN,.int .i64 iR] 50
 have h1:=h.keep hA
 obtain⟨cs,lg,ja,_⟩:=h1.set.loc
 have g0:(w.alloc (.cells #[.int .i64 iN,.int .i64 iR] 50)).cell? ⟨g,0,none⟩=some (.slice (some ⟨gr,0,none⟩) l.length c):=(lg.cell 0).trans ja
 have Hb:l.length<=c:=by
  obtain⟨_,_,_,_,_,Ha,_⟩:=h.row
  rcases Ha.2 with ⟨e,_⟩ | ⟨g',Oa,za,e,_,_,hn,_⟩
  ·cases e
  ·injection e with _ _ e3;omega
 have hl:=h.len
 have LL:=hide (And.intro hA (And.intro lb (And.intro h1 (And.intro hB0 hu))))
 clear hA lb h1 lg ja h hu hB0
 have z2:(2:Int)<=(l.length:Int):=by omega
 have zc:(l.length:Int)<=(c:Int):=by omega
 have Db:=hide (fun (hm:l.length<=2) (hu:(l.map PlV.id).Nodup)=>(show ([]:List PlV).map some=(zay l (iN,iR)).map (fun k=>l[k]?) from zkf hu (iN,iR) (by rw [zcZ l _ hm]) (fun i j hi=>by cases hi)))
 by_cases hc2:c=2
 ·have Jb:l.length-2=0:=by omega
  have ua:l.length<=2:=by omega
  subst hc2
  go_enter Tryz.func121,Tryz.ntmps121
  go_wp2_with fail
  obtain⟨hA,lb,h1,hB0,hu⟩:=zaa LL
  clear g0 h1
  refine wp_loop_rounds 1 ?_
  rw [rounds_succ]
  go_wp2_with fail
  refine (zjO _ _ _).mono ?_
  rintro e w2 ⟨rfl,rfl⟩
  have HE:=hide (zaa HQ _ _ ⟨none,0,[],[],rfl,⟨[],[],rfl,rfl,fun i hi=>(by cases hi),World.ownsRow_nil _ _ _ _,rfl⟩,fun q hq=>(by cases hq),zaa Db ua hu,hA⟩)
  clear lb hu hB0 hA
  go_wp2_with fail
  exact zaa HE
 go_enter Tryz.func121,Tryz.ntmps121
 go_wp2_with fail
 obtain⟨hA,lb,h1,hB0,hu⟩:=zaa LL
 clear LL g0
 generalize (w.alloc (.cells #[.int .i64 iN,.int .i64 iR] 50))=w1 at *
 have Eb:w.heap.size<w1.heap.size:=lb.lt
 have Ba:=hB0.trans (hA.mono hB0.size)
 obtain⟨m,hm⟩:∃m,l.length=m+2:=⟨l.length-2,by omega⟩
 have ia:l.length-2=m:=by omega
 rw [ia]
 have xa:=hide hm
 clear hm ia
 go_loopw [5,14] (fun v i wr=>∃(j:Nat) (av:Xi) (cv:Nat) (Fk:Xh),j<=m∧i=.int .i64 (j:Int)∧v=.slice av (zaA l (iN,iR) (j+2)).length cv∧PlsQ w0 wr (.slice av (zaA l (iN,iR) (j+2)).length cv) (zaA l (iN,iR) (j+2)) Fk∧Fk.Nodup∧Rng Fk w1.heap.size wr.heap.size∧Below w1.heap.size w1 wr) (fun _ i _=>m-(intOf i).toNat)
 case atStart=>
  refine⟨0,none,0,[],Nat.zero_le _,rfl,by rw [zcZ l _ (Nat.le_refl _)];rfl,?_,List.nodup_nil,fun q hq=>(by cases hq),Below.refl _ _⟩
  rw [zcZ l _ (Nat.le_refl _)]
  exact⟨[],[],rfl,rfl,fun i hi=>(by cases hi),World.ownsRow_nil _ _ _ _,rfl⟩
 case round=>
  obtain⟨j,av,cv,Fk,hj,rfl,rfl,hK,Fa,Aa,hB⟩:=hrel
  have La:=lb.all hB
  have b0:wr.cell? ⟨w.heap.size,0,none⟩=some (.int .i64 iN):=La.cell 0
  have b1:wr.cell? ⟨w.heap.size,1,none⟩=some (.int .i64 iR):=La.cell 1
  have hm:=zaa xa
  have Na:(zaA l (iN,iR) (j+2)).length<=100000:=by
   have:(zaA l (iN,iR) (j+2)).length<=((l.take (j+2)).drop 2).length:=List.length_filter_le _ _
   rw [List.length_drop,List.length_take]at this
   omega
  by_cases hlt:j<m
  ·have Ta:j+2<l.length:=by omega
   obtain⟨k1,ck,n1,cn,t1,ct,a1,ca,-,e0,e1,e2,e3,e4,e5,e6,e7,e8,r1,r2,r3,r4⟩:=(h1.keep hB).own Ta
   rw [show (j+2)*9=18+j*9 by omega]at e0 e1 e2 e3 e4 e5 e6 e7 e8
   have ea:=zkb l (iN,iR) (show 2<=j+2 by omega) Ta
   generalize l[j+2]=p at *
   clear hm
   have va:(j:Int)<(m:Int):=by omega
   have Lb:(0:Int)<=(j:Int):=by omega
   have lx:=Loc.made wr #[.int .i64 p.idN,.int .i64 p.idR,.int .i64 p.parN,.int .i64 p.parR,.slice k1 p.key.length ck,.int .i64 p.kind,.slice n1 p.name.length cn,.slice t1 p.text.length ct,.slice a1 p.attrs.length ca] 146
   have hx:=(Below.refl wr.heap.size wr).alloc (Nat.le_refl _) (.cells #[.int .i64 p.idN,.int .i64 p.idR,.int .i64 p.parN,.int .i64 p.parR,.slice k1 p.key.length ck,.int .i64 p.kind,.slice n1 p.name.length cn,.slice t1 p.text.length ct,.slice a1 p.attrs.length ca] 146)
   obtain⟨x0,x1,x2,x3,x4,x5,x6,x7,x8⟩:=zfP lx _ _ _ _ _ _ _ _ _ rfl
   have Wa:w.heap.size<wr.heap.size:=Nat.lt_of_lt_of_le Eb hB.size
   have c0:=(hx.cell (p:=⟨w.heap.size,0,none⟩) Wa).trans b0
   have c1:=(hx.cell (p:=⟨w.heap.size,1,none⟩) Wa).trans b1
   clear b0 b1 La
   have HR:=hide (show PlQ w0 wr [.int .i64 p.idN,.int .i64 p.idR,.int .i64 p.parN,.int .i64 p.parR,.slice k1 p.key.length ck,.int .i64 p.kind,.slice n1 p.name.length cn,.slice t1 p.text.length ct,.slice a1 p.attrs.length ca] p [] from ⟨⟨_,_,_,_,rfl,r1,r2,r3,r4⟩,rfl⟩)
   have HX:=hide hx
   have HK:=hide (And.intro hK (And.intro Fa (And.intro Aa hB)))
   clear r1 r2 r3 r4 hx lx hK Fa Aa hB
   have Ia:=hide ea
   have ma:=hide Na
   clear ea Na
   by_cases q1:p.parN=iN
   ·by_cases q2:p.parR=iR
    ·have d1:(p.parN == iN)=true:=by simpa using q1
     have d2:(p.parR == iR)=true:=by simpa using q2
     have Da:zaA l (iN,iR) (j+1+2)=zaA l (iN,iR) (j+2)++[p]:=by
      rw [show j+1+2=j+2+1 by omega,zaa Ia,if_pos (show p.par=(iN,iR) by show (p.parN,p.parR)=_;rw [q1,q2])]
     clear q1 q2 Ia
     have Ca:=hide Da
     clear Da
     obtain⟨hK,Fa,Aa,hB⟩:=zaa HK
     have hx:=zaa HX
     have Za:=(Below.refl (wr.alloc (.cells #[.int .i64 p.idN,.int .i64 p.idR,.int .i64 p.parN,.int .i64 p.parR,.slice k1 p.key.length ck,.int .i64 p.kind,.slice n1 p.name.length cn,.slice t1 p.text.length ct,.slice a1 p.attrs.length ca] 146)).heap.size (wr.alloc (.cells #[.int .i64 p.idN,.int .i64 p.idR,.int .i64 p.parN,.int .i64 p.parR,.slice k1 p.key.length ck,.int .i64 p.kind,.slice n1 p.name.length cn,.slice t1 p.text.length ct,.slice a1 p.attrs.length ca] 146))).alloc (Nat.le_refl _) (.cells #[.int .i64 p.idN,.int .i64 p.idR,.int .i64 p.parN,.int .i64 p.parR,.slice k1 p.key.length ck,.int .i64 p.kind,.slice n1 p.name.length cn,.slice t1 p.text.length ct,.slice a1 p.attrs.length ca] 146)
     have lE:=Loc.made (wr.alloc (.cells #[.int .i64 p.idN,.int .i64 p.idR,.int .i64 p.parN,.int .i64 p.parR,.slice k1 p.key.length ck,.int .i64 p.kind,.slice n1 p.name.length cn,.slice t1 p.text.length ct,.slice a1 p.attrs.length ca] 146)) #[.int .i64 p.idN,.int .i64 p.idR,.int .i64 p.parN,.int .i64 p.parR,.slice k1 p.key.length ck,.int .i64 p.kind,.slice n1 p.name.length cn,.slice t1 p.text.length ct,.slice a1 p.attrs.length ca] 146
     have Ma:=zam hx Za
     have Ua:=PlsQ.lt hK
     have ta:=Ma.size
     have HP:=hide (show PlsQ w0 ((wr.alloc (.cells #[.int .i64 p.idN,.int .i64 p.idR,.int .i64 p.parN,.int .i64 p.parR,.slice k1 p.key.length ck,.int .i64 p.kind,.slice n1 p.name.length cn,.slice t1 p.text.length ct,.slice a1 p.attrs.length ca] 146)).alloc (.cells #[.int .i64 p.idN,.int .i64 p.idR,.int .i64 p.parN,.int .i64 p.parR,.slice k1 p.key.length ck,.int .i64 p.kind,.slice n1 p.name.length cn,.slice t1 p.text.length ct,.slice a1 p.attrs.length ca] 146)) (.slice av (zaA l (iN,iR) (j+2)).length cv) (zaA l (iN,iR) (j+2)) Fk∧(∀i u,([.int .i64 p.idN,.int .i64 p.idR,.int .i64 p.parN,.int .i64 p.parR,.slice k1 p.key.length ck,.int .i64 p.kind,.slice n1 p.name.length cn,.slice t1 p.text.length ct,.slice a1 p.attrs.length ca]:Xj)[i]? = some u->((wr.alloc (.cells #[.int .i64 p.idN,.int .i64 p.idR,.int .i64 p.parN,.int .i64 p.parR,.slice k1 p.key.length ck,.int .i64 p.kind,.slice n1 p.name.length cn,.slice t1 p.text.length ct,.slice a1 p.attrs.length ca] 146)).alloc (.cells #[.int .i64 p.idN,.int .i64 p.idR,.int .i64 p.parN,.int .i64 p.parR,.slice k1 p.key.length ck,.int .i64 p.kind,.slice n1 p.name.length cn,.slice t1 p.text.length ct,.slice a1 p.attrs.length ca] 146)).cell? ((⟨(wr.alloc (.cells #[.int .i64 p.idN,.int .i64 p.idR,.int .i64 p.parN,.int .i64 p.parR,.slice k1 p.key.length ck,.int .i64 p.kind,.slice n1 p.name.length cn,.slice t1 p.text.length ct,.slice a1 p.attrs.length ca] 146)).heap.size,0,none⟩:Addr).add i)=some u)∧PlQ w0 ((wr.alloc (.cells #[.int .i64 p.idN,.int .i64 p.idR,.int .i64 p.parN,.int .i64 p.parR,.slice k1 p.key.length ck,.int .i64 p.kind,.slice n1 p.name.length cn,.slice t1 p.text.length ct,.slice a1 p.attrs.length ca] 146)).alloc (.cells #[.int .i64 p.idN,.int .i64 p.idR,.int .i64 p.parN,.int .i64 p.parR,.slice k1 p.key.length ck,.int .i64 p.kind,.slice n1 p.name.length cn,.slice t1 p.text.length ct,.slice a1 p.attrs.length ca] 146)) [.int .i64 p.idN,.int .i64 p.idR,.int .i64 p.parN,.int .i64 p.parR,.slice k1 p.key.length ck,.int .i64 p.kind,.slice n1 p.name.length cn,.slice t1 p.text.length ct,.slice a1 p.attrs.length ca] p []∧(∀q,q∈Fk∨q∈([]:Xh)->q<((wr.alloc (.cells #[.int .i64 p.idN,.int .i64 p.idR,.int .i64 p.parN,.int .i64 p.parR,.slice k1 p.key.length ck,.int .i64 p.kind,.slice n1 p.name.length cn,.slice t1 p.text.length ct,.slice a1 p.attrs.length ca] 146)).alloc (.cells #[.int .i64 p.idN,.int .i64 p.idR,.int .i64 p.parN,.int .i64 p.parR,.slice k1 p.key.length ck,.int .i64 p.kind,.slice n1 p.name.length cn,.slice t1 p.text.length ct,.slice a1 p.attrs.length ca] 146)).heap.size) from
      ⟨PlsQ.frm hK (Frm.ofBelow Ma []) (fun _ _=>by simp),fun i u Ab=>by rw [zbX,Nat.zero_add,lE.cell i];simpa using Ab,zaa HR,fun q hq=>by
       rcases hq with hq | hq
       ·have:=Ua q hq;omega
       ·cases hq⟩)
     have Bb:=hide (And.intro (zam hB Ma) Ma.size)
     have Ib:(wr.alloc (.cells #[.int .i64 p.idN,.int .i64 p.idR,.int .i64 p.parN,.int .i64 p.parR,.slice k1 p.key.length ck,.int .i64 p.kind,.slice n1 p.name.length cn,.slice t1 p.text.length ct,.slice a1 p.attrs.length ca] 146)).heap.size=wr.heap.size+1:=by simp
     clear Za lE Ma Ua ta hx hK
     rw [Ib]at HP
     go_wp2_with (at_builtin;refine zjW (R:=PlQ w0) (fun h f d=>PlQ.frm h f d) rfl _ _ 105 rfl 146 i0 (.agg #[.int .i64 0,.int .i64 0,.int .i64 0,.int .i64 0,.slice none 0 0,.int .i64 0,.slice none 0 0,.slice none 0 0,.slice none 0 0]) 9 136 Tryz.underlying105 pa ra sa Cb rfl (by decide) _ (zaA l (iN,iR) (j+2)) Fk rfl (zaa HP).1 Fa ⟨wr.heap.size+1,0,none⟩ 1 [.int .i64 p.idN,.int .i64 p.idR,.int .i64 p.parN,.int .i64 p.parR,.slice k1 p.key.length ck,.int .i64 p.kind,.slice n1 p.name.length cn,.slice t1 p.text.length ct,.slice a1 p.attrs.length ca] p [] ?hx rfl (zaa HP).2.1 ?o1 (zaa HP).2.2.1 List.nodup_nil (fun _ _=>by simp) (zaa HP).2.2.2 ?o2 ?o3 ?_)
     case hx=>rfl
     case o1=>intro y hy;simp at hy;rcases hy with rfl | rfl | rfl | rfl | rfl | rfl | rfl | rfl | rfl<;>rfl
     case o2=>unfold maxLen;have:=zaa ma;omega
     case o3=>have:=zaa ma;omega
     intro g9 Ja w9 F9 fa ka Ya da Mb
     obtain⟨Pa,wa⟩:=zaa Bb
     have aa:∀q∈FB (.slice av (zaA l (iN,iR) (j+2)).length cv),q∈Fk:=fun q hq=>by
      obtain⟨_,_,_,_,_,_,e⟩:=(zaa HP).1
      rw [e]
      exact List.mem_append_left _ hq
     have Qa:=hB.size
     have ha:Below w1.heap.size w1 w9:=Pa.trans (da.below Pa.size (fun q hq=>(Aa q (aa q hq)).1))
     have Va:=hide (show PlsQ w0 w9 (.slice (some ⟨g9,0,none⟩) (zaA l (iN,iR) (j+1+2)).length Ja) (zaA l (iN,iR) (j+1+2)) F9 by
      rw [zaa Ca]
      have:((zaA l (iN,iR) (j+2))++[p]).length=(zaA l (iN,iR) (j+2)).length+1:=by simp
      rw [this]
      exact fa)
     have na:=hide (show (zaA l (iN,iR) (j+2)).length+1=(zaA l (iN,iR) (j+1+2)).length by rw [zaa Ca];simp)
     have ya:=hide (show Rng F9 w1.heap.size w9.heap.size from fun q hq=>⟨(Ya q hq).elim (fun k=>(Aa q k).1) (fun k=>by rw [k];omega),PlsQ.lt (zaa Va) q hq⟩)
     have Gb:=hide ka
     have Fb:=hide ha
     rw [zaa na]
     clear fa Ya ka da Pa aa ha HP HK HX x0 x1 x2 x3 x4 x5 x6 x7 x8 c0 c1 e0 e1 e2 e3 e4 e5 e6 e7 e8 hB Aa wa Qa
     go_wp2_with fail
     go_roundw
     case rel=>exact⟨j+1,some ⟨g9,0,none⟩,Ja,F9,by omega,by go_num,rfl,zaa Va,zaa Gb,zaa ya,zaa Fb⟩
     case measure=>simp [intOf];omega
    ·have d1:(p.parN == iN)=true:=by simpa using q1
     have d2:(p.parR == iR)=false:=by simpa using q2
     have Ka:¬ p.par=(iN,iR):=fun e=>q2 (Prod.mk.inj e).2
     clear q1 q2
     have Da:zaA l (iN,iR) (j+1+2)=zaA l (iN,iR) (j+2):=by rw [show j+1+2=j+2+1 by omega,zaa Ia,if_neg Ka,List.append_nil]
     have Ca:=hide Da
     clear Da Ka Ia
     go_wp2_with fail
     go_roundw
     case rel=>
      obtain⟨hK,Fa,Aa,hB⟩:=zaa HK
      exact⟨j+1,av,cv,Fk,by omega,by go_num,by rw [zaa Ca],by rw [zaa Ca];exact PlsQ.frm hK (Frm.ofBelow (zaa HX) []) (fun _ _=>by simp),Fa,Aa.mono (Nat.le_refl _) (zaa HX).size,zam hB (zaa HX)⟩
     case measure=>simp [intOf];omega
   ·have d1:(p.parN == iN)=false:=by simpa using q1
    have Ka:¬ p.par=(iN,iR):=fun e=>q1 (Prod.mk.inj e).1
    clear q1
    have Da:zaA l (iN,iR) (j+1+2)=zaA l (iN,iR) (j+2):=by rw [show j+1+2=j+2+1 by omega,zaa Ia,if_neg Ka,List.append_nil]
    have Ca:=hide Da
    clear Da Ka Ia
    go_wp2_with fail
    go_roundw
    case rel=>
     obtain⟨hK,Fa,Aa,hB⟩:=zaa HK
     exact⟨j+1,av,cv,Fk,by omega,by go_num,by rw [zaa Ca],by rw [zaa Ca];exact PlsQ.frm hK (Frm.ofBelow (zaa HX) []) (fun _ _=>by simp),Fa,Aa.mono (Nat.le_refl _) (zaa HX).size,zam hB (zaa HX)⟩
    case measure=>simp [intOf];omega
  ·have e:j=m:=by omega
   have Nb:¬ (j:Int)<(m:Int):=by omega
   have Sa:=zam hA hB
   have Ob:=hB.size
   have Ga:Below w0.heap.size w0 wr:=Ba.trans (hB.mono Ba.size)
   have HS:=hide (fun (ks:List PlV)=>zkf (ks:=ks) hu (iN,iR))
   have Ra:zaA l (iN,iR) (j+2)=zaA l (iN,iR) l.length:=by rw [e,hm]
   rw [Ra]at hK Na
   clear hm e
   by_cases hk0:zaA l (iN,iR) l.length=[]
   ·have HE:=hide (zaa HQ (.returned (.slice av 0 cv)) wr ⟨av,cv,[],Fk,rfl,by rw [hk0]at hK;exact hK,Aa.mono (by omega) (Nat.le_refl _),zaa HS [] (by rw [hk0]) (fun i j hi=>by cases hi),Sa⟩)
    rw [Ra,hk0]
    clear hK hu Ga Ba hB lb h1 b0 b1 La
    go_wp2_with fail
    refine (zjO _ _ _).mono ?_
    rintro e w2 ⟨rfl,rfl⟩
    go_wp2_with fail
    exact zaa HE
   ·obtain⟨gk,oa⟩:∃gk,av=some ⟨gk,0,none⟩:=by
     obtain⟨_,_,_,_,_,Ha,_⟩:=hK
     rcases Ha.2 with ⟨_,e0⟩ | ⟨g',Oa,za,e0,_⟩
     ·exact absurd (List.length_eq_zero_iff.1 e0) hk0
     ·injection e0 with e1 _ _;exact⟨g',e1⟩
    subst oa
    have qa:gk∈Fk:=by
     obtain⟨_,_,_,_,_,_,e⟩:=hK
     rw [e]
     exact List.mem_append_left _ (by simp [FB,Value.ownBlock])
    have Kb:=Aa gk qa
    have HP:=hide (ztt w0 wr gk cv _ Fk hK hk0 Na Ga (by have:=Ba.size;omega))
    rw [Ra]
    have la:∀ks:List PlV,ks.Perm (zaA l (iN,iR) l.length)->ks.length=(zaA l (iN,iR) l.length).length:=fun ks h=>h.length_eq
    have HL:=hide la
    have ba:=hide Sa
    clear la Sa hK hu Ga Ba hB lb h1 b0 b1 La
    generalize zaA l (iN,iR) l.length=kr at *
    go_wp2_with fail
    refine (zaa HP).mono ?_
    rintro e w2 ⟨rfl,ks,hp,hs,hQ,hf⟩
    have ga:=(zaa ba).trans (hf.below (by have:=(zaa ba).size;omega) (fun q hq=>by simp at hq;omega))
    have Xa:=zaa HL ks hp
    have HE:=hide (zaa HQ (.returned (.slice (some ⟨gk,0,none⟩) ks.length cv)) w2 ⟨_,_,ks,[gk],rfl,hQ,fun q hq=>by simp at hq;have:=hf.size;omega,zaa HS ks hp hs,ga⟩)
    rw [Xa]at HE
    clear ga Xa hQ hf hs hp HL HP
    go_wp2_with fail
    exact zaa HE
theorem zlS {w0 w:Xk} {g mb gr:Nat} {c:Nat} {l:List PlV} {F:Xh} (h:FoQ w0 w g mb (some ⟨gr,0,none⟩) c l F) (hB0:Below w0.heap.size w0 w) (h2:2<=l.length) (hu:(l.map PlV.id).Nodup) (id:IdV) :
  Calls Tryz.prog 121 #[.pointer (some ⟨g,0,none⟩),.agg #[.int .i64 id.1,.int .i64 id.2]] w fun e w'=>∃av cv ks F',e=.returned (.slice av (List.length ks) cv)∧PlsQ w0 w' (.slice av (List.length ks) cv) ks F'∧Rng F' w.heap.size w'.heap.size∧ks.map some=(zay l id).map (fun k=>l[k]?)∧Below w.heap.size w w':=zzn h.q0 hB0 h2 hu id
set_option maxHeartbeats 1600000 in
theorem zhc (w:Xk) (p:PlV) (k n t a:Xi) (ck cn ct ca:Nat) :
  Calls Tryz.prog 86 #[.agg #[.int .i64 p.idN,.int .i64 p.idR,.int .i64 p.parN,.int .i64 p.parR,.slice k p.key.length ck,.int .i64 p.kind,.slice n p.name.length cn,.slice t p.text.length ct,.slice a p.attrs.length ca]] w fun e w'=>e=.returned (.agg #[.int .i64 p.kind,.slice n p.name.length cn,.slice t p.text.length ct,.slice a p.attrs.length ca,.slice none 0 0])∧Below w.heap.size w w':=by
 have hA:=((Below.refl w.heap.size w).alloc (Nat.le_refl _) (.cells #[.int .i64 p.idN,.int .i64 p.idR,.int .i64 p.parN,.int .i64 p.parR,.slice k p.key.length ck,.int .i64 p.kind,.slice n p.name.length cn,.slice t p.text.length ct,.slice a p.attrs.length ca] 146)).alloc (by simp) (.cells #[.int .i64 p.kind,.slice n p.name.length cn,.slice t p.text.length ct,.slice a p.attrs.length ca,.slice none 0 0] 29)
 have HA:=hide hA
 clear hA
 go_enter Tryz.func86,Tryz.ntmps86
 go_wp2
 exact bodyPost_ret (v:=.agg #[.int .i64 p.kind,.slice n p.name.length cn,.slice t p.text.length ct,.slice a p.attrs.length ca,.slice none 0 0]) (by simp [results,Tryz.results86,go_sem]) rfl ⟨rfl,zaa HA⟩
theorem ztP {p:PlV}:zbi p=(decide ((zaN p).kids.length=0) && zbE (zaN p)):=by
 have hk:(zaN p).kids=[]:=rfl
 unfold zbi
 rw [zbl,if_neg (by omega),hk]
 by_cases h1:(zaN p).kind=1
 ·rw [if_pos h1,zhF h1];simp
 ·rw [if_neg h1,zfl h1]
  by_cases h2:zaM (zaN p)=true
  ·rw [if_pos h2,h2];rfl
  ·rw [if_neg h2];simp [h2]
set_option maxHeartbeats 1600000 in
theorem zuA (w0 w:Xk) (p:PlV) (n t a:Xi) (cn ct ca:Nat) (h1:Byt w0 (.slice n p.name.length cn) p.name) (h2:Byt w0 (.slice t p.text.length ct) p.text) (h3:RdAttrs w0 (.slice a p.attrs.length ca) p.attrs) (hb:Below w0.heap.size w0 w) (hK : -9223372036854775808<=p.kind∧p.kind<=9223372036854775807) :
  Calls Tryz.prog 85 #[.agg #[.int .i64 p.kind,.slice n p.name.length cn,.slice t p.text.length ct,.slice a p.attrs.length ca,.slice none 0 0]] w fun e w'=>e=.returned (.bool (zbi p))∧Below w.heap.size w w':=by
 refine zaF ?_
 intro Q HQ
 have hN:RdNode 1 w0 [.int .i64 p.kind,.slice n p.name.length cn,.slice t p.text.length ct,.slice a p.attrs.length ca,.slice none 0 0] (zaN p):=⟨_,_,_,_,rfl,hK.1,hK.2,h1,h2,h3,Nat.zero_le _,.inl ⟨rfl,rfl⟩⟩
 have hA:Below w.heap.size w ((w.alloc (.cells #[.int .i64 p.kind,.slice n p.name.length cn,.slice t p.text.length ct,.slice a p.attrs.length ca,.slice none 0 0] 29)).alloc (.cells vs0 82)):=((Below.refl w.heap.size w).alloc (Nat.le_refl _) _).alloc (by simp) _
 have lv:=Loc.made (w.alloc (.cells #[.int .i64 p.kind,.slice n p.name.length cn,.slice t p.text.length ct,.slice a p.attrs.length ca,.slice none 0 0] 29)) vs0 82
 simp only [World.size_alloc]at lv
 have hs:=hb.size
 have Aa:=ztP (p:=p)
 have Ba:decide ((zaN p).kids.length=0)=true:=rfl
 rw [Ba,Bool.true_and]at Aa
 have HX:=hide (And.intro hA (And.intro lv (And.intro hN hb)))
 have HL:=hide Aa
 clear hA lv hN h1 h2 h3 hb hK Aa Ba
 go_enter Tryz.func85,Tryz.ntmps85
 go_wp2_with fail
 obtain⟨hA,lv,hN,hb⟩:=zaa HX
 refine (znh w.heap.size 0 w0 _ _ _ _ _ _ (zaN p) (w.heap.size+1) hN (hb.trans (hA.mono hs)) (by omega) (.inl lv) hA.size).mono ?_
 rintro e w2 ⟨rfl,-,hf⟩
 rw [<-zaa HL]
 have HE:=hide (zaa HQ _ w2 ⟨rfl,hA.trans (hf.below hA.size (fun q hq=>by simp at hq;omega))⟩)
 clear hA lv hN hb hf HX
 generalize zbi p=b at *
 go_wp2_with fail
 exact zaa HE
theorem zij (l:List PlV) (id:IdV) {n:Nat} (h:n<=2):zdd l id n=[]:=by
 unfold zdd
 rw [show n-2=0 by omega]
 rfl
theorem zhM {l:List PlV} (id:IdV):∀(n:Nat),(zdd l id n).length<=n
 | 0=>by rw [zij l id (by omega)];simp
 | n+1=>by
  by_cases h2:2<=n
  ·rw [zjL l id h2]
   unfold zjt
   have:=zhM (l:=l) id n
   by_cases hk:zcs l id n=true
   ·rw [if_pos hk,(zmJ _ _ _).length_eq];simp;omega
   ·rw [if_neg hk];omega
  ·rw [zij l id (by omega)];simp
end Go.Proofs.YtgjolijncmkkhaaGreatDoor
namespace Go.Proofs.YtgjolijncmkkhaaGreatDoor
open Go.RowKit Go.Shelf
set_option linter.unusedVariables false
set_option maxRecDepth 100000
theorem zxk {w w':Xk} {b off i:Nat} {p:PlV} {k n t q:Xi} {ck cn ct cq:Nat} (hb:Below w.heap.size w w') (hbl:b<w.heap.size) (h:∃C:Xj,C.length=9∧(∀j,j<9->w.cell? ⟨b,off+i*9+j,none⟩=C[j]?)∧RdPlC w C p)
  (e4:w'.cell? ⟨b,off+i*9+4,none⟩=some (.slice k p.key.length ck)) (e6:w'.cell? ⟨b,off+i*9+6,none⟩=some (.slice n p.name.length cn)) (e7:w'.cell? ⟨b,off+i*9+7,none⟩=some (.slice t p.text.length ct)) (e8:w'.cell? ⟨b,off+i*9+8,none⟩=some (.slice q p.attrs.length cq)):Byt w (.slice n p.name.length cn) p.name∧Byt w (.slice t p.text.length ct) p.text∧RdAttrs w (.slice q p.attrs.length cq) p.attrs:=by
 obtain⟨C,_,hc,K,N,X,A,rfl,h1,h2,h3,h4⟩:=h
 have f6:=(hb.cell (p:=⟨b,off+i*9+6,none⟩) hbl).trans (hc 6 (by omega))
 have f7:=(hb.cell (p:=⟨b,off+i*9+7,none⟩) hbl).trans (hc 7 (by omega))
 have f8:=(hb.cell (p:=⟨b,off+i*9+8,none⟩) hbl).trans (hc 8 (by omega))
 rw [e6]at f6
 rw [e7]at f7
 rw [e8]at f8
 injection f6 with f6
 injection f7 with f7
 injection f8 with f8
 rw [f6,f7,f8]
 exact⟨h2,h3,h4⟩
theorem zwo {l:List PlV} {k m:Nat} {p:PlV} (hp:l[k]? = some p) {left lf:Int} {acc:List (Tr (m+1))} (he:prjK (prj l m) (zay l p.id) [] (left-1)=(acc,lf)):(prj l (m+1) k left).1=(⟨p.kind,p.name,p.text,p.attrs,acc⟩:Nd (Tr (m+1)))∧(prj l (m+1) k left).2=lf:=
 ⟨(congrArg Prod.fst (zfI hp left)).trans (congrArg (fun x:List (Tr (m+1))×Int=>((⟨p.kind,p.name,p.text,p.attrs,x.1⟩:Nd (Tr (m+1))):Tr (m+2))) he),(congrArg Prod.snd (zfI hp left)).trans (congrArg Prod.snd he)⟩
end Go.Proofs.YtgjolijncmkkhaaGreatDoor
