/- Own texts joined: StaI, UndI, RepI, EqT, ToT4, ToT5, CntT, LMark, MarkI, St10, L5pj, RepS, SDc, IDc, HeldA, HeldN, HeldT, MarkZ, MarkOsM, MarkOs, EqOs, HeldOs, MkIs, HdIs. -/
import Derived.Test.YtlpnibbdmkeklaaGreatDoorJa
import Derived.Test.YtlpnibbdmkeklaaGreatDoorJb
import Derived.Test.YtlpnibbdmkeklaaGreatDoorJc
import Derived.Test.YtlpnibbdmkeklaaGreatDoorJd
import Derived.Test.YtlpnibbdmkeklaaGreatDoorJe
import Derived.Test.YtlpnibbdmkeklaaGreatDoorJf
import Derived.Test.YtlpnibbdmkeklaaGreatDoorJg
import Derived.Test.YtlpnibbdmkeklaaGreatDoorJh
import Derived.Test.YtlpnibbdmkeklaaGreatDoorJi
import Derived.Test.YtlpnibbdmkeklaaGreatDoorJj
import Derived.Test.YtlpnibbdmkeklaaGreatDoorJk
import Derived.Test.YtlpnibbdmkeklaaGreatDoorJl
import Derived.Test.YtlpnibbdmkeklaaGreatDoorJm
import Derived.Deep.RegionHeld3
import Derived.Test.YtlpnibbdmkeklaaGreatDoorChecked
namespace Go.Proofs.YtlpnibbdmkeklaaGreatDoor
open Go.RowKit
set_option linter.unusedVariables false
set_option maxRecDepth 100000
set_option maxHeartbeats 6400000 in
theorem zqO (n:Nat) (w:Xe) (a b c d e vo vu:Xf) (r:RepV n) (h:RdRep n w a b c d e vo vu r) :
  Calls Tryz.prog 49 #[zaQ r a b c d e vo vu] w fun e w'=>e=.returned (.bool (zcr r.ops r.clock))∧Below w.heap.size w w':=by
 obtain⟨z,ab,nb,cb,ac,nc,cc,ad,nd,cd,ae,ne,ce,rfl,rfl,rfl,rfl,rfl⟩:=rd5 h.1
 obtain⟨_,ho,hu⟩:=h
 obtain⟨au,cu,rfl,_,_⟩:=Elems.shape hu
 have hm:=ho.1
 unfold maxLen at hm
 generalize r.und.length=nu at *
 clear hu
 unfold zaQ
 have HG:=hide (fun hh=>zgo (l:=r.ops) (c:=r.clock) hh)
 have HN:=hide (fun k hk hh=>zhf (l:=r.ops) (c:=r.clock) (k:=k) hk hh)
 generalize zcr r.ops r.clock=res at *
 generalize r.ops=l at *
 obtain⟨rfl,ao,co,rfl⟩ | ⟨b,off,cap,rfl,hnil,g4,g5⟩:=ho.cases
 ·have HY:=hide (zaa HG (fun k hk=>by simp at hk))
  have hA:=(Below.refl w.heap.size w).alloc (Nat.le_refl _) (.cells (#[.int .i64 r.id,.int .i64 r.clock,.int .i64 z,.slice ab nb cb,.slice ac nc cc,.slice ad nd cd,.slice ae ne ce,.slice ao ([]:List OpV).length co,.slice au nu cu,.bool r.lost]) 41)
  go_enter Tryz.func49,Tryz.ntmps49
  go_wp2_with fail
  refine wp_loop_rounds 1 ?_
  rw [rounds_succ]
  go_wp2_with fail
  go_ret
  exact⟨by rw [zaa HY];rfl,hA⟩
 have hA:=(Below.refl w.heap.size w).alloc (Nat.le_refl _) (.cells (#[.int .i64 r.id,.int .i64 r.clock,.int .i64 z,.slice ab nb cb,.slice ac nc cc,.slice ad nd cd,.slice ae ne ce,.slice (some ⟨b,off,none⟩) l.length cap,.slice au nu cu,.bool r.lost]) 41)
 have l0:=Loc.made w (#[.int .i64 r.id,.int .i64 r.clock,.int .i64 z,.slice ab nb cb,.slice ac nc cc,.slice ad nd cd,.slice ae ne ce,.slice (some ⟨b,off,none⟩) l.length cap,.slice au nu cu,.bool r.lost]) 41
 go_enter Tryz.func49,Tryz.ntmps49
 go_wp2_with fail
 generalize (w.alloc (.cells (#[.int .i64 r.id,.int .i64 r.clock,.int .i64 z,.slice ab nb cb,.slice ac nc cc,.slice ad nd cd,.slice ae ne ce,.slice (some ⟨b,off,none⟩) l.length cap,.slice au nu cu,.bool r.lost]) 41))=wa at *
 go_loopw [4,8] (fun _ i wr=>∃k:Nat,k<=l.length∧i=.int .i64 k∧(∀j (hj:j<l.length),j<k->l[j].atN<=r.clock)∧Below wa.heap.size wa wr) (fun _ i _=>l.length-(intOf i).toNat)
 case atStart=>exact⟨0,Nat.zero_le _,rfl,fun j _ hj=>by omega,Below.refl _ _⟩
 case round=>
  obtain⟨k,hk,rfl,hok,hB⟩:=hrel
  have hAB:=zad hA hB
  by_cases hlt:k<l.length
  ·obtain⟨a1,c1,a2,c2,a3,c3,e0,e1,e2,e3,e4,e5,e6,e7,e8,e9,e10,e11,hr⟩:=zcy hAB g4 (g5 k hlt)
   have t1:wr.cell? ⟨w.heap.size,1,none⟩=some (.int .i64 r.clock):=(l0.all hB).cell 1
   have hlt':(k:Int)<(l.length:Int):=by omega
   have hk0:(0:Int)<=(k:Int):=by omega
   have HJ:=hide (fun (hh:l[k].atN<=r.clock) j (hj:j<l.length) (hjk:j<k+1)=>(show l[j].atN<=r.clock by rcases Nat.lt_succ_iff_lt_or_eq.1 hjk with h1 | rfl;exact hok j hj h1;exact hh))
   have HNK:=hide (fun (hh:r.clock<l[k].atN)=>zaa HN k hlt hh)
   have hBx:=fun (o:Obj)=>(hB.alloc (by exact hB.size) o)
   have HBX:=hide (fun (o:Obj)=>zad hA (hB.alloc hB.size o))
   have HBY:=hide (fun (o:Obj)=>hB.alloc hB.size o)
   have hSr:w.heap.size<wr.heap.size:=(l0.all hB).lt
   generalize l[k]=o at *
   generalize o.key.length=nK at *
   generalize o.name.length=nN at *
   generalize o.text.length=nT at *
   clear g5 hr hnil HG HN hok hBx
   by_cases hq:r.clock<o.atN
   ·have HF:=hide (zaa HNK hq)
    clear HNK HJ
    go_wp2_with fail
    go_ret
    exact⟨by rw [zaa HF];rfl,zaa HBX _⟩
   ·have hq':o.atN<=r.clock:=by omega
    have HJ':=hide (zaa HJ hq')
    clear HNK HJ
    go_wp2_with fail
    go_roundw
    case rel=>exact⟨k+1,by omega,by go_num,zaa HJ',zaa HBY _⟩
    case measure=>simp [intOf];omega
  ·have HY:=hide (zaa HG (fun k hk=>hok k hk (by omega)))
   clear g5
   go_wp2_with fail
   go_ret
   exact⟨by rw [zaa HY];rfl,hAB⟩
set_option maxHeartbeats 12800000 in
theorem zqt (n:Nat) (w:Xe) (a b c d e vo vu:Xf) (r:RepV n) (h:RdRep n w a b c d e vo vu r) :
  Calls Tryz.prog 50 #[zaQ r a b c d e vo vu] w fun e w'=>e=.returned (.bool (undB r.und r.id r.clock))∧Below w.heap.size w w':=by
 obtain⟨z,ab,nb,cb,ac,nc,cc,ad,nd,cd,ae,ne,ce,rfl,rfl,rfl,rfl,rfl⟩:=rd5 h.1
 obtain⟨_,ho,hu⟩:=h
 obtain⟨ao,co,rfl,_,_⟩:=Elems.shape ho
 have hm:=hu.1
 unfold maxLen at hm
 generalize r.ops.length=no at *
 clear ho
 unfold zaQ
 have HLG:=hide (fun hh=>ziv (l:=r.und) (id:=r.id) (clk:=r.clock) hh)
 have HG:=hide (fun hn hh=>ziF (l:=r.und) (id:=r.id) (clk:=r.clock) hn hh)
 have HN:=hide (fun k hk hh=>zkl (l:=r.und) (id:=r.id) (clk:=r.clock) (k:=k) hk hh)
 have HE:=hide (fun k hk=>zkg (l:=r.und) (id:=r.id) (clk:=r.clock) (k:=k) hk)
 generalize undB r.und r.id r.clock=res at *
 generalize hul:r.und=l at *
 clear hul
 by_cases hlong:150<l.length
 ·obtain⟨au,cu,rfl,_,_⟩:=Elems.shape hu
  have hd:(150:Int)<(l.length:Int):=by omega
  have HY:=hide (zaa HLG hlong)
  have hA:=(Below.refl w.heap.size w).alloc (Nat.le_refl _) (.cells (#[.int .i64 r.id,.int .i64 r.clock,.int .i64 z,.slice ab nb cb,.slice ac nc cc,.slice ad nd cd,.slice ae ne ce,.slice ao no co,.slice au l.length cu,.bool r.lost]) 41)
  go_enter Tryz.func50,Tryz.ntmps50
  go_wp2_with fail
  go_ret
  exact⟨by rw [zaa HY];rfl,hA⟩
 have hd:¬ (150:Int)<(l.length:Int):=by omega
 obtain⟨rfl,au,cu,rfl⟩ | ⟨b,off,cap,rfl,hnil,g4,g5⟩:=hu.cases
 ·have HY:=hide (zaa HG (by simp) (fun k hk=>by simp at hk))
  have hA:=(Below.refl w.heap.size w).alloc (Nat.le_refl _) (.cells (#[.int .i64 r.id,.int .i64 r.clock,.int .i64 z,.slice ab nb cb,.slice ac nc cc,.slice ad nd cd,.slice ae ne ce,.slice ao no co,.slice au ([]:List (Int×Int)).length cu,.bool r.lost]) 41)
  go_enter Tryz.func50,Tryz.ntmps50
  go_wp2_with fail
  refine wp_loop_rounds 1 ?_
  rw [rounds_succ]
  go_wp2_with fail
  go_ret
  exact⟨by rw [zaa HY];rfl,hA⟩
 have hA:=(Below.refl w.heap.size w).alloc (Nat.le_refl _) (.cells (#[.int .i64 r.id,.int .i64 r.clock,.int .i64 z,.slice ab nb cb,.slice ac nc cc,.slice ad nd cd,.slice ae ne ce,.slice ao no co,.slice (some ⟨b,off,none⟩) l.length cap,.bool r.lost]) 41)
 have l0:=Loc.made w (#[.int .i64 r.id,.int .i64 r.clock,.int .i64 z,.slice ab nb cb,.slice ac nc cc,.slice ad nd cd,.slice ae ne ce,.slice ao no co,.slice (some ⟨b,off,none⟩) l.length cap,.bool r.lost]) 41
 replace HG:=hide (fun hh=>zaa HG (by omega) hh)
 clear HLG
 go_enter Tryz.func50,Tryz.ntmps50
 go_wp2_with fail
 generalize (w.alloc (.cells (#[.int .i64 r.id,.int .i64 r.clock,.int .i64 z,.slice ab nb cb,.slice ac nc cc,.slice ad nd cd,.slice ae ne ce,.slice ao no co,.slice (some ⟨b,off,none⟩) l.length cap,.bool r.lost]) 41))=wa at *
 go_loopw [3,4,12] (fun _ _ i wr=>∃k:Nat,k<=l.length∧i=.int .i64 k∧(∀j,j<k->zcm l r.id r.clock j=true)∧Below wa.heap.size wa wr) (fun _ _ i _=>l.length-(intOf i).toNat)
 case atStart=>exact⟨0,Nat.zero_le _,rfl,fun j hj=>by omega,Below.refl _ _⟩
 case round=>
  obtain⟨k,hk,rfl,hok,hB⟩:=hrel
  have hAB:=zad hA hB
  by_cases hlt:k<l.length
  ·obtain⟨c0,c1⟩:=g5 k hlt
   have e0:=(hAB.cell (p:=⟨b,off+k*2,none⟩) g4).trans c0
   have e1:=(hAB.cell (p:=⟨b,off+k*2+1,none⟩) g4).trans c1
   have lr:=l0.all hB
   have hlt':(k:Int)<(l.length:Int):=by omega
   have hk0:(0:Int)<=(k:Int):=by omega
   have HE':=hide (zaa HE k hlt)
   have HJ:=hide (fun (hh:zcm l r.id r.clock k=true) j (hj:j<k+1)=>(show zcm l r.id r.clock j=true by rcases Nat.lt_succ_iff_lt_or_eq.1 hj with h1 | rfl;exact hok j h1;exact hh))
   have HNK:=hide (fun (hh:zcm l r.id r.clock k=false)=>zaa HN k hlt hh)
   have HP:=hide (fun j (ej:k=j+1)=>(show ∃q:Int×Int,l[k-1]'(by omega)=q∧wr.cell? ⟨b,off+j*2,none⟩=some (.int .i64 q.1)∧wr.cell? ⟨b,off+j*2+1,none⟩=some (.int .i64 q.2) by
    obtain⟨p0,p1⟩:=g5 j (by omega)
    exact⟨l[j],by subst ej;rfl,(hAB.cell (p:=⟨b,off+j*2,none⟩) g4).trans p0,(hAB.cell (p:=⟨b,off+j*2+1,none⟩) g4).trans p1⟩))
   have HB0:=hide (show Below wa.heap.size wa (wr.alloc (.cells (#[.int .i64 l[k].1,.int .i64 l[k].2]) 81)) from hB.alloc hB.size _)
   have hSr:w.heap.size<wr.heap.size:=lr.lt
   have g4':b<wr.heap.size:=Nat.lt_of_lt_of_le g4 hAB.size
   generalize zcm l r.id r.clock k=okk at *
   generalize hoo:l[k]=o at *
   have t0:wr.cell? ⟨w.heap.size,0,none⟩=some (.int .i64 r.id):=lr.cell 0
   have t1:wr.cell? ⟨w.heap.size,1,none⟩=some (.int .i64 r.clock):=lr.cell 1
   have t8:wr.cell? ⟨w.heap.size,8,none⟩=some (.slice (some ⟨b,off,none⟩) l.length cap):=lr.cell 8
   clear hoo g5 c0 c1 hnil HG HN HE hok
   by_cases hq:o.2=r.id∧1<=o.1∧o.1<=r.clock
   case neg=>
    have HF:=hide (zaa HNK (by
     rw [zaa HE']
     have:(decide (o.2=r.id) && decide (1<=o.1) && decide (o.1<=r.clock))=false:=by
      rw [Bool.and_eq_false_iff,Bool.and_eq_false_iff]
      simp only [decide_eq_false_iff_not]
      omega
     rw [this,Bool.false_and]))
    have hAx:=zad hA (zaa HB0)
    clear HE' HJ HNK HP HB0
    by_cases q1:o.2=r.id
    ·by_cases q2:1<=o.1
     ·have q3:r.clock<o.1:=by omega
      have d1:(o.2 != r.id)=false:=by simpa using q1
      have d2:decide (o.1<1)=false:=by simp;omega
      have q2':¬ o.1<1:=by omega
      clear q1
      go_wp2_with fail
      go_ret
      exact⟨by rw [zaa HF];rfl,hAx⟩
     ·have q2':o.1<1:=by omega
      have d1:(o.2 != r.id)=false:=by simpa using q1
      clear q1
      go_wp2_with fail
      go_ret
      exact⟨by rw [zaa HF];rfl,hAx⟩
    ·have d1:(o.2 != r.id)=true:=by simpa using q1
     go_wp2_with fail
     go_ret
     exact⟨by rw [zaa HF];rfl,hAx⟩
   obtain⟨q1,q2,q3⟩:=hq
   have HE2:okk=(decide (k=0) || zan (l[k-1]'(by omega)).1 (l[k-1]'(by omega)).2 o.1 o.2):=by
    rw [zaa HE',decide_eq_true q1,decide_eq_true q2,decide_eq_true q3];rfl
   have d1:(o.2 != r.id)=false:=by simpa using q1
   have d2:¬ o.1<1:=by omega
   have d3:¬ r.clock<o.1:=by omega
   clear q1
   have lo:=Loc.made wr #[.int .i64 o.1,.int .i64 o.2] 81
   have hAb:=(Below.refl wr.heap.size wr).alloc (Nat.le_refl _) (.cells #[.int .i64 o.1,.int .i64 o.2] 81)
   have HCB:=hide (fun a v (hb:a.block<wr.heap.size) (h:wr.cell? a=some v)=>(hAb.cell hb).trans h)
   have LL:=hide (And.intro lo (zaa HB0))
   clear lo hAb HE' HB0
   go_wp2_with fail
   obtain⟨lo,hBb⟩:=zaa LL
   clear LL
   have t0:=zaa HCB _ _ hSr t0
   have t1:=zaa HCB _ _ hSr t1
   have t8:=zaa HCB _ _ hSr t8
   have y0:(wr.alloc (.cells #[.int .i64 o.1,.int .i64 o.2] 81)).cell? ⟨wr.heap.size,0,none⟩=some (.int .i64 o.1):=lo.cell 0
   have y1:(wr.alloc (.cells #[.int .i64 o.1,.int .i64 o.2] 81)).cell? ⟨wr.heap.size,1,none⟩=some (.int .i64 o.2):=lo.cell 1
   have hSl:wr.heap.size<(wr.alloc (.cells #[.int .i64 o.1,.int .i64 o.2] 81)).heap.size:=lo.lt
   generalize (wr.alloc (.cells #[.int .i64 o.1,.int .i64 o.2] 81))=wb at *
   have hSr':w.heap.size<wb.heap.size:=Nat.lt_trans hSr hSl
   have hNE:Nonempty (Gr wb):=⟨⟨wb,Below.refl _ _⟩⟩
   replace t0:=Gr.cell hSr' t0
   replace t1:=Gr.cell hSr' t1
   replace t8:=Gr.cell hSr' t8
   replace y0:=Gr.cell hSl y0
   replace y1:=Gr.cell hSl y1
   rcases Nat.eq_zero_or_pos k with hz | hpos
   ·have HY:=hide (zaa HJ (by rw [HE2,decide_eq_true hz];rfl))
    have dz3:¬ 0<k:=by omega
    have dz4:decide (0<k)=false:=by simp;omega
    clear HP HE2 HCB HJ HNK hz
    refine zaD (by kernel_rfl) (by kernel_rfl) ?_
    repeat (go_big_quiet_step (fail))
    refine wpQuiet_nil ?_
    rintro _ ⟨p,rfl⟩
    have hB3:=zad hBb p.h
    clear t0 t1 t8 y0 y1
    go_wp2_with fail
    go_roundw
    case rel=>exact⟨k+1,by omega,by go_num,zaa HY,hB3⟩
    case measure=>simp [intOf];omega
   ·obtain⟨j,ej⟩:∃j,k=j+1:=⟨k-1,by omega⟩
    have dz3:0<k:=hpos
    have dz4:decide (0<k)=true:=by simp;omega
    have hj1:(k:Int)-1=(j:Int):=by omega
    have hj0:(0:Int)<=(j:Int):=by omega
    have hjl:(j:Int)<(l.length:Int):=by omega
    obtain⟨q,eq,i1,i2⟩:=zaa HP j ej
    have HE3:okk=zan q.1 q.2 o.1 o.2:=by rw [HE2,eq,decide_eq_false (by omega),Bool.false_or]
    have i1:=zaa HCB _ _ g4' i1
    have i2:=zaa HCB _ _ g4' i2
    replace i1:=Gr.cell (Nat.lt_trans g4' hSl) i1
    replace i2:=Gr.cell (Nat.lt_trans g4' hSl) i2
    have HLL:=hide (fun W=>zjm W q.1 q.2 o.1 o.2)
    clear HE2 HP HCB eq hpos
    generalize zan q.1 q.2 o.1 o.2=lb at *
    subst HE3
    clear ej
    refine zaD (by kernel_rfl) (by kernel_rfl) ?_
    repeat (go_big_quiet_step ((rename_i p;exact zbV (zaa HLL _))))
    refine wpQuiet_nil ?_
    rintro _ ⟨p,rfl⟩
    have hB3:=zad hBb p.h
    clear t0 t1 t8 y0 y1 i1 i2
    cases okk with
    | true=>
     go_wp2_with fail
     go_roundw
     case rel=>exact⟨k+1,by omega,by go_num,zaa HJ rfl,hB3⟩
     case measure=>simp [intOf];omega
    | false=>
     have HF:=hide (zaa HNK rfl)
     clear HNK
     go_wp2_with fail
     go_ret
     exact⟨by rw [zaa HF];rfl,zad hA hB3⟩
  ·have HY:=hide (zaa HG (fun j hj=>hok j (by omega)))
   clear g5
   go_wp2_with fail
   go_ret
   exact⟨by rw [zaa HY];rfl,hAB⟩
set_option maxHeartbeats 6400000 in
theorem zpM (n:Nat) (w:Xe) (a b c d e vo vu:Xf) (r:RepV n) (h:RdRep n w a b c d e vo vu r) (hsz:szT (n+1) r.first<=2097152) :
  Calls Tryz.prog 21 #[zaQ r a b c d e vo vu] w fun e w'=>e=.returned (.bool (repB r))∧Below w.heap.size w w':=by
 obtain⟨z,ab,nb,cb,ac,nc,cc,ad,nd,cd,ae,ne,ce,rfl,rfl,rfl,rfl,rfl⟩:=rd5 h.1
 obtain⟨ao,co,rfl,_,_⟩:=Elems.shape h.2.1
 obtain⟨au,cu,rfl,_,_⟩:=Elems.shape h.2.2
 have HS:=hide (fun W (hW:Below w.heap.size w W)=>zna n W r.id _ _ _ _ _ r.first (h.1.keep hW) hsz)
 have HO:=hide (fun W (hW:Below w.heap.size w W)=>zke W _ r.ops (h.2.1.keep hW))
 have HT:=hide (fun W (hW:Below w.heap.size w W)=>zqO n W _ _ _ _ _ _ _ r (h.keep hW))
 have HU:=hide (fun W (hW:Below w.heap.size w W)=>zqt n W _ _ _ _ _ _ _ r (h.keep hW))
 unfold zaQ at HT HU ⊢
 unfold repB
 clear h
 generalize zfM n r.id r.first=sb at *
 generalize opsB r.ops=ob at *
 generalize zcr r.ops r.clock=tb at *
 generalize undB r.und r.id r.clock=ub at *
 generalize r.ops.length=no at *
 generalize r.und.length=nu at *
 have hA:=(Below.refl w.heap.size w).alloc (Nat.le_refl _) (.cells #[.int .i64 r.id,.int .i64 r.clock,.int .i64 z,.slice ab nb cb,.slice ac nc cc,.slice ad nd cd,.slice ae ne ce,.slice ao no co,.slice au nu cu,.bool r.lost] 41)
 have l0:=Loc.made w #[.int .i64 r.id,.int .i64 r.clock,.int .i64 z,.slice ab nb cb,.slice ac nc cc,.slice ad nd cd,.slice ae ne ce,.slice ao no co,.slice au nu cu,.bool r.lost] 41
 go_enter Tryz.func21,Tryz.ntmps21
 go_wp2_with fail
 generalize (w.alloc (.cells #[.int .i64 r.id,.int .i64 r.clock,.int .i64 z,.slice ab nb cb,.slice ac nc cc,.slice ad nd cd,.slice ae ne ce,.slice ao no co,.slice au nu cu,.bool r.lost] 41))=wa at *
 refine (zaa HS _ hA).mono ?_
 rintro e w1 ⟨rfl,hB⟩
 have hA1:=zad hA hB
 replace l0:=l0.all hB
 clear hA hB HS
 obtain⟨x0,x1,x2,x3,x4,x5,x6,x7,x8,x9⟩:=l0.ten
 cases hs:sb with
 | false=>
  go_wp2_with fail
  go_ret
  exact⟨by rw [hs];rfl,hA1⟩
 | true=>
 by_cases q1:0<=r.clock
 case neg=>
  have d1:decide (0<=r.clock)=false:=by simpa using q1
  go_wp2_with fail
  go_ret
  exact⟨by rw [hs,d1];rfl,hA1⟩
 have d1:decide (0<=r.clock)=true:=by simpa using q1
 by_cases q2:r.clock<=1000000
 case neg=>
  have d2:decide (r.clock<=1000000)=false:=by simpa using q2
  go_wp2_with fail
  go_ret
  exact⟨by rw [hs,d1,d2];rfl,hA1⟩
 have d2:decide (r.clock<=1000000)=true:=by simpa using q2
 go_wp2_with fail
 clear x0 x1 x2 x3 x4 x5 x6 x7 x8 x9
 refine (zaa HO _ hA1).mono ?_
 rintro e w2 ⟨rfl,hB⟩
 have hA2:=zad hA1 hB
 replace l0:=l0.all hB
 clear hA1 hB HO
 obtain⟨x0,x1,x2,x3,x4,x5,x6,x7,x8,x9⟩:=l0.ten
 cases ho:ob with
 | false=>
  go_wp2_with fail
  go_ret
  exact⟨by rw [hs,d1,d2,ho];rfl,hA2⟩
 | true=>
 go_wp2_with fail
 clear x0 x1 x2 x3 x4 x5 x6 x7 x8 x9
 refine (zaa HT _ hA2).mono ?_
 rintro e w3 ⟨rfl,hB⟩
 have hA3:=zad hA2 hB
 replace l0:=l0.all hB
 clear hA2 hB HT
 obtain⟨x0,x1,x2,x3,x4,x5,x6,x7,x8,x9⟩:=l0.ten
 cases ht:tb with
 | false=>
  go_wp2_with fail
  go_ret
  exact⟨by rw [hs,d1,d2,ho,ht];rfl,hA3⟩
 | true=>
 go_wp2_with fail
 clear x0 x1 x2 x3 x4 x5 x6 x7 x8 x9
 refine (zaa HU _ hA3).mono ?_
 rintro e w4 ⟨rfl,hB⟩
 have hA4:=zad hA3 hB
 go_wp2_with fail
 go_ret
 exact⟨by rw [hs,d1,d2,ho,ht];rfl,hA4⟩
theorem zcO (w:Xe) (u v:Xf) (a:Xa) (hu:Byt w u a) (hv:Byt w v a):Calls Tryz.prog 8 #[u,v] w fun e w'=>e=.returned (.bool true)∧Below w.heap.size w w':=by
 refine (zmt w u v a a hu hv).mono ?_
 rintro e w' ⟨rfl,h⟩
 exact⟨by simp,h⟩
set_option maxHeartbeats 1600000 in
theorem znc (w:Xe) (a b c d:Xf) (x:Xa×Xa) (ha:Byt w a x.1) (hb:Byt w b x.2) (hc:Byt w c x.1) (hd:Byt w d x.2) :
  Calls Tryz.prog 100 #[.agg #[a,b],.agg #[c,d]] w fun e w'=>e=.returned (.bool true)∧Below w.heap.size w w':=by
 obtain⟨a1,k1,rfl,_,_⟩:=ha.shape
 obtain⟨a2,k2,rfl,_,_⟩:=hb.shape
 obtain⟨a3,k3,rfl,_,_⟩:=hc.shape
 obtain⟨a4,k4,rfl,_,_⟩:=hd.shape
 have hA:Below w.heap.size w ((w.alloc (.cells #[.slice a1 x.1.length k1,.slice a2 x.2.length k2] 144)).alloc (.cells #[.slice a3 x.1.length k3,.slice a4 x.2.length k4] 144)):=((Below.refl _ _).alloc (Nat.le_refl _) _).alloc (by simp) _
 go_enter Tryz.func100,Tryz.ntmps100
 go_wp2_with fail
 refine (zcO _ _ _ x.1 (ha.keep hA) (hc.keep hA)).mono ?_
 rintro e w1 ⟨rfl,hB1⟩
 have hA1:=zad hA hB1
 have e1:=cell_later hB1 (show ((w.alloc (.cells #[.slice a1 x.1.length k1,.slice a2 x.2.length k2] 144)).alloc (.cells #[.slice a3 x.1.length k3,.slice a4 x.2.length k4] 144)).cell? ⟨w.heap.size,1,none⟩=some (.slice a2 x.2.length k2) by simp)
 have e2:=cell_later hB1 (show ((w.alloc (.cells #[.slice a1 x.1.length k1,.slice a2 x.2.length k2] 144)).alloc (.cells #[.slice a3 x.1.length k3,.slice a4 x.2.length k4] 144)).cell? ⟨w.heap.size+1,1,none⟩=some (.slice a4 x.2.length k4) by simp)
 clear hB1 hA
 go_wp2_with fail
 refine (zcO _ _ _ x.2 (hb.keep hA1) (hd.keep hA1)).mono ?_
 rintro e w2 ⟨rfl,hB2⟩
 have hA2:=zad hA1 hB2
 clear hB2 hA1 e1 e2
 go_wp2
 go_ret
 exact⟨rfl,hA2⟩
set_option maxHeartbeats 1600000 in
theorem zlK (w:Xe) (u v:Xf) (l:List (Xa×Xa)) (hu:RdAttrs w u l) (hv:RdAttrs w v l) :
  Calls Tryz.prog 64 #[u,v] w fun e w'=>e=.returned (.bool true)∧Below w.heap.size w w':=by
 have hm:=hu.1
 unfold maxLen at hm
 by_cases h0:l=[]
 ·obtain⟨a1,c1,rfl,_⟩:=Elems.shape hu
  obtain⟨a2,c2,rfl,_⟩:=Elems.shape hv
  subst h0
  go_enter Tryz.func64,Tryz.ntmps64
  go_wp2
  refine wp_loop_rounds 1 ?_
  rw [rounds_succ]
  go_wp2
  go_ret
  exact⟨rfl,Below.refl _ _⟩
 obtain⟨_,⟨_,e⟩ | ⟨_,_,_,_,e⟩ | ⟨b,off,cap,rfl,g1,g2,g3,g4,g5⟩⟩:=hu
 ·exact absurd e h0
 ·exact absurd e h0
 obtain⟨_,⟨_,e⟩ | ⟨_,_,_,_,e⟩ | ⟨b',off',cap',rfl,f1,f2,f3,f4,f5⟩⟩:=hv
 ·exact absurd e h0
 ·exact absurd e h0
 go_enter Tryz.func64,Tryz.ntmps64
 go_wp2
 go_loopw [5] (fun i wr=>∃k:Nat,k<=l.length∧i=.int .i64 k∧Below w.heap.size w wr) (fun i _=>l.length-(intOf i).toNat)
 case atStart=>exact⟨0,Nat.zero_le _,rfl,Below.refl _ _⟩
 case round=>
  obtain⟨k,hk,rfl,hB⟩:=hrel
  by_cases hlt:k<l.length
  ·obtain⟨C,hC,hcell,c0,c1,rfl,hc0,hc1⟩:=g5 k hlt
   obtain⟨D,hD,hdell,d0,d1,rfl,hd0,hd1⟩:=f5 k hlt
   have e0:=(hB.cell (p:=⟨b,off+k*2,none⟩) g4).trans (hcell 0 (by omega))
   have e1:=(hB.cell (p:=⟨b,off+k*2+1,none⟩) g4).trans (hcell 1 (by omega))
   have e2:=(hB.cell (p:=⟨b',off' + k*2,none⟩) f4).trans (hdell 0 (by omega))
   have e3:=(hB.cell (p:=⟨b',off' + k*2+1,none⟩) f4).trans (hdell 1 (by omega))
   simp only [List.getElem?_cons_zero,List.getElem?_cons_succ]at e0 e1 e2 e3
   have hk0:(0:Int)<=(k:Int):=by omega
   have hlt':(k:Int)<(l.length:Int):=by omega
   clear hcell hdell g5 f5 hC hD
   go_wp2
   go_region_held3 (fun w'=>w'.cell? ⟨b,off+k*2,none⟩=some c0∧w'.cell? ⟨b,off+k*2+1,none⟩=some c1∧w'.cell? ⟨b',off' + k*2,none⟩=some d0∧w'.cell? ⟨b',off' + k*2+1,none⟩=some d1) (first | exact⟨by assumption,by assumption,by assumption,by assumption⟩ | simp [*])
    ((go_at_call 100;refine (znc _ c0 c1 d0 d1 l[k] (by exact (hc0.keep hB).keep ((Below.refl _ _).drew)) (by exact (hc1.keep hB).keep ((Below.refl _ _).drew)) (by exact (hd0.keep hB).keep ((Below.refl _ _).drew)) (by exact (hd1.keep hB).keep ((Below.refl _ _).drew))).mono ?_;rintro e w2 ⟨rfl,hB2⟩;have s0:=cell_later hB2 e0;have s1:=cell_later hB2 e1;have s2:=cell_later hB2 e2;have s3:=cell_later hB2 e3))
   have hB3:=hB.trans ((Below.drew (Below.refl wr.heap.size wr)).trans hB2 |>.mono hB.size)
   clear e0 e1 e2 e3 s0 s1 s2 s3 hB2
   go_wp2
   go_roundw
   case rel=>exact⟨k+1,by omega,by go_num,hB3⟩
   case measure=>simp [intOf];omega
  ·clear g5 f5
   go_wp2
   go_ret
   exact⟨rfl,hB⟩
def zdV (n:Nat):Prop:=∀(w:Xe) (a b c d e a' b' c' d' e':Xf) (t:Tr n),RdNode n w [a,b,c,d,e] t->RdNode n w [a',b',c',d',e'] t->
  Calls Tryz.prog 25 #[.agg #[a,b,c,d,e],.agg #[a',b',c',d',e']] w fun e w'=>e=.returned (.bool true)∧Below w.heap.size w w'
set_option maxHeartbeats 3200000 in
theorem zlt (n:Nat) (H:zdV n) (w:Xe) (u v:Xf) (l:List (Tr n)) (hu:RdKids n w u l) (hv:RdKids n w v l) :
  Calls Tryz.prog 65 #[u,v] w fun e w'=>e=.returned (.bool true)∧Below w.heap.size w w':=by
 have hm:=hu.1
 unfold maxLen at hm
 by_cases h0:l=[]
 ·obtain⟨a1,c1,rfl,_⟩:=Elems.shape hu
  obtain⟨a2,c2,rfl,_⟩:=Elems.shape hv
  subst h0
  go_enter Tryz.func65,Tryz.ntmps65
  go_wp2_with fail
  refine wp_loop_rounds 1 ?_
  rw [rounds_succ]
  go_wp2_with fail
  go_ret
  exact⟨rfl,Below.refl _ _⟩
 obtain⟨_,⟨_,e⟩ | ⟨_,_,_,_,e⟩ | ⟨b,off,cap,rfl,g1,g2,g3,g4,g5⟩⟩:=hu
 ·exact absurd e h0
 ·exact absurd e h0
 obtain⟨_,⟨_,e⟩ | ⟨_,_,_,_,e⟩ | ⟨b',off',cap',rfl,f1,f2,f3,f4,f5⟩⟩:=hv
 ·exact absurd e h0
 ·exact absurd e h0
 go_enter Tryz.func65,Tryz.ntmps65
 go_wp2_with fail
 go_loopw [5] (fun i wr=>∃k:Nat,k<=l.length∧i=.int .i64 k∧Below w.heap.size w wr) (fun i _=>l.length-(intOf i).toNat)
 case atStart=>exact⟨0,Nat.zero_le _,rfl,Below.refl _ _⟩
 case round=>
  obtain⟨k,hk,rfl,hB⟩:=hrel
  by_cases hlt:k<l.length
  ·obtain⟨c0,c1,c2,c3,c4,e0,e1,e2,e3,e4,hc⟩:=zej (g5 k hlt)
   obtain⟨d0,d1,d2,d3,d4,i0,i1,i2,i3,i4,hd⟩:=zej (f5 k hlt)
   replace e0:=(hB.cell (p:=⟨b,off+k*5,none⟩) g4).trans e0
   replace e1:=(hB.cell (p:=⟨b,off+k*5+1,none⟩) g4).trans e1
   replace e2:=(hB.cell (p:=⟨b,off+k*5+2,none⟩) g4).trans e2
   replace e3:=(hB.cell (p:=⟨b,off+k*5+3,none⟩) g4).trans e3
   replace e4:=(hB.cell (p:=⟨b,off+k*5+4,none⟩) g4).trans e4
   replace i0:=(hB.cell (p:=⟨b',off' + k*5,none⟩) f4).trans i0
   replace i1:=(hB.cell (p:=⟨b',off' + k*5+1,none⟩) f4).trans i1
   replace i2:=(hB.cell (p:=⟨b',off' + k*5+2,none⟩) f4).trans i2
   replace i3:=(hB.cell (p:=⟨b',off' + k*5+3,none⟩) f4).trans i3
   replace i4:=(hB.cell (p:=⟨b',off' + k*5+4,none⟩) f4).trans i4
   have hk0:(0:Int)<=(k:Int):=by omega
   have hlt':(k:Int)<(l.length:Int):=by omega
   clear g5 f5
   go_wp2_with fail
   go_region_held3 (fun w'=>w'.cell? ⟨b,off+k*5,none⟩=some c0∧w'.cell? ⟨b,off+k*5+1,none⟩=some c1∧w'.cell? ⟨b,off+k*5+2,none⟩=some c2∧w'.cell? ⟨b,off+k*5+3,none⟩=some c3∧w'.cell? ⟨b,off+k*5+4,none⟩=some c4∧w'.cell? ⟨b',off' + k*5,none⟩=some d0∧w'.cell? ⟨b',off' + k*5+1,none⟩=some d1∧w'.cell? ⟨b',off' + k*5+2,none⟩=some d2∧w'.cell? ⟨b',off' + k*5+3,none⟩=some d3∧w'.cell? ⟨b',off' + k*5+4,none⟩=some d4) (first | exact⟨by assumption,by assumption,by assumption,by assumption,by assumption,by assumption,by assumption,by assumption,by assumption,by assumption⟩ | simp [*])
    ((go_at_call 25;refine (H _ c0 c1 c2 c3 c4 d0 d1 d2 d3 d4 l[k] (by exact (hc.keep hB).keep ((Below.refl _ _).drew)) (by exact (hd.keep hB).keep ((Below.refl _ _).drew))).mono ?_;rintro e w2 ⟨rfl,hB2⟩;have s0:=cell_later hB2 e0;have s1:=cell_later hB2 e1;have s2:=cell_later hB2 e2;have s3:=cell_later hB2 e3;have s4:=cell_later hB2 e4;have r0:=cell_later hB2 i0;have r1:=cell_later hB2 i1;have r2:=cell_later hB2 i2;have r3:=cell_later hB2 i3;have r4:=cell_later hB2 i4))
   have hB3:=hB.trans ((Below.drew (Below.refl wr.heap.size wr)).trans hB2 |>.mono hB.size)
   clear e0 e1 e2 e3 e4 i0 i1 i2 i3 i4 s0 s1 s2 s3 s4 r0 r1 r2 r3 r4 hB2 hc hd
   go_wp2_with fail
   go_roundw
   case rel=>exact⟨k+1,by omega,by go_num,hB3⟩
   case measure=>simp [intOf];omega
  ·clear g5 f5
   go_wp2_with fail
   go_ret
   exact⟨rfl,hB⟩
set_option maxHeartbeats 3200000 in
theorem zlz (n:Nat) (H:zdV n):zdV (n+1):=by
 intro w a b c d e a' b' c' d' e' t hr hr'
 obtain⟨_,_,_,_,e0,k1,k2,hb,hc,hd,he⟩:=hr
 obtain⟨_,_,_,_,e1,_,_,hb',hc',hd',he'⟩:=hr'
 simp only [List.cons.injEq,and_true]at e0 e1
 obtain⟨rfl,rfl,rfl,rfl,rfl⟩:=e0
 obtain⟨rfl,rfl,rfl,rfl,rfl⟩:=e1
 obtain⟨ab,cb,rfl,_,_⟩:=hb.shape
 obtain⟨ac,cc,rfl,_,_⟩:=hc.shape
 obtain⟨ad,cd,rfl,_,_⟩:=Elems.shape hd
 obtain⟨ae,ce,rfl,_,_⟩:=Elems.shape he
 obtain⟨ab',cb',rfl,_,_⟩:=hb'.shape
 obtain⟨ac',cc',rfl,_,_⟩:=hc'.shape
 obtain⟨ad',cd',rfl,_,_⟩:=Elems.shape hd'
 obtain⟨ae',ce',rfl,_,_⟩:=Elems.shape he'
 generalize hO:(Obj.cells #[.int .i64 t.kind,.slice ab t.name.length cb,.slice ac t.text.length cc,.slice ad t.attrs.length cd,.slice ae t.kids.length ce] 37)=O
 generalize hO':(Obj.cells #[.int .i64 t.kind,.slice ab' t.name.length cb',.slice ac' t.text.length cc',.slice ad' t.attrs.length cd',.slice ae' t.kids.length ce'] 37)=O'
 have hA:Below w.heap.size w ((w.alloc O).alloc O'):=((Below.refl _ _).alloc (Nat.le_refl _) _).alloc (by simp) _
 have p2:((w.alloc O).alloc O').cell? ⟨w.heap.size,2,none⟩=some (.slice ac t.text.length cc):=by rw [<-hO,<-hO'];simp
 have q2:((w.alloc O).alloc O').cell? ⟨w.heap.size+1,2,none⟩=some (.slice ac' t.text.length cc'):=by rw [<-hO,<-hO'];simp
 have p3:((w.alloc O).alloc O').cell? ⟨w.heap.size,3,none⟩=some (.slice ad t.attrs.length cd):=by rw [<-hO,<-hO'];simp
 have q3:((w.alloc O).alloc O').cell? ⟨w.heap.size+1,3,none⟩=some (.slice ad' t.attrs.length cd'):=by rw [<-hO,<-hO'];simp
 have p4:((w.alloc O).alloc O').cell? ⟨w.heap.size,4,none⟩=some (.slice ae t.kids.length ce):=by rw [<-hO,<-hO'];simp
 have q4:((w.alloc O).alloc O').cell? ⟨w.heap.size+1,4,none⟩=some (.slice ae' t.kids.length ce'):=by rw [<-hO,<-hO'];simp
 have P:=hide (And.intro p2 (And.intro q2 (And.intro p3 (And.intro q3 (And.intro p4 q4)))))
 clear p2 q2 p3 q3 p4 q4
 subst hO hO'
 have HA:=hide hA
 clear hA
 have hkk:(t.kind != t.kind)=false:=by simp
 go_enter Tryz.func25,Tryz.ntmps25
 go_wp2_with fail
 refine (zcO _ _ _ t.name (hb.keep (zaa HA)) (hb'.keep (zaa HA))).mono ?_
 rintro e w1 ⟨rfl,hB1⟩
 have hA1:=zad (zaa HA) hB1
 have p2:=cell_later hB1 (zaa P).1
 have q2:=cell_later hB1 (zaa P).2.1
 have p3:=cell_later hB1 (zaa P).2.2.1
 have q3:=cell_later hB1 (zaa P).2.2.2.1
 have p4:=cell_later hB1 (zaa P).2.2.2.2.1
 have q4:=cell_later hB1 (zaa P).2.2.2.2.2
 clear hB1 P HA
 go_wp2_with fail
 refine (zcO _ _ _ t.text (hc.keep hA1) (hc'.keep hA1)).mono ?_
 rintro e w2 ⟨rfl,hB2⟩
 have hA2:=zad hA1 hB2
 replace p3:=cell_later hB2 p3
 replace q3:=cell_later hB2 q3
 replace p4:=cell_later hB2 p4
 replace q4:=cell_later hB2 q4
 clear hB2 hA1 p2 q2
 go_wp2_with fail
 refine (zlK _ _ _ t.attrs (hd.keep hA2) (hd'.keep hA2)).mono ?_
 rintro e w3 ⟨rfl,hB3⟩
 have hA3:=zad hA2 hB3
 replace p4:=cell_later hB3 p4
 replace q4:=cell_later hB3 q4
 clear hB3 hA2 p3 q3
 go_wp2_with fail
 refine (zlt n H _ _ _ t.kids (RdKids.keep he hA3) (RdKids.keep he' hA3)).mono ?_
 rintro e w4 ⟨rfl,hB4⟩
 have hA4:=zad hA3 hB4
 clear hB4 hA3 p4 q4
 go_wp2_with fail
 go_ret
 exact⟨rfl,hA4⟩
theorem znH (n:Nat):zdV n:=by
 induction n with
 | zero=>exact fun _ _ _ _ _ _ _ _ _ _ _ t=>t.elim
 | succ n ih=>exact zlz n ih
def zdX (n:Nat):Prop:=∀(w:Xe) (a b c d e:Xf) (t:Tr n),RdNode n w [a,b,c,d,e] t->szT n t<=2097152->
  Calls Tryz.prog 18 #[.agg #[a,b,c,d,e]] w fun e w'=>∃(kd:Int) (a1:Xc) (n1 c1:Nat) (a2:Xc) (n2 c2:Nat) (a3:Xc) (n3 c3:Nat) (a4:Xc) (n4 c4:Nat),
   e=.returned (.agg #[.int .i64 kd,.slice a1 n1 c1,.slice a2 n2 c2,.slice a3 n3 c3,.slice a4 n4 c4])∧∃F,OwNode n w' [.int .i64 kd,.slice a1 n1 c1,.slice a2 n2 c2,.slice a3 n3 c3,.slice a4 n4 c4] t F∧F.Nodup∧Rng F w.heap.size w'.heap.size∧Below w.heap.size w w'
set_option maxHeartbeats 3200000 in
theorem zlk (n:Nat) (H:zdX n) (w:Xe) (v:Xf) (l:List (Tr n)) (h:RdKids n w v l) (hs:szK n l<=2097152) :
  Calls Tryz.prog 44 #[v] w fun e w'=>∃a c,e=.returned (.slice a l.length c)∧∃F,OwKids n w' (.slice a l.length c) l F∧F.Nodup∧Rng F w.heap.size w'.heap.size∧Below w.heap.size w w':=by
 obtain⟨i0,hi,hz0,hz1,hz2⟩:=info_parts Tryz.info37
 have hm:=h.1
 have hlen:l.length<=2097152:=by unfold szK at hs;omega
 by_cases h0:l=[]
 ·obtain⟨a,cap,rfl,_⟩:=Elems.shape h
  subst h0
  go_enter Tryz.func44,Tryz.ntmps44
  go_wp2_with (at_make;refine wpList_make_full _ rfl _ _ 35 rfl w.heap.size 37 i0 _ 5 Tryz.underlying35 hi hz0 hz1 .i64 .i64 _ _ 0 rfl rfl rfl rfl ?c1 ?c2 ?c3 ?_)
  case c1=>rw [hz2];omega
  case c2=>exact Nat.zero_le _
  case c3=>exact Nat.le_refl _
  intro w1 hown hgrow
  have hB1:=Below.ofGrown hgrow
  have hH:=(Half.start (α:=Tr n) (l:=[]) (R:=OwNode n w1) (w.heap.size+1) (zbn hown 0 (Nat.zero_le _))).whole rfl (by omega)
  have HH:=hide hH
  clear hown hgrow hH
  go_wp2_with fail
  refine wp_loop_rounds 1 ?_
  rw [rounds_succ]
  go_wp2_with fail
  go_ret
  obtain⟨F,hF,hnd,hr⟩:=zaa HH
  exact⟨_,_,rfl,F,hF,hnd,hr,hB1⟩
 obtain⟨_,⟨_,e⟩ | ⟨_,_,_,_,e⟩ | ⟨b,off,cap,rfl,g1,g2,g3,g4,g5⟩⟩:=h
 ·exact absurd e h0
 ·exact absurd e h0
 go_enter Tryz.func44,Tryz.ntmps44
 go_wp2_with (at_make;refine wpList_make_full _ rfl _ _ 35 rfl w.heap.size 37 i0 _ 5 Tryz.underlying35 hi hz0 hz1 .i64 .i64 _ _ l.length rfl rfl rfl rfl ?c1 ?c2 ?c3 ?_)
 case c1=>rw [hz2];omega
 case c2=>exact hm
 case c3=>exact Nat.le_refl _
 intro w1 hown hgrow
 have hB1:=Below.ofGrown hgrow
 have hH:=Half.start (α:=Tr n) (l:=l) (R:=OwNode n w1) (w.heap.size+1) (zbn hown 0 (Nat.zero_le _))
 have hlt1:=(hown.lt w.heap.size rfl).2
 clear hown hgrow
 go_wp2_with fail
 go_loopw [4] (fun i wr=>∃k:Nat,k<=l.length∧i=.int .i64 k∧Half wr 37 5 w.heap.size l.length l (OwNode n wr) (w.heap.size+1) k∧Below w.heap.size w wr∧w.heap.size+1<=wr.heap.size) (fun i _=>l.length-(intOf i).toNat)
 case atStart=>exact⟨0,Nat.zero_le _,rfl,hH,hB1,by omega⟩
 case round=>
  obtain⟨k,hk,rfl,hr,hB,hsz⟩:=hrel
  clear hH hB1 hlt1
  by_cases hlt:k<l.length
  ·obtain⟨c0,c1,c2,c3,c4,e0,e1,e2,e3,e4,hc⟩:=zej (g5 k hlt)
   replace e0:=(hB.cell (p:=⟨b,off+k*5,none⟩) g4).trans e0
   replace e1:=(hB.cell (p:=⟨b,off+k*5+1,none⟩) g4).trans e1
   replace e2:=(hB.cell (p:=⟨b,off+k*5+2,none⟩) g4).trans e2
   replace e3:=(hB.cell (p:=⟨b,off+k*5+3,none⟩) g4).trans e3
   replace e4:=(hB.cell (p:=⟨b,off+k*5+4,none⟩) g4).trans e4
   have hlt':(k:Int)<(l.length:Int):=by omega
   clear g5
   go_wp2_with fail
   refine (H wr _ _ _ _ _ l[k] (hc.keep hB) (by have:=zsf hlt;omega)).mono ?_
   rintro e w2 ⟨kd,a1,n1,k1,a2,n2,k2,a3,n3,k3,a4,n4,k4,rfl,G,hO,hnd,hrg,hB2⟩
   have hrow:∃xs:Xd,w2.ownsRow 0 37 5 (.slice (some ⟨w.heap.size,0,none⟩) l.length l.length) l.length xs:=by
    obtain⟨_,_,xs,_,_,_,h4,_⟩:=hr.laid
    exact⟨xs,zap h4 (Frm.ofBelow hB2 []) (fun _ _=>by simp)⟩
   obtain⟨xs,hx⟩:=hrow
   have hxl:=hx.1
   have hcell:∀j,j<5->∃y,w2.cell? ⟨w.heap.size,k*5+j,none⟩=some y:=fun j hj=>⟨xs[k*5+j]'(by omega),by rw [hx.cellAt (k*5+j) (by omega),List.getElem?_eq_getElem (by omega)]⟩
   obtain⟨y0,q0⟩:=hcell 0 (by omega)
   obtain⟨y1,q1⟩:=hcell 1 (by omega)
   obtain⟨y2,q2⟩:=hcell 2 (by omega)
   obtain⟨y3,q3⟩:=hcell 3 (by omega)
   obtain⟨y4,q4⟩:=hcell 4 (by omega)
   rw [Nat.add_zero]at q0
   have f0:=hx.frozenAt (k*5)
   have f1:=hx.frozenAt (k*5+1)
   have f2:=hx.frozenAt (k*5+2)
   have f3:=hx.frozenAt (k*5+3)
   have f4:=hx.frozenAt (k*5+4)
   obtain⟨W,hW⟩:∃W,W=((((w2.setCell ⟨w.heap.size,k*5,none⟩ (.int .i64 kd)).setCell ⟨w.heap.size,k*5+1,none⟩ (.slice a1 n1 k1)).setCell ⟨w.heap.size,k*5+2,none⟩ (.slice a2 n2 k2)).setCell ⟨w.heap.size,k*5+3,none⟩ (.slice a3 n3 k3)).setCell ⟨w.heap.size,k*5+4,none⟩ (.slice a4 n4 k4):=⟨_,rfl⟩
   have hf:Frm w2 W [w.heap.size]:=by rw [hW];exact ((((zab w2 _ _ _).trans (zab _ _ _ _)).trans (zab _ _ _ _)).trans (zab _ _ _ _)).trans (zab _ _ _ _)
   have hstep:Half W 37 5 w.heap.size l.length l (OwNode n W) (w.heap.size+1) (k+1):=by
    refine hr.step hlt (by omega) hsz hB2 [.int .i64 kd,.slice a1 n1 k1,.slice a2 n2 k2,.slice a3 n3 k3,.slice a4 n4 k4] G rfl ?_ hnd hrg ?_ hf ?_
    ·exact hO.frm hf (fun g hg=>by have:=hrg g hg;simp;omega)
    ·intro C x G' hx' hne
     exact OwNode.frm hx' ((Frm.ofBelow hB2 [w.heap.size]).trans hf) (fun g hg=>by have:=hne g hg;simp;omega)
    ·intro zs hz
     have hzl:=hz.1
     have t1:=(hz.stored (k*5) (.int .i64 kd)).1
     have t2:=(t1.stored (k*5+1) (.slice a1 n1 k1)).1
     have t3:=(t2.stored (k*5+2) (.slice a2 n2 k2)).1
     have t4:=(t3.stored (k*5+3) (.slice a3 n3 k3)).1
     have t5:=(t4.stored (k*5+4) (.slice a4 n4 k4)).1
     rw [hW]
     exact⟨_,t5,znR zs (k*5) _ _ _ _ _ (by omega)⟩
   have HB0:=hB.trans ((hB2.mono hB.size).trans (hf.below (by have:=hB2.size;have:=hB.size;omega) (fun g hg=>by simp at hg;omega)))
   have hs2:w.heap.size+1<=W.heap.size:=by have:=hf.size;have:=hB2.size;omega
   subst hW
   have HS:=hide hstep
   have HB:=hide HB0
   have HS2:=hide hs2
   clear hstep hf hx hO hr hB2 hB HB0 hs2 e0 e1 e2 e3 e4 hc hrg hnd hcell
   go_wp2_with fail
   go_roundw
   case rel=>exact⟨k+1,by omega,by go_num,zaa HS,zaa HB,zaa HS2⟩
   case measure=>simp [intOf];omega
  ·have e:k=l.length:=by omega
   subst e
   have HW:=hide (hr.whole rfl (by omega))
   clear hr g5
   go_wp2_with fail
   go_ret
   obtain⟨F,hF,hnd,hrg⟩:=zaa HW
   exact⟨_,_,rfl,F,hF,hnd,hrg,hB⟩
theorem zre (w:Xe) (A Z Y:Array Xf) (TA T:Xg):Loc (((w.alloc (.cells A TA)).alloc (.cells Z T)).alloc (.cells Y T)) w.heap.size A TA∧Loc (((w.alloc (.cells A TA)).alloc (.cells Z T)).alloc (.cells Y T)) (w.heap.size+1) Z T∧
  Loc (((w.alloc (.cells A TA)).alloc (.cells Z T)).alloc (.cells Y T)) (w.heap.size+1+1) Y T∧Below w.heap.size w (((w.alloc (.cells A TA)).alloc (.cells Z T)).alloc (.cells Y T))∧(((w.alloc (.cells A TA)).alloc (.cells Z T)).alloc (.cells Y T)).heap.size=w.heap.size+3:=by
 have l0:=((Loc.made w A TA).alloc (.cells Z T)).alloc (.cells Y T)
 have l1:=(Loc.made (w.alloc (.cells A TA)) Z T).alloc (.cells Y T)
 have l2:=Loc.made ((w.alloc (.cells A TA)).alloc (.cells Z T)) Y T
 simp only [World.size_alloc]at l1 l2
 exact⟨l0,l1,l2,(((Below.refl _ _).alloc (Nat.le_refl _) _).alloc (by simp) _).alloc (by simp;omega) _,by simp⟩
theorem Loc3.store {w:Xe} {S:Nat} {A Z Y:Array Xf} {TA T:Xg} (h0:Loc w S A TA) (h1:Loc w (S+1) Z T) (h2:Loc w (S+1+1) Y T) (j:Nat) (v:Xf) :
  Loc (w.setCell ⟨S+1+1,j,none⟩ v) S A TA∧Loc (w.setCell ⟨S+1+1,j,none⟩ v) (S+1) Z T∧Loc (w.setCell ⟨S+1+1,j,none⟩ v) (S+1+1) (Y.setIfInBounds j v) T:=
 ⟨h0.other _ _ _ (by omega),h1.other _ _ _ (by omega),h2.set j v⟩
set_option maxHeartbeats 3200000 in
theorem zlo (n:Nat) (H:zdX n):zdX (n+1):=by
 intro w a b c d e t hr hs
 obtain⟨_,_,_,_,e0,k1,k2,hb,hc,hd,he⟩:=hr
 simp only [List.cons.injEq,and_true]at e0
 obtain⟨rfl,rfl,rfl,rfl,rfl⟩:=e0
 obtain⟨ab,cb,rfl,_,_⟩:=hb.shape
 obtain⟨ac,cc,rfl,_,_⟩:=hc.shape
 obtain⟨ad,cd,rfl,_,_⟩:=Elems.shape hd
 obtain⟨ae,ce,rfl,_,_⟩:=Elems.shape he
 have hz:t.name.length+t.text.length+szA t.attrs+szK n t.kids<=2097152:=hs
 clear hs
 go_enter Tryz.func18,Tryz.ntmps18
 go_wp2_with fail
 obtain⟨l0,l1,l2,hA,hWs⟩:=zre w #[.int .i64 t.kind,.slice ab t.name.length cb,.slice ac t.text.length cc,.slice ad t.attrs.length cd,.slice ae t.kids.length ce] #[.int .i64 0,.slice none 0 0,.slice none 0 0,.slice none 0 0,.slice none 0 0] #[.int .i64 t.kind,.slice none 0 0,.slice none 0 0,.slice none 0 0,.slice none 0 0] 26 37
 generalize hW:(((w.alloc (.cells #[.int .i64 t.kind,.slice ab t.name.length cb,.slice ac t.text.length cc,.slice ad t.attrs.length cd,.slice ae t.kids.length ce] 26)).alloc (.cells #[.int .i64 0,.slice none 0 0,.slice none 0 0,.slice none 0 0,.slice none 0 0] 37)).alloc (.cells #[.int .i64 t.kind,.slice none 0 0,.slice none 0 0,.slice none 0 0,.slice none 0 0] 37))=W at *
 have HWs:=hide hWs
 clear hW hWs
 refine (zee W _ t.name (hb.keep hA) (by omega)).mono ?_
 rintro e w1 ⟨v1,rfl,ho1,_,hB1⟩
 obtain⟨a1,c1,hv1,_,_⟩:=ho1.byt.shape
 subst hv1
 have r1:=ho1.rng
 have hA1:=zad hA hB1
 replace l0:=l0.all hB1
 replace l1:=l1.all hB1
 replace l2:=l2.all hB1
 have p:=l0.cell 2
 have q:=l2.cell 1
 have f:=l2.frozen 1
 simp at p q
 have s1:=hB1.size
 have M:=hide (And.intro (Loc3.store l0 l1 l2 1 (.slice a1 t.name.length c1)) (And.intro (ho1.frm (zab w1 (w.heap.size+1+1) 1 (.slice a1 t.name.length c1)) (fun g hg=>by have:=r1 g hg;have:=zaa HWs;simp;omega)) (hA1.setCell (p:=⟨w.heap.size+1+1,1,none⟩) (by simp;omega) (.slice a1 t.name.length c1))))
 clear l0 l1 l2 ho1 hA hA1 hB1
 go_wp2_with fail
 obtain⟨⟨l0,l1,l2⟩,ho1,hA1⟩:=zaa M
 clear M
 refine (zee _ _ t.text (hc.keep hA1) (by omega)).mono ?_
 rintro e w2 ⟨v2,rfl,ho2,_,hB2⟩
 obtain⟨a2,c2,hv2,_,_⟩:=ho2.byt.shape
 subst hv2
 have r2:=ho2.rng
 have hA2:=zad hA1 hB2
 replace l0:=l0.all hB2
 replace l1:=l1.all hB2
 replace l2:=l2.all hB2
 replace ho1:=ho1.keep hB2
 have s2:=hB2.size
 simp only [World.size_setCell]at s2 r2 ho2
 replace p:=l0.cell 3
 replace q:=l2.cell 2
 replace f:=l2.frozen 2
 simp at p q
 have M:=hide (And.intro (Loc3.store l0 l1 l2 2 (.slice a2 t.text.length c2)) (And.intro (And.intro (ho1.frm (zab w2 (w.heap.size+1+1) 2 (.slice a2 t.text.length c2)) (fun g hg=>by have:=r1 g hg;have:=zaa HWs;simp;omega)) (ho2.frm (zab w2 (w.heap.size+1+1) 2 (.slice a2 t.text.length c2)) (fun g hg=>by have:=r2 g hg;have:=zaa HWs;simp;omega))) (hA2.setCell (p:=⟨w.heap.size+1+1,2,none⟩) (by simp;omega) (.slice a2 t.text.length c2))))
 clear l0 l1 l2 ho1 ho2 hA1 hA2 hB2
 go_wp2_with fail
 obtain⟨⟨l0,l1,l2⟩,⟨ho1,ho2⟩,hA2⟩:=zaa M
 clear M
 refine (zlm _ _ t.attrs (hd.keep hA2) (by omega)).mono ?_
 rintro e w3 ⟨a3,c3,rfl,F3,ho3,nd3,r3,hB3⟩
 have hA3:=zad hA2 hB3
 replace l0:=l0.all hB3
 replace l1:=l1.all hB3
 replace l2:=l2.all hB3
 replace ho1:=ho1.keep hB3
 replace ho2:=ho2.keep hB3
 have s3:=hB3.size
 simp only [World.size_setCell]at s3 r3
 replace p:=l0.cell 4
 replace q:=l2.cell 3
 replace f:=l2.frozen 3
 simp at p q
 have M:=hide (And.intro (Loc3.store l0 l1 l2 3 (.slice a3 t.attrs.length c3)) (And.intro (And.intro (ho1.frm (zab w3 (w.heap.size+1+1) 3 (.slice a3 t.attrs.length c3)) (fun g hg=>by have:=r1 g hg;have:=zaa HWs;simp;omega)) (And.intro (ho2.frm (zab w3 (w.heap.size+1+1) 3 (.slice a3 t.attrs.length c3)) (fun g hg=>by have:=r2 g hg;have:=zaa HWs;simp;omega)) (ho3.frm (zab w3 (w.heap.size+1+1) 3 (.slice a3 t.attrs.length c3)) (fun g hg=>by have:=r3 g hg;have:=zaa HWs;simp;omega)))) (hA3.setCell (p:=⟨w.heap.size+1+1,3,none⟩) (by simp;omega) (.slice a3 t.attrs.length c3))))
 clear l0 l1 l2 ho1 ho2 ho3 hA2 hA3 hB3
 go_wp2_with fail
 obtain⟨⟨l0,l1,l2⟩,⟨ho1,ho2,ho3⟩,hA3⟩:=zaa M
 clear M
 refine (zlk n H _ _ t.kids (RdKids.keep he hA3) (by omega)).mono ?_
 rintro e w4 ⟨a4,c4,rfl,F4,ho4,nd4,r4,hB4⟩
 have hA4:=zad hA3 hB4
 replace l0:=l0.all hB4
 replace l1:=l1.all hB4
 replace l2:=l2.all hB4
 replace ho1:=ho1.keep hB4
 replace ho2:=ho2.keep hB4
 replace ho3:=ho3.frm (Frm.ofBelow hB4 []) (fun _ _=>by simp)
 have s4:=hB4.size
 simp only [World.size_setCell]at s4 r4
 have g0:=l1.cell 0
 have g1:=l1.cell 1
 have g2:=l1.cell 2
 have g3:=l1.cell 3
 have g4:=l1.cell 4
 have b0:=l1.frozen 0
 have b1:=l1.frozen 1
 have b2:=l1.frozen 2
 have b3:=l1.frozen 3
 have b4:=l1.frozen 4
 have d0:=l2.cell 0
 have d1:=l2.cell 1
 have d2:=l2.cell 2
 have d3:=l2.cell 3
 have d4:=l2.cell 4
 have i4:=l2.frozen 4
 simp at g0 g1 g2 g3 g4 d0 d1 d2 d3 d4
 have hsz:=zaa HWs
 obtain⟨X,hX⟩:∃X,X=(((((w4.setCell ⟨w.heap.size+1+1,4,none⟩ (.slice a4 t.kids.length c4)).setCell ⟨w.heap.size+1,0,none⟩ (.int .i64 t.kind)).setCell ⟨w.heap.size+1,1,none⟩ (.slice a1 t.name.length c1)).setCell ⟨w.heap.size+1,2,none⟩ (.slice a2 t.text.length c2)).setCell ⟨w.heap.size+1,3,none⟩ (.slice a3 t.attrs.length c3)).setCell ⟨w.heap.size+1,4,none⟩ (.slice a4 t.kids.length c4):=⟨_,rfl⟩
 have hf:Frm w4 X [w.heap.size+1+1,w.heap.size+1]:=by
  rw [hX]
  exact ((((((zab w4 _ _ _).mono (by simp)).trans ((zab _ _ _ _).mono (by simp))).trans ((zab _ _ _ _).mono (by simp))).trans ((zab _ _ _ _).mono (by simp))).trans ((zab _ _ _ _).mono (by simp))).trans ((zab _ _ _ _).mono (by simp))
 have fin:OwNode (n+1) X [.int .i64 t.kind,.slice a1 t.name.length c1,.slice a2 t.text.length c2,.slice a3 t.attrs.length c3,.slice a4 t.kids.length c4] t (FB (.slice a1 t.name.length c1)++FB (.slice a2 t.text.length c2)++F3++F4):=
  ⟨_,_,_,_,F3,F4,rfl,k1,k2,(ho1.frm hf (fun g hg=>by have:=r1 g hg;simp;omega)).mono (Nat.zero_le _),(ho2.frm hf (fun g hg=>by have:=r2 g hg;simp;omega)).mono (Nat.zero_le _),
   ho3.frm hf (fun g hg=>by have:=r3 g hg;simp;omega),OwKids.frm ho4 hf (fun g hg=>by have:=r4 g hg;simp;omega),rfl⟩
 have nd:(FB (.slice a1 t.name.length c1)++FB (.slice a2 t.text.length c2)++F3++F4).Nodup:=
  zbR (zbR (zbR (zaF _) (zaF _) r1 r2) nd3 ((r1.mono (Nat.le_refl _) (by omega)).app (r2.mono (by omega) (Nat.le_refl _))) r3) nd4 (((r1.mono (Nat.le_refl _) (by omega)).app (r2.mono (by omega) (by omega))).app (r3.mono (by omega) (Nat.le_refl _))) r4
 have rg:Rng (FB (.slice a1 t.name.length c1)++FB (.slice a2 t.text.length c2)++F3++F4) w.heap.size X.heap.size:=by
  have:=hf.size
  exact (((r1.mono (by omega) (by omega)).app (r2.mono (by omega) (by omega))).app (r3.mono (by omega) (by omega))).app (r4.mono (by omega) (by omega))
 have bel:=hA4.trans (hf.below hA4.size (fun g hg=>by simp at hg;omega))
 subst hX
 have HP:=hide (And.intro fin (And.intro nd (And.intro rg bel)))
 clear fin nd rg bel hf l0 l1 l2 ho1 ho2 ho3 ho4 hA3 hA4 hB4 r1 r2 r3 r4 nd3 nd4 hsz
 go_wp2_with fail
 obtain⟨fin,nd,rg,bel⟩:=zaa HP
 exact bodyPost_ret (v:=.agg #[.int .i64 t.kind,.slice a1 t.name.length c1,.slice a2 t.text.length c2,.slice a3 t.attrs.length c3,.slice a4 t.kids.length c4]) (by simp [results,Tryz.results18,go_sem,g0,g1,g2,g3,g4]) rfl ⟨t.kind,a1,_,c1,a2,_,c2,a3,_,c3,a4,_,c4,rfl,_,fin,nd,rg,bel⟩
theorem znu (n:Nat):zdX n:=by
 induction n with
 | zero=>exact fun _ _ _ _ _ _ t=>t.elim
 | succ n ih=>exact zlo n ih
theorem zkR {α:Type} (f g:α->Nat) (H:∀x,f x<=g x):∀l:List α,cntL f l<=l.length+(l.map g).sum
 | []=>by simp [cntL]
 | x::l=>by
  have h1:=zkR f g H l
  have h2:=H x
  simp only [cntL,List.map_cons,List.length_cons,List.sum_cons]
  omega
theorem zki:∀l:List (Xa×Xa),cntA l<=szA l
 | []=>by simp [cntA,szA]
 | x::l=>by
  have h1:=zki l
  unfold szA at h1 ⊢
  simp only [cntA,List.map_cons,List.length_cons,List.sum_cons]
  omega
theorem zlO:∀(n:Nat) (t:Tr n),cntT n t<=szT n t
 | 0,t=>t.elim
 | n+1,t=>by
  have h1:=zki t.attrs
  have h2:=zkR (cntT n) (szT n) (zlO n) t.kids
  have h4:szT (n+1) t=t.name.length+t.text.length+szA t.attrs+(t.kids.length+(t.kids.map (szT n)).sum):=rfl
  rw [zgf,h4]
  omega
def zhj (n:Nat) (t:Tr (n+1)):Xa:=if okN n t=true then mkup (n+1) t else []
def zox:Prop:=∀(n:Nat) (w:Xe) (a b c d e:Xf) (t:Tr (n+1)) (F:Xb),OwNode (n+1) w [a,b,c,d,e] t F->szT (n+1) t<=2097152->
  Calls Tryz.prog 24 #[.agg #[a,b,c,d,e]] w fun e w'=>∃v,e=.returned v∧Own w' w.heap.size v (zhj n t)∧Below w.heap.size w w'
set_option maxHeartbeats 3200000 in
theorem zlH:zox:=by
 intro n w a b c d e t F ho hsz
 have h:=ho.rd
 have hlen:(mkup (n+1) t).length<=100000000:=by have:=zhx (n+1) t;omega
 clear ho
 have hB1:Below w.heap.size w (w.alloc (.cells #[a,b,c,d,e] 37)):=(Below.refl _ _).alloc (Nat.le_refl _) _
 have l1:=Loc.made w #[a,b,c,d,e] 37
 have c1:=zgh n _ a b c d e t (h.keep hB1) hsz
 obtain⟨z,ab,nb,cb,ac,nc,cc,ad,nd,cd,ae,ne,ce,rfl,rfl,rfl,rfl,rfl⟩:=zlX h
 obtain⟨x0,x1,x2,x3,x4⟩:=l1.five
 unfold zhj
 by_cases hk:okN n t=true
 ·rw [hk]at c1
  simp only [hk,if_true]
  clear hk
  go_enter Tryz.func24,Tryz.ntmps24
  go_wp2_with fail
  refine c1.mono ?_
  rintro e w1 ⟨rfl,hb⟩
  have hb':=hB1.trans (hb.mono hB1.size)
  have l2:=l1.all hb
  have hB2:Below w1.heap.size w1 (w1.alloc (.cells (ws0 (.slice none 0 0)) 127)):=(Below.refl _ _).alloc (Nat.le_refl _) _
  have g2:=Loc.made w1 (ws0 (.slice none 0 0)) 127
  have hb2:=zad hb' hB2
  have l3:=l2.all hB2
  obtain⟨y0,y1,y2,y3,y4⟩:=l3.five
  have hwr:Wr w.heap.size (w1.alloc (.cells (ws0 (.slice none 0 0)) 127)) w1.heap.size []:=⟨.slice none 0 0,⟨zbL,World.ownsRow_nil _ _ _ _⟩,.inl g2⟩
  have HP:=hide (zjO (n+1) w _ w.heap.size w1.heap.size [] _ _ _ _ _ t h hb2 (Nat.le_refl _) hb'.size hb2.size hwr (by simpa using hlen))
  clear x0 x1 x2 x3 x4 hwr g2 l1 l2 hlen
  unfold ws0 at *
  go_wp2_with fail
  refine (zaa HP).mono ?_
  clear HP
  rintro e w3 ⟨rfl,⟨o,ho3,hs3⟩,F3⟩
  rw [List.nil_append]at ho3
  obtain⟨cs,_,_,c0,_⟩:=hs3.loc
  have hb3:=hb2.trans (FrpW.toBelow F3 hb2.size (Nat.le_refl _) hb'.size)
  obtain⟨a2,c2,hv2,_,_⟩:=ho3.byt.shape
  subst hv2
  go_wp2_with fail
  go_ret
  exact⟨_,rfl,ho3,hb3⟩
 ·have hk':okN n t=false:=by simpa using hk
  rw [hk']at c1
  simp only [hk',Bool.false_eq_true,if_false]
  clear hk hk'
  go_enter Tryz.func24,Tryz.ntmps24
  go_wp2_with fail
  refine c1.mono ?_
  rintro e w1 ⟨rfl,hb⟩
  have hb':=hB1.trans (hb.mono hB1.size)
  go_wp2_with fail
  go_ret
  exact⟨_,rfl,⟨zbL,World.ownsRow_nil _ _ _ _⟩,hb'⟩
set_option maxHeartbeats 3200000 in
theorem zjt (w:Xe) (sb:Nat) (a:Xc) (c:Nat) (l:List PlV) (F:Xb) (h:StR w sb a c l F) (hu:(l.map PlV.id).Nodup) (hl:l.length<=100000) (h2:2<=l.length) (hK:∀p∈l,-9223372036854775808<=p.kind∧p.kind<=9223372036854775807) :
  Calls Tryz.prog 41 #[.pointer (some ⟨sb,0,none⟩)] w fun e w'=>∃(kd:Int) (a1:Xc) (n1 c1:Nat) (a2:Xc) (n2 c2:Nat) (a3:Xc) (n3 c3:Nat) (a4:Xc) (n4 c4:Nat),e=.returned (.agg #[.int .i64 kd,.slice a1 n1 c1,.slice a2 n2 c2,.slice a3 n3 c3,.slice a4 n4 c4])∧RdNode 20 w' [.int .i64 kd,.slice a1 n1 c1,.slice a2 n2 c2,.slice a3 n3 c3,.slice a4 n4 c4] (prj l 19 0 120).1∧Below w.heap.size w w':=by
 refine zaf ?_
 intro Q HQ
 have lr:=(Loc.made w #[.int .i64 0,.slice none 0 0,.slice none 0 0,.slice none 0 0,.slice none 0 0] 37).alloc (.cells #[.int .i64 120] 3)
 have lb:=Loc.made (w.alloc (.cells #[.int .i64 0,.slice none 0 0,.slice none 0 0,.slice none 0 0,.slice none 0 0] 37)) #[.int .i64 120] 3
 have hA:Below w.heap.size w ((w.alloc (.cells #[.int .i64 0,.slice none 0 0,.slice none 0 0,.slice none 0 0,.slice none 0 0] 37)).alloc (.cells #[.int .i64 120] 3)):=((Below.refl _ _).alloc (Nat.le_refl _) _).alloc (by simp) _
 simp only [World.size_alloc]at lb
 have HC:=hide (zhR 19 w _ sb a c l F 0 120 1 (w.heap.size+1) h hA (by omega) lb hu hl hK (by omega) (by omega) (by omega) (by decide) (by omega))
 have HX:=hide (And.intro lr hA)
 clear lr lb hA h hu hK
 go_enter Tryz.func41,Tryz.ntmps41
 go_wp2_with fail
 refine (zaa HC).mono ?_
 rintro e w2 ⟨kd,a1,n1,c1,a2,n2,c2,a3,n3,c3,a4,n4,c4,rfl,G,hG,-,rG,-,hf⟩
 obtain⟨lr,hA⟩:=zaa HX
 have lr2:=lr.frm hf (by simp)
 have hA2:=hA.trans (hf.below hA.size (fun q hq=>by simp at hq;omega))
 have hrd:=hG.rd hA2
 obtain⟨z0,z1,z2,z3,z4⟩:=lr2.five
 have i0_:=lr2.frozen 0
 have i1_:=lr2.frozen 1
 have i2_:=lr2.frozen 2
 have i3_:=lr2.frozen 3
 have i4_:=lr2.frozen 4
 obtain⟨lX,fX⟩:=zbB lr2 (.int .i64 kd) (.slice a1 n1 c1) (.slice a2 n2 c2) (.slice a3 n3 c3) (.slice a4 n4 c4)
 have hGX:=hG.frm fX (fun q hq=>by have:=(rG q hq).1;simp at this ⊢;omega)
 have hAX:=hA2.trans (fX.below hA2.size (fun q hq=>by simp at hq;omega))
 have HE:=hide (zaa HQ _ _ ⟨kd,a1,n1,c1,a2,n2,c2,a3,n3,c3,a4,n4,c4,rfl,hGX.rd hAX,hAX⟩)
 clear lX fX hGX hAX hrd lr2 hA2 hf rG hG lr hA HX HC HQ
 go_wp2_with fail
 exact bodyPost_ret (v:=.agg #[.int .i64 kd,.slice a1 n1 c1,.slice a2 n2 c2,.slice a3 n3 c3,.slice a4 n4 c4]) (by simp [results,Tryz.results41,go_sem,z0,z1,z2,z3,z4]) rfl (zaa HE)
theorem zqp (w:Xe) (v:Xf) (l:Xa) (h:Byt w v l):Calls Tryz.prog 36 #[v] w fun e w'=>e=.returned (.bool (zaj l))∧w'=w:=by
 cases hv:zaj l with
 | true=>exact zdJ w v l h ((zaS l).1 hv)
 | false=>exact zfu w v l h (fun hh=>by rw [(zaS l).2 hh]at hv;cases hv)
set_option maxHeartbeats 20000000 in
theorem zqn (n:Nat) (w:Xe) (a b c d e vo vu:Xf) (r:RepV n) (h:RdRep n w a b c d e vo vu r) :
  Calls Tryz.prog 16 #[zaQ r a b c d e vo vu] w fun e w'=>e=.returned (.bool (repB r))∧Below w.heap.size w w':=by
 obtain⟨z,ab,nb,cb,ac,nc,cc,ad,nd,cd,ae,ne,ce,rfl,rfl,rfl,rfl,rfl⟩:=rd5 h.1
 obtain⟨ao,co,rfl,_,_⟩:=Elems.shape h.2.1
 obtain⟨au,cu,rfl,_,_⟩:=Elems.shape h.2.2
 have HN:=hide (fun W (hW:Below w.heap.size w W)=>zps n W _ _ _ _ _ r.first (h.1.keep hW))
 have HV:=hide (fun W (hW:Below w.heap.size w W)=>(show Calls Tryz.prog 36 #[.slice ab nb cb] W fun e w'=>e=.returned (.bool (zaj r.first.name))∧w'=W from by
  have hnm:Byt w (.slice ab nb cb) r.first.name:=by
   obtain⟨_,_,_,_,e0,_,_,hb,_⟩:=h.1
   simp only [List.cons.injEq,and_true]at e0
   obtain⟨_,rfl,_⟩:=e0
   exact hb
  exact zqp W _ _ (hnm.keep hW)))
 have HO:=hide (fun W (hW:Below w.heap.size w W)=>zpU W _ r.ops (h.2.1.keep hW))
 have hmo:=h.2.1.1
 have hmu:=h.2.2.1
 unfold maxLen at hmo hmu
 have HAT:=hide (fun W (hW:Below w.heap.size w W) j (hj:j<r.ops.length)=>(show ∃b off cap,(Value.slice ao r.ops.length co)=.slice (some ⟨b,off,none⟩) r.ops.length cap∧b<W.heap.size∧W.cell? ⟨b,off+j*12+1,none⟩=some (.int .i64 r.ops[j].atN) by
  rcases h.2.1.cases with ⟨e,_⟩ | ⟨b,off,cap,e,_,g4,g5⟩
  ·rw [e]at hj;simp at hj
  ·obtain⟨_,_,_,_,_,_,_,e1,_⟩:=zcy hW g4 (g5 j hj)
   exact⟨b,off,cap,e,Nat.lt_of_lt_of_le g4 hW.size,e1⟩))
 have HAU:=hide (fun W (hW:Below w.heap.size w W) (hp:0<r.und.length)=>(show ∃b off cap,(Value.slice au r.und.length cu)=.slice (some ⟨b,off,none⟩) r.und.length cap∧b<W.heap.size∧∀j (hj:j<r.und.length),W.cell? ⟨b,off+j*2,none⟩=some (.int .i64 r.und[j].1)∧W.cell? ⟨b,off+j*2+1,none⟩=some (.int .i64 r.und[j].2) by
  rcases h.2.2.cases with ⟨e,_⟩ | ⟨b,off,cap,e,_,g4,g5⟩
  ·rw [e]at hp;simp at hp
  ·exact⟨b,off,cap,e,Nat.lt_of_lt_of_le g4 hW.size,fun j hj=>⟨(hW.cell (p:=⟨b,off+j*2,none⟩) g4).trans (g5 j hj).1,(hW.cell (p:=⟨b,off+j*2+1,none⟩) g4).trans (g5 j hj).2⟩⟩))
 unfold zaQ
 have HRB:=hide (show ∀res,res=repB r->(res=(decide (0<=r.id) && decide (r.id<8) && (okN n r.first && !zaj r.first.name) && decide (0<=r.clock) && decide (r.clock<=1000000) && opsB r.ops && zcr r.ops r.clock && undB r.und r.id r.clock)) from fun res e=>e)
 obtain⟨res,hres⟩:∃res,res=repB r:=⟨_,rfl⟩
 rw [<-hres]
 replace HRB:=hide (zaa HRB res hres)
 clear hres
 have HG1:=hide (fun hh=>zgo (l:=r.ops) (c:=r.clock) hh)
 have HN1:=hide (fun k hk hh=>zhf (l:=r.ops) (c:=r.clock) (k:=k) hk hh)
 have HLG:=hide (fun hh=>ziv (l:=r.und) (id:=r.id) (clk:=r.clock) hh)
 have HG2:=hide (fun hn hh=>ziF (l:=r.und) (id:=r.id) (clk:=r.clock) hn hh)
 have HN2:=hide (fun k hk hh=>zkl (l:=r.und) (id:=r.id) (clk:=r.clock) (k:=k) hk hh)
 have HE:=hide (fun k hk=>zkg (l:=r.und) (id:=r.id) (clk:=r.clock) (k:=k) hk)
 generalize okN n r.first=nb' at *
 generalize zaj r.first.name=vb at *
 generalize opsB r.ops=ob at *
 generalize zcr r.ops r.clock=tb at *
 generalize undB r.und r.id r.clock=ub at *
 generalize hol:r.ops=l at *
 generalize hul:r.und=m at *
 clear hol hul h
 have hA:=(Below.refl w.heap.size w).alloc (Nat.le_refl _) (.cells #[.int .i64 r.id,.int .i64 r.clock,.int .i64 z,.slice ab nb cb,.slice ac nc cc,.slice ad nd cd,.slice ae ne ce,.slice ao l.length co,.slice au m.length cu,.bool r.lost] 41)
 have l0:=Loc.made w #[.int .i64 r.id,.int .i64 r.clock,.int .i64 z,.slice ab nb cb,.slice ac nc cc,.slice ad nd cd,.slice ae ne ce,.slice ao l.length co,.slice au m.length cu,.bool r.lost] 41
 by_cases q1:0<=r.id
 case neg=>
  have p1:r.id<0:=by omega
  have HF:=hide (show res=false by rw [zaa HRB,decide_eq_false q1];rfl)
  go_enter Tryz.func16,Tryz.ntmps16
  go_wp2_with fail
  go_ret
  exact⟨by rw [zaa HF];rfl,hA⟩
 have p1:¬ r.id<0:=by omega
 by_cases q2:r.id<8
 case neg=>
  have p2:8<=r.id:=by omega
  have HF:=hide (show res=false by rw [zaa HRB,decide_eq_false q2,Bool.and_false];rfl)
  go_enter Tryz.func16,Tryz.ntmps16
  go_wp2_with fail
  go_ret
  exact⟨by rw [zaa HF];rfl,hA⟩
 have p2:¬ 8<=r.id:=by omega
 by_cases q3:0<=r.clock
 case neg=>
  have p3:r.clock<0:=by omega
  have HF:=hide (show res=false by rw [zaa HRB,decide_eq_false q3,Bool.and_false];rfl)
  go_enter Tryz.func16,Tryz.ntmps16
  go_wp2_with fail
  go_ret
  exact⟨by rw [zaa HF];rfl,hA⟩
 have p3:¬ r.clock<0:=by omega
 by_cases q4:r.clock<=1000000
 case neg=>
  have p4:1000000<r.clock:=by omega
  have HF:=hide (show res=false by rw [zaa HRB,decide_eq_false q4,Bool.and_false];rfl)
  go_enter Tryz.func16,Tryz.ntmps16
  go_wp2_with fail
  go_ret
  exact⟨by rw [zaa HF];rfl,hA⟩
 have p4:¬ 1000000<r.clock:=by omega
 rw [decide_eq_true q1,decide_eq_true q2,decide_eq_true q3,decide_eq_true q4,Bool.and_self,Bool.true_and,Bool.and_true,Bool.and_true]at HRB
 go_enter Tryz.func16,Tryz.ntmps16
 go_wp2_with fail
 generalize (w.alloc (.cells #[.int .i64 r.id,.int .i64 r.clock,.int .i64 z,.slice ab nb cb,.slice ac nc cc,.slice ad nd cd,.slice ae ne ce,.slice ao l.length co,.slice au m.length cu,.bool r.lost] 41))=wa at *
 refine (zaa HN _ hA).mono ?_
 rintro e w1 ⟨rfl,hB⟩
 have hA1:=zad hA hB
 replace l0:=l0.all hB
 clear hA hB HN
 obtain⟨x0,x1,x2,x3,x4,x5,x6,x7,x8,x9⟩:=l0.ten
 cases hs:nb' with
 | false=>
  have HF:=hide (show res=false by rw [zaa HRB,hs];rfl)
  go_wp2_with fail
  go_ret
  exact⟨by rw [zaa HF];rfl,hA1⟩
 | true=>
 rw [hs,Bool.true_and]at HRB
 go_wp2_with fail
 refine (zaa HV _ hA1).mono ?_
 rintro e w1 ⟨rfl,rfl⟩
 cases hv:vb with
 | true=>
  have HF:=hide (show res=false by rw [zaa HRB,hv];rfl)
  go_wp2_with fail
  go_ret
  exact⟨by rw [zaa HF];rfl,hA1⟩
 | false=>
 rw [hv,Bool.not_false,Bool.true_and]at HRB
 go_wp2_with fail
 clear x0 x1 x2 x3 x4 x5 x6 x7 x8 x9
 refine (zaa HO _ hA1).mono ?_
 rintro e w2 ⟨rfl,hB⟩
 have hA2:=zad hA1 hB
 replace l0:=l0.all hB
 clear hA1 hB HO
 obtain⟨x0,x1,x2,x3,x4,x5,x6,x7,x8,x9⟩:=l0.ten
 cases ho:ob with
 | false=>
  have HF:=hide (show res=false by rw [zaa HRB,ho];rfl)
  go_wp2_with fail
  go_ret
  exact⟨by rw [zaa HF];rfl,hA2⟩
 | true=>
 rw [ho,Bool.true_and]at HRB
 by_cases hlong:150<m.length
 case pos=>
  have hd:(150:Int)<(m.length:Int):=by omega
  have HF:=hide (show res=false by rw [zaa HRB,zaa HLG hlong,Bool.and_false])
  go_wp2_with fail
  go_ret
  exact⟨by rw [zaa HF];rfl,hA2⟩
 have hd:¬ (150:Int)<(m.length:Int):=by omega
 go_wp2_with fail
 clear x0 x1 x2 x3 x4 x5 x6 x7 x8 x9
 have hSl:w.heap.size<w2.heap.size:=l0.lt
 go_loopw [3] (fun i wr=>∃k:Nat,k<=l.length∧i=.int .i64 k∧(∀j (hj:j<l.length),j<k->l[j].atN<=r.clock)∧Below w2.heap.size w2 wr) (fun i _=>l.length-(intOf i).toNat)
 case atStart=>exact⟨0,Nat.zero_le _,rfl,fun j _ hj=>by omega,Below.refl _ _⟩
 case round=>
  obtain⟨k,hk,rfl,hok,hB⟩:=hrel
  have hAB:=zad hA2 hB
  obtain⟨x0,x1,_,_,_,_,_,x7,x8,_⟩:=(l0.all hB).ten
  by_cases hlt:k<l.length
  ·obtain⟨pb,poff,pcap,epv,hpl,e1⟩:=zaa HAT wr hAB k hlt
   cases epv
   have hlt':(k:Int)<(l.length:Int):=by omega
   have hk0:(0:Int)<=(k:Int):=by omega
   have hSr:w.heap.size<wr.heap.size:=Nat.lt_of_lt_of_le hSl hB.size
   have hNE:Nonempty (Gr wr):=⟨⟨wr,Below.refl _ _⟩⟩
   have HJ:=hide (fun (hh:l[k].atN<=r.clock) j (hj:j<l.length) (hjk:j<k+1)=>(show l[j].atN<=r.clock by rcases Nat.lt_succ_iff_lt_or_eq.1 hjk with h1 | rfl;exact hok j hj h1;exact hh))
   have HNK:=hide (fun (hh:r.clock<l[k].atN)=>(show res=false by rw [zaa HRB,zaa HN1 k hlt hh];rfl))
   generalize l[k].atN=oN at *
   clear HAT HAU HG1 HN1 HLG HG2 HN2 HE HRB hok
   go_wp2_with fail
   replace x1:=Gr.cell hSr x1
   replace x7:=Gr.cell hSr x7
   replace e1:=Gr.cell hpl e1
   by_cases hq:r.clock<oN
   ·have HF:=hide (zaa HNK hq)
    clear HNK HJ
    refine zaD (by kernel_rfl) (by kernel_rfl) ?_
    repeat (go_big_quiet_step (fail))
    refine wpQuiet_nil ?_
    rintro _ ⟨p,rfl⟩
    have hB3:=zad hAB p.h
    clear x0 x1 x7 x8 e1
    go_wp2_with fail
    go_ret
    exact⟨by rw [zaa HF];rfl,hB3⟩
   ·have HJ':=hide (zaa HJ (by omega))
    clear HNK HJ
    refine zaD (by kernel_rfl) (by kernel_rfl) ?_
    repeat (go_big_quiet_step (fail))
    refine wpQuiet_nil ?_
    rintro _ ⟨p,rfl⟩
    have hB3:=zad hB p.h
    clear x0 x1 x7 x8 e1
    go_wp2_with fail
    go_roundw
    case rel=>exact⟨k+1,by omega,by go_num,zaa HJ',hB3⟩
    case measure=>simp [intOf];omega
  ·have htb:=zaa HG1 (fun j hj=>hok j hj (by omega))
   rw [htb,Bool.true_and]at HRB
   have e:k=l.length:=by omega
   subst e
   replace l0:=l0.all hB
   clear HAT HG1 HN1 HLG hok htb hSl hA2 hB hlt hk
   go_wp2_with fail
   clear x0 x1 x7 x8
   generalize wr=wq at *
   have hSl:w.heap.size<wq.heap.size:=l0.lt
   go_loopw [4] (fun i wr=>∃k:Nat,k<=m.length∧i=.int .i64 k∧(∀j,j<k->zcm m r.id r.clock j=true)∧Below wq.heap.size wq wr) (fun i _=>m.length-(intOf i).toNat)
   case atStart=>exact⟨0,Nat.zero_le _,rfl,fun j hj=>by omega,Below.refl _ _⟩
   case round=>
    obtain⟨k,hk,rfl,hok,hB⟩:=hrel
    have hABv:=zad hAB hB
    obtain⟨x0,x1,_,_,_,_,_,x7,x8,_⟩:=(l0.all hB).ten
    by_cases hlt:k<m.length
    ·obtain⟨pb,poff,pcap,epv,hpl,hel⟩:=zaa HAU wr hABv (by omega)
     cases epv
     obtain⟨e0,e1⟩:=hel k hlt
     have hlt':(k:Int)<(m.length:Int):=by omega
     have hk0:(0:Int)<=(k:Int):=by omega
     have hSr:w.heap.size<wr.heap.size:=Nat.lt_of_lt_of_le hSl hB.size
     have hNE:Nonempty (Gr wr):=⟨⟨wr,Below.refl _ _⟩⟩
     have HE':=hide (zaa HE k hlt)
     have HJ:=hide (fun (hh:zcm m r.id r.clock k=true) j (hj:j<k+1)=>(show zcm m r.id r.clock j=true by rcases Nat.lt_succ_iff_lt_or_eq.1 hj with h1 | rfl;exact hok j h1;exact hh))
     have HNK:=hide (fun (hh:zcm m r.id r.clock k=false)=>(show res=false by rw [zaa HRB,zaa HN2 k hlt hh]))
     have HP:=hide (fun j (ej:k=j+1)=>(show ∃q:Int×Int,m[k-1]'(by omega)=q∧wr.cell? ⟨pb,poff+j*2,none⟩=some (.int .i64 q.1)∧wr.cell? ⟨pb,poff+j*2+1,none⟩=some (.int .i64 q.2) by
      obtain⟨p0,p1⟩:=hel j (by omega)
      exact⟨m[j],by subst ej;rfl,p0,p1⟩))
     generalize zcm m r.id r.clock k=okk at *
     generalize hoo:m[k]=o at *
     clear hoo hel HAU HG2 HN2 HE HRB hok
     go_wp2_with fail
     replace x0:=Gr.cell hSr x0
     replace x1:=Gr.cell hSr x1
     replace x8:=Gr.cell hSr x8
     replace e0:=Gr.cell hpl e0
     replace e1:=Gr.cell hpl e1
     by_cases hq:o.2=r.id∧1<=o.1∧o.1<=r.clock
     case neg=>
      have HF:=hide (zaa HNK (by
       rw [zaa HE']
       have:(decide (o.2=r.id) && decide (1<=o.1) && decide (o.1<=r.clock))=false:=by
        rw [Bool.and_eq_false_iff,Bool.and_eq_false_iff]
        simp only [decide_eq_false_iff_not]
        omega
       rw [this,Bool.false_and]))
      clear HE' HJ HNK HP
      by_cases q1:o.2=r.id
      ·by_cases q2:1<=o.1
       ·have q3:r.clock<o.1:=by omega
        have d1:(o.2 != r.id)=false:=by simpa using q1
        have d2:¬ o.1<1:=by omega
        clear q1 hq
        refine zaD (by kernel_rfl) (by kernel_rfl) ?_
        repeat (go_big_quiet_step (fail))
        refine wpQuiet_nil ?_
        rintro _ ⟨p,rfl⟩
        have hB3:=zad hABv p.h
        clear x0 x1 x7 x8 e0 e1
        go_wp2_with fail
        go_ret
        exact⟨by rw [zaa HF];rfl,hB3⟩
       ·have q2':o.1<1:=by omega
        have d1:(o.2 != r.id)=false:=by simpa using q1
        clear q1 hq
        refine zaD (by kernel_rfl) (by kernel_rfl) ?_
        repeat (go_big_quiet_step (fail))
        refine wpQuiet_nil ?_
        rintro _ ⟨p,rfl⟩
        have hB3:=zad hABv p.h
        clear x0 x1 x7 x8 e0 e1
        go_wp2_with fail
        go_ret
        exact⟨by rw [zaa HF];rfl,hB3⟩
      ·have d1:(o.2 != r.id)=true:=by simpa using q1
       clear hq
       refine zaD (by kernel_rfl) (by kernel_rfl) ?_
       repeat (go_big_quiet_step (fail))
       refine wpQuiet_nil ?_
       rintro _ ⟨p,rfl⟩
       have hB3:=zad hABv p.h
       clear x0 x1 x7 x8 e0 e1
       go_wp2_with fail
       go_ret
       exact⟨by rw [zaa HF];rfl,hB3⟩
     obtain⟨q1,q2,q3⟩:=hq
     have HE2:okk=(decide (k=0) || zan (m[k-1]'(by omega)).1 (m[k-1]'(by omega)).2 o.1 o.2):=by
      rw [zaa HE',decide_eq_true q1,decide_eq_true q2,decide_eq_true q3];rfl
     have d1:(o.2 != r.id)=false:=by simpa using q1
     have d2:¬ o.1<1:=by omega
     have d3:¬ r.clock<o.1:=by omega
     clear q1 HE'
     rcases Nat.eq_zero_or_pos k with hz | hpos
     ·have HY:=hide (zaa HJ (by rw [HE2,decide_eq_true hz];rfl))
      have dz3:¬ 0<k:=by omega
      have dz4:decide (0<k)=false:=by simp;omega
      clear HP HE2 HJ HNK hz
      refine zaD (by kernel_rfl) (by kernel_rfl) ?_
      repeat (go_big_quiet_step (fail))
      refine wpQuiet_nil ?_
      rintro _ ⟨p,rfl⟩
      have hB3:=zad hB p.h
      clear x0 x1 x7 x8 e0 e1
      go_wp2_with fail
      go_roundw
      case rel=>exact⟨k+1,by omega,by go_num,zaa HY,hB3⟩
      case measure=>simp [intOf];omega
     ·obtain⟨j,ej⟩:∃j,k=j+1:=⟨k-1,by omega⟩
      have dz3:0<k:=hpos
      have dz4:decide (0<k)=true:=by simp;omega
      have hj1:(k:Int)-1=(j:Int):=by omega
      have hj0:(0:Int)<=(j:Int):=by omega
      have hjl:(j:Int)<(m.length:Int):=by omega
      obtain⟨q,eq,i1,i2⟩:=zaa HP j ej
      have HE3:okk=zan q.1 q.2 o.1 o.2:=by rw [HE2,eq,decide_eq_false (by omega),Bool.false_or]
      replace i1:=Gr.cell hpl i1
      replace i2:=Gr.cell hpl i2
      have HLL:=hide (fun W=>zfE W q.1 q.2 o.1 o.2)
      clear HE2 HP eq hpos
      generalize zan q.1 q.2 o.1 o.2=lb at *
      subst HE3
      clear ej
      refine zaD (by kernel_rfl) (by kernel_rfl) ?_
      repeat (go_big_quiet_step ((rename_i p;exact zbV (zaa HLL _))))
      refine wpQuiet_nil ?_
      rintro _ ⟨p,rfl⟩
      have hB3:=zad hB p.h
      have hB4:=zad hABv p.h
      clear x0 x1 x7 x8 e0 e1 i1 i2
      cases okk with
      | true=>
       go_wp2_with fail
       go_roundw
       case rel=>exact⟨k+1,by omega,by go_num,zaa HJ rfl,hB3⟩
       case measure=>simp [intOf];omega
      | false=>
       have HF:=hide (zaa HNK rfl)
       clear HNK
       go_wp2_with fail
       go_ret
       exact⟨by rw [zaa HF];rfl,hB4⟩
    ·have HY:=hide (show res=true by rw [zaa HRB,zaa HG2 (by omega) (fun j hj=>hok j (by omega))])
     clear HAU
     go_wp2_with fail
     go_ret
     exact⟨by rw [zaa HY];rfl,hABv⟩
theorem zeN {n:Nat} {w:Xe} {a b c d e:Xf} {t:Tr (n+1)} (h:RdNode (n+1) w [a,b,c,d,e] t):∃p1 q1 p2 q2 p3 q3 p4 q4,a=.int .i64 t.kind∧b=.slice p1 t.name.length q1∧c=.slice p2 t.text.length q2∧d=.slice p3 t.attrs.length q3∧e=.slice p4 t.kids.length q4:=by
 obtain⟨_,_,_,_,e0,k1,k2,hb,hc,hd,he⟩:=h
 simp only [List.cons.injEq,and_true]at e0
 obtain⟨rfl,rfl,rfl,rfl,rfl⟩:=e0
 obtain⟨ab,cb,rfl,_,_⟩:=hb.shape
 obtain⟨ac,cc,rfl,_,_⟩:=hc.shape
 obtain⟨ad,cd,rfl,_,_⟩:=Elems.shape hd
 obtain⟨ae,ce,rfl,_,_⟩:=Elems.shape he
 exact⟨_,_,_,_,_,_,_,_,rfl,rfl,rfl,rfl,rfl⟩
set_option maxHeartbeats 6400000 in
theorem zoL (n:Nat) (w:Xe) (a b c d e vo vu:Xf) (r:RepV n) (h:RdRep n w a b c d e vo vu r) (hb:repB r=true) :
  Calls Tryz.prog 17 #[zaQ r a b c d e vo vu] w fun e w'=>∃v,e=.returned v∧Own w' w.heap.size v (mkup 20 (docT r.first r.ops))∧Below w.heap.size w w':=by
 refine zaf ?_
 intro Q HQ
 obtain⟨h1,h2,h3⟩:=h
 obtain⟨p1,q1,p2,q2,p3,q3,p4,q4,rfl,rfl,rfl,rfl,rfl⟩:=zeN h1
 obtain⟨p5,q5,rfl,_,_⟩:=Elems.shape h2
 obtain⟨p6,q6,rfl,_,_⟩:=Elems.shape h3
 have hst:=zep hb
 have hlen:=zmo hb
 obtain⟨hn,hv,ho⟩:=zgd hb
 have hkinds:=fun p hp=>(zkv hst p hp).1
 have hFr:=(zhX hst).1
 have hl272:=(zhX hst).2
 have ha4:r.first.attrs.length<=4:=by
  obtain⟨_,ho2⟩:=Bool.and_eq_true_iff.1 (show (decide (r.first.kind=0) && (okT (n+1) 1 r.first 120).1)=true from hn)
  exact (zcz ho2).1
 obtain⟨s1,s2⟩:=zlQ hn [⟨0,0,0,0,[],0,r.first.name,[],r.first.attrs⟩,zaP] (fun p hp=>by simp at hp;rcases hp with rfl | rfl;exact ha4;simp [zaP])
 simp only [List.length_cons,List.length_nil]at s1
 have hol:=(zdb ho).1
 generalize hte:r.first=t at *
 generalize hoe:r.ops=ops at *
 generalize hue:r.und.length=nu at *
 have hA:=(Below.refl w.heap.size w).alloc (Nat.le_refl _) (.cells #[.int .i64 r.id,.int .i64 r.clock,.int .i64 t.kind,.slice p1 t.name.length q1,.slice p2 t.text.length q2,.slice p3 t.attrs.length q3,.slice p4 t.kids.length q4,.slice p5 ops.length q5,.slice p6 nu q6,.bool r.lost] 41)
 have l0:=Loc.made w #[.int .i64 r.id,.int .i64 r.clock,.int .i64 t.kind,.slice p1 t.name.length q1,.slice p2 t.text.length q2,.slice p3 t.attrs.length q3,.slice p4 t.kids.length q4,.slice p5 ops.length q5,.slice p6 nu q6,.bool r.lost] 41
 have hb1:Byt w (.slice p1 t.name.length q1) t.name:=by obtain⟨_,_,_,_,e,_,_,h,_⟩:=h1;cases e;exact h
 have hb3:RdAttrs w (.slice p3 t.attrs.length q3) t.attrs:=by obtain⟨_,_,_,_,e,_,_,_,_,h,_⟩:=h1;cases e;exact h
 have hb4:RdKids n w (.slice p4 t.kids.length q4) t.kids:=by obtain⟨_,_,_,_,e,_,_,_,_,_,h⟩:=h1;cases e;exact h
 have HF:=hide (zln n _ t p1 p2 p3 p4 p5 q1 q2 q3 q4 q5 ops (hb1.keep hA) (hb3.keep hA) (RdKids.keep hb4 hA) (RdOps.keep h2 hA) (by omega) (fun p hp=>by have:=s2 p hp;omega))
 obtain⟨x0,x1,x2,x3,x4,x5,x6,x7,x8,x9⟩:=l0.ten
 have HX:=hide hA
 have HY:=hide (And.intro hst (And.intro hFr (And.intro hkinds hlen)))
 unfold zaQ
 try rw [hte,hoe,hue]
 clear hA l0 h1 h2 h3 hb1 hb3 hb4 s1 s2 ha4 hn hv ho hb hst hFr hkinds hlen hol
 unfold docT at HQ
 go_enter Tryz.func17,Tryz.ntmps17
 go_wp2_with fail
 refine (zaa HF).mono ?_
 rintro e w2 ⟨a9,c9,F9,rfl,hpl,hb2⟩
 have hA:=zaa HX
 have hA2:=zad hA hb2
 have lS:=Loc.made w2 #[.slice a9 (zaK t ops).length c9] 58
 have hA3:Below w2.heap.size w2 (w2.alloc (.cells #[.slice a9 (zaK t ops).length c9] 58)):=(Below.refl _ _).alloc (Nat.le_refl _) _
 obtain⟨hst,hFr,hkinds,hlen⟩:=zaa HY
 have HP:=hide (zjt _ w2.heap.size a9 c9 (zaK t ops) F9 ⟨lS,hpl.keep hA3⟩ hFr.uniq (by omega) hFr.two hkinds)
 have HB:=hide (zad hA2 hA3)
 clear hA hA2 hA3 lS hpl hb2 HF HX HY hst hFr hkinds x0 x1 x2 x3 x4 x5 x6 x7 x8 x9
 have HL:=hide hlen
 clear hlen
 go_wp2_with fail
 refine (zaa HP).mono ?_
 rintro e w4 ⟨kd,a1,n1,c1,a2,n2,c2,a3,n3,c3,a4,n4,c4,rfl,hrd,hb4⟩
 have hA4:=zad (zaa HB) hb4
 have HM:=hide (zpp 20 w4 w4 w4.heap.size _ [] _ _ _ _ _ _ hrd (Below.refl _ _) (Nat.le_refl _) (Nat.le_refl _) ⟨zbL,World.ownsRow_nil _ _ _ _⟩ (by have:=zaa HL;unfold docT at this;simp;omega))
 have HA4:=hide hA4
 clear hrd hb4 hA4 HP HB
 generalize (prj (zaK t ops) 19 0 120).1=tt at *
 go_wp2_with fail
 refine (zaa HM).mono ?_
 rintro e w5 ⟨v5,rfl,ho5,F5⟩
 rw [List.nil_append]at ho5
 obtain⟨a5,c5,hv5,_,_⟩:=ho5.byt.shape
 subst hv5
 have hA4:=zaa HA4
 have HE:=hide (zaa HQ _ w5 ⟨_,rfl,ho5.mono hA4.size,hA4.trans ((F5.toBelow (Nat.le_refl _)).mono hA4.size)⟩)
 clear ho5 F5 hA4 HM
 go_wp2_with fail
 exact zaa HE
set_option maxHeartbeats 3200000 in
theorem zqC (n:Nat) (w:Xe) (a b c d e vo vu:Xf) (r:RepV n) (h:RdRep n w a b c d e vo vu r) :
  Calls Tryz.prog 5 #[zaQ r a b c d e vo vu] w fun e w'=>∃v,e=.returned (.tuple #[v,.bool (repB r)])∧Own w' w.heap.size v (docV r)∧Below w.heap.size w w':=by
 refine zaf ?_
 intro Q HQ
 have hrep:=h
 obtain⟨h1,h2,h3⟩:=h
 obtain⟨p1,q1,p2,q2,p3,q3,p4,q4,rfl,rfl,rfl,rfl,rfl⟩:=zeN h1
 obtain⟨p5,q5,rfl,_,_⟩:=Elems.shape h2
 obtain⟨p6,q6,rfl,_,_⟩:=Elems.shape h3
 have hA:=(Below.refl w.heap.size w).alloc (Nat.le_refl _) (.cells #[.int .i64 r.id,.int .i64 r.clock,.int .i64 r.first.kind,.slice p1 r.first.name.length q1,.slice p2 r.first.text.length q2,.slice p3 r.first.attrs.length q3,.slice p4 r.first.kids.length q4,.slice p5 r.ops.length q5,.slice p6 r.und.length q6,.bool r.lost] 41)
 have l0:=Loc.made w #[.int .i64 r.id,.int .i64 r.clock,.int .i64 r.first.kind,.slice p1 r.first.name.length q1,.slice p2 r.first.text.length q2,.slice p3 r.first.attrs.length q3,.slice p4 r.first.kids.length q4,.slice p5 r.ops.length q5,.slice p6 r.und.length q6,.bool r.lost] 41
 have HR:=hide (zqn n _ _ _ _ _ _ _ _ r (hrep.keep hA))
 have HD:=hide (fun (hb:repB r=true) W (hW:Below w.heap.size w W)=>zoL n W _ _ _ _ _ _ _ r (hrep.keep hW) hb)
 have HDV:=hide (show (repB r=true->docV r=mkup 20 (docT r.first r.ops))∧(repB r=false->docV r=[]) from ⟨fun h=>if_pos h,fun h=>if_neg (by rw [h];simp)⟩)
 obtain⟨x0,x1,x2,x3,x4,x5,x6,x7,x8,x9⟩:=l0.ten
 have HX:=hide (And.intro hA l0)
 unfold zaQ at *
 clear hA l0 h1 h2 h3 hrep
 generalize mkup 20 (docT r.first r.ops)=dv at *
 generalize docV r=dd at *
 generalize repB r=rb at *
 generalize r.first.kind=zk at *
 generalize r.first.name.length=z1 at *
 generalize r.first.text.length=z2 at *
 generalize r.first.attrs.length=z3 at *
 generalize r.first.kids.length=z4 at *
 generalize r.ops.length=z5 at *
 generalize r.und.length=z6 at *
 generalize r.id=z7 at *
 generalize r.clock=z8 at *
 generalize r.lost=z9 at *
 go_enter Tryz.func5,Tryz.ntmps5
 go_wp2_with fail
 clear x0 x1 x2 x3 x4 x5 x6 x7 x8 x9
 refine (zaa HR).mono ?_
 rintro e w2 ⟨rfl,hb2⟩
 obtain⟨hA,l0⟩:=zaa HX
 have hA2:=zad hA hb2
 have l2:=l0.all hb2
 clear HR HX hA l0 hb2
 cases rb with
 | false=>
  have HE:=hide (zaa HQ (.returned (.tuple #[.slice none 0 0,.bool false])) w2 ⟨_,rfl,by rw [(zaa HDV).2 (by first | rfl | trivial)];exact zfh _ _,hA2⟩)
  clear hA2 l2 HQ HD
  go_wp2_with fail
  exact zaa HE
 | true=>
  obtain⟨x0,x1,x2,x3,x4,x5,x6,x7,x8,x9⟩:=l2.ten
  have HB:=hide hA2
  clear hA2 l2
  go_wp2_with fail
  refine (zaa HD (by first | rfl | trivial) w2 (zaa HB)).mono ?_
  rintro e w3 ⟨v,rfl,ho,hb3⟩
  have hA2:=zaa HB
  obtain⟨a5,c5,hv5,_,_⟩:=ho.byt.shape
  subst hv5
  have HE:=hide (zaa HQ (.returned (.tuple #[.slice a5 dv.length c5,.bool true])) w3 ⟨_,rfl,by rw [(zaa HDV).1 (by first | rfl | trivial)];exact ho.mono hA2.size,zad hA2 hb3⟩)
  clear ho hb3 hA2 HD HB x0 x1 x2 x3 x4 x5 x6 x7 x8 x9
  go_wp2_with fail
  exact zaa HE
set_option maxHeartbeats 6400000 in
theorem zpO (n:Nat) (w:Xe) (a b c d e vo vu:Xf) (r:RepV n) (h:RdRep n w a b c d e vo vu r) (hsz:szT (n+1) r.first<=2097152) (hG:Glo w) :
  Calls Tryz.prog 7 #[zaQ r a b c d e vo vu] w fun e w'=>∃v,e=.returned (.tuple #[v,.bool (repB r)])∧Own w' w.heap.size v (docV r)∧Below w.heap.size w w':=by
 refine zaf ?_
 intro Q HQ
 have hrep:=h
 obtain⟨h1,h2,h3⟩:=h
 obtain⟨p1,q1,p2,q2,p3,q3,p4,q4,rfl,rfl,rfl,rfl,rfl⟩:=zeN h1
 obtain⟨p5,q5,rfl,_,_⟩:=Elems.shape h2
 obtain⟨p6,q6,rfl,_,_⟩:=Elems.shape h3
 have hA:=(Below.refl w.heap.size w).alloc (Nat.le_refl _) (.cells #[.int .i64 r.id,.int .i64 r.clock,.int .i64 r.first.kind,.slice p1 r.first.name.length q1,.slice p2 r.first.text.length q2,.slice p3 r.first.attrs.length q3,.slice p4 r.first.kids.length q4,.slice p5 r.ops.length q5,.slice p6 r.und.length q6,.bool r.lost] 41)
 have l0:=Loc.made w #[.int .i64 r.id,.int .i64 r.clock,.int .i64 r.first.kind,.slice p1 r.first.name.length q1,.slice p2 r.first.text.length q2,.slice p3 r.first.attrs.length q3,.slice p4 r.first.kids.length q4,.slice p5 r.ops.length q5,.slice p6 r.und.length q6,.bool r.lost] 41
 have HR:=hide (zpM n _ _ _ _ _ _ _ _ r (hrep.keep hA) hsz)
 have HF:=hide (fun (hb:repB r=true) W (hW:Below w.heap.size w W)=>(show Calls Tryz.prog 22 #[.agg #[.int .i64 r.first.kind,.slice p1 r.first.name.length q1,.slice p2 r.first.text.length q2,.slice p3 r.first.attrs.length q3,.slice p4 r.first.kids.length q4],.slice p5 r.ops.length q5] W fun e w'=>FoRM W true (zaK r.first r.ops) e w' by
  obtain⟨g1,g2,g3⟩:=zgd hb
  have hB:zdx r.first r.ops=true:=by unfold zdx;rw [g1,g2,g3];rfl
  have hR:zdY r.first r.ops=zaK r.first r.ops:=by unfold zdY;rw [if_pos hB]
  have hc:=zpa n W r.first p1 p2 p3 p4 p5 q1 q2 q3 q4 q5 r.ops (h1.keep hW) (RdOps.keep h2 hW) hsz (hG.keep hW)
  rw [hB,hR]at hc
  exact hc))
 have HP:=hide (fun (hb:repB r=true) W a c F (ho:OwPlsM W (.slice a (zaK r.first r.ops).length c) (zaK r.first r.ops) F) (hW:Below w.heap.size w W)=>zrx W a c (zaK r.first r.ops) (OwPlsM.rd ho) (fun p hp=>(zkv (zep hb) p hp).1) (fun p hp=>(zkv (zep hb) p hp).2) (hG.keep hW))
 have HST:=hide (fun (hb:repB r=true)=>zep hb)
 have HMK:=hide (fun (hb:repB r=true)=>(show zhj 19 (docT r.first r.ops)=mkup 20 (docT r.first r.ops) from if_pos (zsV hb)))
 have HSZ:=hide (fun (hb:repB r=true)=>znW hb)
 have HPR:=hide (fun (hb:repB r=true)=>(show pjR (zaK r.first r.ops)=docT r.first r.ops from zgq (zep hb)))
 have HDV:=hide (show (repB r=true->docV r=mkup 20 (docT r.first r.ops))∧(repB r=false->docV r=[]) from ⟨fun h=>if_pos h,fun h=>if_neg (by rw [h];simp)⟩)
 obtain⟨x0,x1,x2,x3,x4,x5,x6,x7,x8,x9⟩:=l0.ten
 have HX:=hide (And.intro hA l0)
 unfold zaQ at *
 clear hA l0 h1 h2 h3 hrep hsz hG
 generalize docT r.first r.ops=tt at *
 generalize zaK r.first r.ops=fl at *
 generalize docV r=dd at *
 generalize repB r=rb at *
 generalize r.first.kind=zk at *
 generalize r.first.name.length=z1 at *
 generalize r.first.text.length=z2 at *
 generalize r.first.attrs.length=z3 at *
 generalize r.first.kids.length=z4 at *
 generalize r.ops.length=z5 at *
 generalize r.und.length=z6 at *
 generalize r.id=z7 at *
 generalize r.clock=z8 at *
 generalize r.lost=z9 at *
 go_enter Tryz.func7,Tryz.ntmps7
 go_wp2_with fail
 clear x0 x1 x2 x3 x4 x5 x6 x7 x8 x9
 refine (zaa HR).mono ?_
 rintro e w2 ⟨rfl,hb2⟩
 obtain⟨hA,l0⟩:=zaa HX
 have hA2:=zad hA hb2
 have l2:=l0.all hb2
 clear HR HX hA l0 hb2
 cases rb with
 | false=>
  have HE:=hide (zaa HQ (.returned (.tuple #[.slice none 0 0,.bool false])) w2 ⟨_,rfl,by rw [(zaa HDV).2 (by first | rfl | trivial)];exact zfh _ _,hA2⟩)
  clear hA2 l2 HQ
  go_wp2_with fail
  exact zaa HE
 | true=>
  obtain⟨x0,x1,x2,x3,x4,x5,x6,x7,x8,x9⟩:=l2.ten
  have HB:=hide hA2
  clear hA2 l2
  go_wp2_with fail
  refine (zaa HF (by first | rfl | trivial) w2 (zaa HB)).mono ?_
  rintro e w3 ⟨a3,c3,F3,rfl,o3,-,-,hb3⟩
  have hA3:=zad (zaa HB) hb3
  have lS:=Loc.made w3 #[.slice a3 fl.length c3] 58
  have hB4:Below w3.heap.size w3 (w3.alloc (.cells #[.slice a3 fl.length c3] 58)):=(Below.refl _ _).alloc (Nat.le_refl _) _
  have hA4:=zad hA3 hB4
  have o4:=OwPlsM.frm o3 (Frm.ofBelow hB4 []) (fun _ _=>by simp)
  have xs:=lS.cell 0
  simp only [List.getElem?_toArray,List.getElem?_cons_zero]at xs
  have HC:=hide (zaa HP (by first | rfl | trivial) _ a3 c3 F3 o4 hA4)
  have HB4:=hide hA4
  clear hA3 lS hB4 hA4 o3 o4 hb3 HF HP HB x0 x1 x2 x3 x4 x5 x6 x7 x8 x9
  go_wp2_with fail
  clear xs
  refine (zaa HC).mono ?_
  rintro e w5 ⟨kd,a1,n1,c1,a2,n2,c2,a3',n3,c3',a4,n4,c4,rfl,G,hGn,ndG,rG,hb5⟩
  rw [zaa HPR (by first | rfl | trivial)]at hGn
  rw [zaa HST (by first | rfl | trivial)]
  have hA5:=zad (zaa HB4) hb5
  have lN:=Loc.made w5 #[.int .i64 kd,.slice a1 n1 c1,.slice a2 n2 c2,.slice a3' n3 c3',.slice a4 n4 c4] 37
  have hB6:Below w5.heap.size w5 (w5.alloc (.cells #[.int .i64 kd,.slice a1 n1 c1,.slice a2 n2 c2,.slice a3' n3 c3',.slice a4 n4 c4] 37)):=(Below.refl _ _).alloc (Nat.le_refl _) _
  have hA6:=zad hA5 hB6
  have o6:=OwNode.keep hGn hB6
  obtain⟨y0,y1,y2,y3,y4⟩:=lN.five
  have HM:=hide (zlH 19 _ _ _ _ _ _ tt G o6 (Nat.le_trans (zaa HSZ (by first | rfl | trivial)) (by omega)))
  have HB6:=hide hA6
  clear hA5 lN hB6 hA6 hGn o6 ndG rG hb5 HC HB4
  go_wp2_with fail
  clear y0 y1 y2 y3 y4
  refine (zaa HM).mono ?_
  rintro e w7 ⟨v,rfl,ho,hb7⟩
  rw [zaa HMK (by first | rfl | trivial),<-(zaa HDV).1 (by first | rfl | trivial)]at ho
  have hA7:=zaa HB6
  obtain⟨a5,c5,hv5,_,_⟩:=ho.byt.shape
  subst hv5
  have HE:=hide (zaa HQ (.returned (.tuple #[.slice a5 dd.length c5,.bool true])) w7 ⟨_,rfl,ho.mono hA7.size,zad hA7 hb7⟩)
  clear ho hb7 hA7 HM HB6
  go_wp2_with fail
  exact zaa HE
def zbZ (k:Int) (n:Nat):Xa:=(List.range n).map fun i:Nat=>k+(i:Int)
theorem zgk (k:Int) (n:Nat):(zbZ k n).length=n:=by simp [zbZ]
theorem zkV (k:Int) (n:Nat) (h0:0<=k) (h1:k+(n:Int)<=9223372036854775807):okZ (zbZ k n):=fun x hx=>by
 obtain⟨i,hi,rfl⟩:=List.mem_map.1 hx
 have:=List.mem_range.1 hi
 omega
theorem znl (k:Int) (l:Xa) (j:Nat) (h:j<l.length):(valz (zbZ k j++l.drop j)).set j (.int .i64 (k+(j:Int)))=valz (zbZ k (j+1)++l.drop (j+1)):=by
 have e:zbZ k (j+1)=zbZ k j++[k+(j:Int)]:=by simp [zbZ,List.range_succ]
 have hl:(valz (zbZ k j)).length=j:=by simp [valz,zgk]
 rw [zfl,List.set_append_right _ _ (by omega),hl,Nat.sub_self,e,List.drop_eq_getElem_cons h,zfl,zfl,List.append_assoc]
 rfl
theorem zoG (w:Xe) (a:Xc) (cap:Nat) (k:Int) :
  Calls Tryz.prog 70 #[.slice a 0 cap,.int .i64 k] w fun e w'=>e=.returned (.int .i64 k)∧w'=w:=by
 go_enter Tryz.func70,Tryz.ntmps70
 go_wp2
 refine wp_loop_rounds 1 ?_
 rw [rounds_succ]
 go_wp2
 go_ret
 exact⟨rfl,rfl⟩
set_option maxHeartbeats 1600000 in
set_option maxRecDepth 1000000 in
theorem zpq (w:Xe) (base g cap:Nat) (l:Xa) (k:Int) (hw:w.ownsRow base 3 1 (.slice (some ⟨g,0,none⟩) l.length cap) l.length (valz l)) (hs:l.length<=16777216) (h0:0<=k) (h1:k<=1000000000) :
  Calls Tryz.prog 70 #[.slice (some ⟨g,0,none⟩) l.length cap,.int .i64 k] w fun e w'=>e=.returned (.int .i64 (k+l.length))∧
   w'.ownsRow base 3 1 (.slice (some ⟨g,0,none⟩) l.length cap) l.length (valz (zbZ k l.length))∧w.grownBy w' (some g):=by
 generalize hn:l.length=n at *
 have HN:=hide hn
 clear hn
 go_enter Tryz.func70,Tryz.ntmps70
 go_wp2
 go_loopw [1,5] (fun c i wr=>∃j:Nat,j<=n∧i=.int .i64 j∧c=.int .i64 (k+(j:Int))∧wr.ownsRow base 3 1 (.slice (some ⟨g,0,none⟩) n cap) n (valz (zbZ k j++l.drop j))∧w.grownBy wr (some g)) (fun _ i _=>n-(intOf i).toNat)
 case atStart=>exact⟨0,Nat.zero_le _,rfl,by simp,by simpa [zbZ]using hw,World.grownBy.refl _ _⟩
 case round=>
  obtain⟨j,hj,rfl,rfl,hr,hg⟩:=hrel
  by_cases hlt:j<n
  ·have hlen:=zaa HN
   have hjl:j<l.length:=by omega
   obtain⟨y,hy⟩:∃y,wr.cell? ⟨g,j,none⟩=some (.int .i64 y):=⟨(zbZ k j++l.drop j).getD j 0,by rw [hr.cellAt j (by omega),zeO (by simp [zgk];omega)]⟩
   have hfr:=hr.frozenAt j
   have hst:=hr.stored j (.int .i64 (k+(j:Int)))
   rw [znl k l j hjl]at hst
   have HS:=hide hst
   clear hst hr hlen
   have hlt':(j:Int)<(n:Int):=by omega
   go_wp2
   have R:=zaa HS
   go_roundw
   case rel=>exact⟨j+1,by omega,by go_num,by go_num,R.1,zhb hg R.2⟩
   case measure=>simp [intOf];omega
  ·have e:j=n:=by omega
   subst e
   have hr':wr.ownsRow base 3 1 (.slice (some ⟨g,0,none⟩) j cap) j (valz (zbZ k j)):=by
    have:=zaa HN
    rw [List.drop_of_length_le (by omega),List.append_nil]at hr
    exact hr
   clear hr
   go_wp2
   go_ret
   exact⟨rfl,hr',hg⟩
theorem zoT (w:Xe) (base:Nat) (v:Xf) (l:Xa) (k:Int) (h:OwnZ w base v l) (hs:l.length<=16777216) (h0:0<=k) (h1:k<=1000000000) :
  Calls Tryz.prog 70 #[v,.int .i64 k] w fun e w'=>e=.returned (.int .i64 (k+l.length))∧OwnZ w' base v (zbZ k l.length)∧w.grownBy w' v.ownBlock:=by
 obtain⟨hok,hlen,⟨rfl,hz⟩ | ⟨g,cap,cur,rfl,hr⟩⟩:=h
 ·have e:l=[]:=List.eq_nil_of_length_eq_zero hz
  subst e
  refine (zoG w none 0 k).mono ?_
  rintro e w' ⟨rfl,rfl⟩
  exact⟨by simp,⟨zkV _ _ h0 (by first | omega | (simp;omega)),World.ownsRow_nil _ _ _ _⟩,World.grownBy.refl _ _⟩
 ·refine (zpq w base g cap l k ⟨hlen,.inr ⟨g,cap,cur,rfl,hr⟩⟩ hs h0 h1).mono ?_
  rintro e w' ⟨rfl,ho,hg⟩
  refine⟨rfl,⟨zkV _ _ h0 (by first | omega | (simp;omega)),?_⟩,hg⟩
  rw [zgk]
  exact ho
def mkO (o:OpV) (k:Int):OpV where
 kind:=k
 atN:=k+1
 atR:=k+1+1
 nodeN:=k+1+1+1
 nodeR:=k+1+1+1+1
 parN:=k+1+1+1+1+1
 parR:=k+1+1+1+1+1+1
 key:=zbZ (k+1+1+1+1+1+1+1) o.key.length
 elem:=k+1+1+1+1+1+1+1+(o.key.length:Int)
 name:=zaX (k+1+1+1+1+1+1+1+(o.key.length:Int)+1) o.name.length
 text:=zaX (k+1+1+1+1+1+1+1+(o.key.length:Int)+1+(o.name.length:Int)) o.text.length
 gone:=((k+1+1+1+1+1+1+1+(o.key.length:Int)+1+(o.name.length:Int)+(o.text.length:Int)) % 3 == 0)
def zaN:List OpV->Nat
 | []=>0
 | x::r=>9+szO x+zaN r
def mkOs:List OpV->Int->List OpV
 | [],_=>[]
 | x::r,k=>mkO x k::mkOs r (k+((9+szO x:Nat):Int))
theorem zch:∀(l:List OpV) (k:Int),(mkOs l k).length=l.length
 | [],_=>rfl
 | x::r,k=>by simp [mkOs,zch r]
theorem zkE:∀(a b:List OpV) (k:Int),mkOs (a++b) k=mkOs a k++mkOs b (k+(zaN a:Nat))
 | [],b,k=>by simp [mkOs,zaN]
 | x::r,b,k=>by
  simp only [List.cons_append,mkOs,zkE r b,zaN,List.cons.injEq,true_and]
  congr 2
  omega
theorem zfF:∀(a b:List OpV),zaN (a++b)=zaN a+zaN b
 | [],b=>by simp [zaN]
 | x::r,b=>by simp only [List.cons_append,zaN,zfF r b];omega
theorem znq (l:List OpV) (j:Nat) (h:j<l.length):zaN (l.take (j+1))=zaN (l.take j)+(9+szO l[j]):=by
 rw [List.take_succ_eq_append_getElem h,zfF]
 simp [zaN]
theorem zpS (l:List OpV) (j:Nat):zaN (l.take j)<=zaN l:=by
 have:=zfF (l.take j) (l.drop j)
 rw [List.take_append_drop]at this
 omega
theorem zrB (l:List OpV) (k:Int) (j:Nat) (h:j<l.length) (h':j<(mkOs l k).length):(mkOs l k)[j]=mkO l[j] (k+(zaN (l.take j):Nat)):=by
 have e:mkOs l k=mkOs (l.take j) k++mkOs (l.drop j) (k+(zaN (l.take j):Nat)):=by rw [<-zkE,List.take_append_drop]
 have e2:l.drop j=l[j]::l.drop (j+1):=List.drop_eq_getElem_cons h
 have hl:(mkOs (l.take j) k).length=j:=by rw [zch];simp;omega
 have:(mkOs l k)[j]? = some (mkO l[j] (k+(zaN (l.take j):Nat))):=by
  rw [e,List.getElem?_append_right (by omega),hl,Nat.sub_self,e2,mkOs]
  rfl
 rw [List.getElem?_eq_getElem h']at this
 exact Option.some.inj this
theorem OwOpC.len {w:Xe} {C:Xd} {o:OpV} {F:Xb} (h:OwOpC w C o F):C.length=12:=by
 obtain⟨k,n,t,rfl,_⟩:=h;rfl
theorem zsy {a b c:Xb} (h:(a++b++c).Nodup):(∀g∈a,g∉b∧g∉c)∧(∀g∈b,g∉c):=by
 have h1:=List.nodup_append.1 h
 have h2:=List.nodup_append.1 h1.1
 exact⟨fun g ha=>⟨fun hb=>h2.2.2 g ha g hb rfl,fun hc=>h1.2.2 g (List.mem_append_left _ ha) g hc rfl⟩,fun g hb hc=>h1.2.2 g (List.mem_append_right _ hb) g hc rfl⟩
set_option maxHeartbeats 20000000 in
theorem zmQ (w:Xe) (v:Xf) (l:List OpV) (F:Xb) (k:Int) (h:OwOps w v l F) (hF:F.Nodup) (hs:zaN l<=16777216) (h0:0<=k) (h1:k<=900000000) :
  Calls Tryz.prog 29 #[v,.int .i64 k] w fun e w'=>e=.returned (.int .i64 (k+(zaN l:Nat)))∧OwOps w' v (mkOs l k) F∧Frm w w' F:=by
 have hml:=OwElems.len h
 unfold maxLen at hml
 obtain⟨Cs,Fs,hCl,hFl,hR,hrow,rfl⟩:=h
 have hFv:=zda hF
 have hFn:=(List.nodup_append.1 hF).2.1
 by_cases hl0:l=[]
 ·subst hl0
  obtain⟨a,cap,rfl⟩:=zbA hrow
  have HW:=hide (show OwOps w (.slice a ([]:List OpV).length cap) (mkOs [] k) _ from ⟨Cs,Fs,hCl,hFl,hR,hrow,rfl⟩)
  clear hrow hR
  go_enter Tryz.func29,Tryz.ntmps29
  go_wp2_with fail
  refine wp_loop_rounds 1 ?_
  rw [rounds_succ]
  go_wp2_with fail
  go_ret
  exact⟨by simp [zaN],zaa HW,Frm.refl _ _⟩
 have hv:∃g cap,v=.slice (some ⟨g,0,none⟩) l.length cap:=by
  rcases hrow.2 with ⟨_,h⟩ | ⟨g,cap,cur,rfl,_⟩
  ·exact absurd (List.eq_nil_of_length_eq_zero h) hl0
  ·exact⟨g,cap,rfl⟩
 obtain⟨g,cap,rfl⟩:=hv
 have hgF:∀i,g∉Fs.getD i []:=fun i hi=>hFv g (by simp [FB,Value.ownBlock]) (zav hi)
 have hFB:FB (.slice (some ⟨g,0,none⟩) l.length cap)=[g]:=rfl
 rw [hFB]at hF hFv ⊢
 have HR:=hide hR
 have HROW:=hide hrow
 have hm':(l.length:Int)<=9223372036854775807:=by omega
 clear hR hrow hFB
 go_enter Tryz.func29,Tryz.ntmps29
 go_wp2_with fail
 go_loopw [1,5] (fun c i wr=>∃j:Nat,j<=l.length∧i=.int .i64 j∧c=.int .i64 (k+(zaN (l.take j):Nat))∧∃Ds:List (Xd),Ds.length=l.length∧wr.ownsRow 0 83 12 (.slice (some ⟨g,0,none⟩) l.length cap) l.length Ds.flatten∧
   (∀i (hi:i<(mkOs l k).length),i<j->OwOpC wr (Ds.getD i []) (mkOs l k)[i] (Fs.getD i []))∧(∀i (hi:i<l.length),j<=i->OwOpC wr (Ds.getD i []) l[i] (Fs.getD i []))∧Frm w wr ([g]++Fs.flatten)) (fun _ i _=>l.length-(intOf i).toNat)
 case atStart=>exact⟨0,Nat.zero_le _,rfl,by simp [zaN],Cs,hCl,zaa HROW,fun i hi hj=>by omega,fun i hi _=>(zaa HR i hi).2,Frm.refl _ _⟩
 case round=>
  obtain⟨j,hj,rfl,rfl,Ds,hDl,hr,hdone,htodo,hf⟩:=hrel
  have hD:∀i,i<Ds.length->(Ds.getD i []).length=12:=fun i hi=>by
   by_cases hij:i<j
   ·exact (hdone i (by rw [zch];omega) hij).len
   ·exact (htodo i (by omega) (by omega)).len
  by_cases hjl:j<l.length
  ·obtain⟨kv,nv,tv,hab,hk,hn,ht,hFj⟩:=htodo j hjl (Nat.le_refl _)
   have hct:=znq l j hjl
   have hcl:=zpS l (j+1)
   unfold szO at hct
   have hat:=zrB l k j hjl (by rw [zch];exact hjl)
   obtain⟨x,hx⟩:∃x,x=l[j]:=⟨_,rfl⟩
   rw [<-hx]at hk hn ht hct hat hab
   obtain⟨q,hq⟩:∃q:Int,q=k+(zaN (l.take j):Nat):=⟨_,rfl⟩
   rw [<-hq]at hat ⊢
   have hq0:0<=q:=by omega
   have hq1:q<=917000000:=by omega
   obtain⟨pk,ck,rfl,_,_⟩:=hk.ints.shape
   obtain⟨pn,cn,rfl,_,_⟩:=hn.byt.shape
   obtain⟨pt,ct,rfl,_,_⟩:=ht.byt.shape
   have hFjn:=zdh (i:=j) hFn
   rw [hFj]at hFjn
   obtain⟨na,nb'⟩:=zsy hFjn
   have R0:=RowJ.start hDl hD j hjl hr
   rw [hab]at R0
   have c0:=R0.cell 0 (by omega)
   have f0:=R0.frozen (j*12)
   have c1:=R0.cell 1 (by omega)
   have f1:=R0.frozen (j*12+1)
   have c2:=R0.cell 2 (by omega)
   have f2:=R0.frozen (j*12+2)
   have c3:=R0.cell 3 (by omega)
   have f3:=R0.frozen (j*12+3)
   have c4:=R0.cell 4 (by omega)
   have f4:=R0.frozen (j*12+4)
   have c5:=R0.cell 5 (by omega)
   have f5:=R0.frozen (j*12+5)
   have c6:=R0.cell 6 (by omega)
   have f6:=R0.frozen (j*12+6)
   simp only [List.getElem?_cons_zero,List.getElem?_cons_succ,Nat.add_zero]at c0 c1 c2 c3 c4 c5 c6
   have R1:=(((((((R0.put 0 (by omega) (.int .i64 q)).put 1 (by omega) (.int .i64 (q+1))).put 2 (by omega) (.int .i64 (q+1+1))).put 3 (by omega) (.int .i64 (q+1+1+1))).put 4 (by omega) (.int .i64 (q+1+1+1+1))).put 5 (by omega) (.int .i64 (q+1+1+1+1+1))).put 6 (by omega) (.int .i64 (q+1+1+1+1+1+1)))
   simp only [Nat.add_zero,List.set_cons_zero,List.set_cons_succ]at R1
   have F1:Frm wr (((((((wr.setCell ⟨g,j*12,none⟩ (.int .i64 q)).setCell ⟨g,j*12+1,none⟩ (.int .i64 (q+1))).setCell ⟨g,j*12+2,none⟩ (.int .i64 (q+1+1))).setCell ⟨g,j*12+3,none⟩ (.int .i64 (q+1+1+1))).setCell ⟨g,j*12+4,none⟩ (.int .i64 (q+1+1+1+1))).setCell ⟨g,j*12+5,none⟩ (.int .i64 (q+1+1+1+1+1))).setCell ⟨g,j*12+6,none⟩ (.int .i64 (q+1+1+1+1+1+1))) [g]:=(((((((zab wr g (j*12) (.int .i64 q)).trans (zab _ g (j*12+1) (.int .i64 (q+1)))).trans (zab _ g (j*12+2) (.int .i64 (q+1+1)))).trans (zab _ g (j*12+3) (.int .i64 (q+1+1+1)))).trans (zab _ g (j*12+4) (.int .i64 (q+1+1+1+1)))).trans (zab _ g (j*12+5) (.int .i64 (q+1+1+1+1+1)))).trans (zab _ g (j*12+6) (.int .i64 (q+1+1+1+1+1+1))))
   have c7:=R1.cell 7 (by omega)
   simp only [List.getElem?_cons_zero,List.getElem?_cons_succ]at c7
   have HX:=hide hx
   have HQ:=hide hq
   have HT:=hide hat
   have HCT:=hide hct
   have HFJ:=hide hFj
   have HDN:=hide hdone
   have HTD:=hide htodo
   have hx0:x.key.length<=16777216:=by omega
   have hx1:x.name.length<=16777216:=by omega
   have hx2:x.text.length<=16777216:=by omega
   have hjl':(j:Int)<(l.length:Int):=by omega
   have hgn:g∉Fs.getD j []:=hgF j
   rw [zaa HFJ]at hgn
   simp only [List.mem_append,not_or]at hgn
   obtain⟨⟨hgk,hgnn⟩,hgt⟩:=hgn
   have hk1:=hk.frm F1 (fun p hp hp'=>by simp at hp';subst hp';exact hgk hp)
   have hn1:=hn.frm F1 (fun p hp hp'=>by simp at hp';subst hp';exact hgnn hp)
   have ht1:=ht.frm F1 (fun p hp hp'=>by simp at hp';subst hp';exact hgt hp)
   clear hx hq hat hct hFj hdone htodo hcl hr hab hk hn ht hFjn R0
   go_wp2_with fail
   generalize (((((((wr.setCell ⟨g,j*12,none⟩ (.int .i64 q)).setCell ⟨g,j*12+1,none⟩ (.int .i64 (q+1))).setCell ⟨g,j*12+2,none⟩ (.int .i64 (q+1+1))).setCell ⟨g,j*12+3,none⟩ (.int .i64 (q+1+1+1))).setCell ⟨g,j*12+4,none⟩ (.int .i64 (q+1+1+1+1))).setCell ⟨g,j*12+5,none⟩ (.int .i64 (q+1+1+1+1+1))).setCell ⟨g,j*12+6,none⟩ (.int .i64 (q+1+1+1+1+1+1)))=w1 at *
   clear c0 c1 c2 c3 c4 c5 c6 f0 f1 f2 f3 f4 f5 f6 c7
   refine (zoT w1 0 _ x.key (q+1+1+1+1+1+1+1) hk1 hx0 (by omega) (by omega)).mono ?_
   rintro e w2 ⟨rfl,hk2,hg2⟩
   have F2:=Frm.ofGrown hg2
   have R2:=R1.frm F2 hgk
   have hn2:=hn1.frm F2 (fun p hp hp'=>(na p hp').1 hp)
   have ht2:=ht1.frm F2 (fun p hp hp'=>(na p hp').2 hp)
   have c8:=R2.cell 8 (by omega)
   have f8:=R2.frozen (j*12+8)
   have R3:=R2.put 8 (by omega) (.int .i64 (q+1+1+1+1+1+1+1+(x.key.length:Int)))
   have F3:=zab w2 g (j*12+8) (.int .i64 (q+1+1+1+1+1+1+1+(x.key.length:Int)))
   have c9:=R3.cell 9 (by omega)
   simp only [List.set_cons_zero,List.set_cons_succ,List.getElem?_cons_zero,List.getElem?_cons_succ]at c8 c9 R3
   have hk3:=hk2.frm F3 (fun p hp hp'=>by simp at hp';subst hp';exact hgk hp)
   have hn3:=hn2.frm F3 (fun p hp hp'=>by simp at hp';subst hp';exact hgnn hp)
   have ht3:=ht2.frm F3 (fun p hp hp'=>by simp at hp';subst hp';exact hgt hp)
   clear R1 R2 hk1 hn1 ht1 hk2 hn2 ht2 hg2
   go_wp2_with fail
   generalize (w2.setCell ⟨g,j*12+8,none⟩ (.int .i64 (q+1+1+1+1+1+1+1+(x.key.length:Int))))=w3 at *
   clear c8 f8 c9
   refine (zbU w3 0 _ x.name (q+1+1+1+1+1+1+1+(x.key.length:Int)+1) hn3 hx1 (by omega) (by omega)).mono ?_
   rintro e w4 ⟨rfl,hn4,hg4⟩
   have F4:=Frm.ofGrown hg4
   have R4:=R3.frm F4 hgnn
   have hk4:=hk3.frm F4 (fun p hp hp'=>(na p hp).1 hp')
   have ht4:=ht3.frm F4 (fun p hp hp'=>nb' p hp' hp)
   have c10:=R4.cell 10 (by omega)
   simp only [List.getElem?_cons_zero,List.getElem?_cons_succ]at c10
   clear R3 hk3 hn3 ht3 hg4
   go_wp2_with fail
   clear c10
   refine (zbU w4 0 _ x.text (q+1+1+1+1+1+1+1+(x.key.length:Int)+1+(x.name.length:Int)) ht4 hx2 (by omega) (by omega)).mono ?_
   rintro e w5 ⟨rfl,ht5,hg5⟩
   have F5:=Frm.ofGrown hg5
   have R5:=R4.frm F5 hgt
   have hk5:=hk4.frm F5 (fun p hp hp'=>(na p hp).2 hp')
   have hn5:=hn4.frm F5 (fun p hp hp'=>nb' p hp hp')
   have c11:=R5.cell 11 (by omega)
   have f11:=R5.frozen (j*12+11)
   have R6:=R5.put 11 (by omega) (.bool ((q+1+1+1+1+1+1+1+(x.key.length:Int)+1+(x.name.length:Int)+(x.text.length:Int)) % 3 == 0))
   have F6:=zab w5 g (j*12+11) (.bool ((q+1+1+1+1+1+1+1+(x.key.length:Int)+1+(x.name.length:Int)+(x.text.length:Int)) % 3 == 0))
   simp only [List.set_cons_zero,List.set_cons_succ,List.getElem?_cons_zero,List.getElem?_cons_succ]at c11 R6
   have hk6:=hk5.frm F6 (fun p hp hp'=>by simp at hp';subst hp';exact hgk hp)
   have hn6:=hn5.frm F6 (fun p hp hp'=>by simp at hp';subst hp';exact hgnn hp)
   have ht6:=ht5.frm F6 (fun p hp hp'=>by simp at hp';subst hp';exact hgt hp)
   have FJ:Frm wr (w5.setCell ⟨g,j*12+11,none⟩ (.bool ((q+1+1+1+1+1+1+1+(x.key.length:Int)+1+(x.name.length:Int)+(x.text.length:Int)) % 3 == 0))) ([g]++Fs.getD j []):=by
    have m0:∀p,p∈[g]->p∈[g]++Fs.getD j []:=fun p hp=>List.mem_append_left _ hp
    have m1:∀p,p∈(Value.slice pk x.key.length ck).ownBlock.toList->p∈[g]++Fs.getD j []:=fun p hp=>by rw [zaa HFJ];simp [FB,hp]
    have m2:∀p,p∈(Value.slice pn x.name.length cn).ownBlock.toList->p∈[g]++Fs.getD j []:=fun p hp=>by rw [zaa HFJ];simp [FB,hp]
    have m3:∀p,p∈(Value.slice pt x.text.length ct).ownBlock.toList->p∈[g]++Fs.getD j []:=fun p hp=>by rw [zaa HFJ];simp [FB,hp]
    exact (((((F1.mono m0).trans (F2.mono m1)).trans (F3.mono m0)).trans (F4.mono m2)).trans (F5.mono m3)).trans (F6.mono m0)
   clear R4 R5 hk4 hn4 ht4 hk5 hn5 ht5 hg5 F1 F2 F3 F4 F5 F6
   go_wp2_with fail
   go_roundw
   case rel=>
    refine⟨j+1,by omega,by go_num,?_,Ds.set j _,by rw [List.length_set];exact hDl,R6.row,fun i hi hij=> ?_,fun i hi hij=> ?_,hf.trans (FJ.mono (fun p hp=> ?_))⟩
    ·rw [zaa HCT,zaa HQ];go_num
    ·by_cases e:i=j
     ·subst e
      rw [zaa HT,zbH _ _ _ (by omega)]
      exact⟨_,_,_,by simp only [mkO],hk6,hn6,ht6,zaa HFJ⟩
     ·rw [zbw _ _ _ _ e]
      exact (zaa HDN i hi (by omega)).frm FJ (fun p hp hp'=>by
       rcases List.mem_append.1 hp' with h | h
       ·simp at h;subst h;exact hgF i hp
       ·exact zbP hFn e p hp h)
    ·rw [zbw _ _ _ _ (by omega)]
     exact (zaa HTD i hi (by omega)).frm FJ (fun p hp hp'=>by
      rcases List.mem_append.1 hp' with h | h
      ·simp at h;subst h;exact hgF i hp
      ·exact zbP hFn (by omega) p hp h)
    ·rcases List.mem_append.1 hp with h | h
     ·exact List.mem_append_left _ h
     ·exact List.mem_append_right _ (zav h)
   case measure=>simp [intOf];omega
  ·have e:j=l.length:=by omega
   subst e
   have HW:=hide (show OwOps wr (.slice (some ⟨g,0,none⟩) l.length cap) (mkOs l k) ([g]++Fs.flatten) from
    ⟨Ds,Fs,by rw [zch];exact hDl,by rw [zch];exact hFl,fun i hi=>⟨hD i (by rw [zch]at hi;omega),hdone i hi (by rw [zch]at hi;exact hi)⟩,by rw [zch];exact hr,rfl⟩)
   clear hdone htodo hr hD
   go_wp2_with fail
   go_ret
   exact⟨by first | rfl | (rw [List.take_length];rfl),zaa HW,hf⟩
set_option maxHeartbeats 3200000 in
theorem znB (w:Xe) (u v:Xf) (l:List OpV) (hu:RdOps w u l) (hv:RdOps w v l) :
  Calls Tryz.prog 26 #[u,v] w fun e w'=>e=.returned (.bool true)∧Below w.heap.size w w':=by
 have hm:=hu.1
 unfold maxLen at hm
 obtain⟨rfl,a,cap,rfl⟩ | ⟨b,off,cap,rfl,hnil,g4,g5⟩:=hu.cases
 ·obtain⟨a',cap',rfl,_,_⟩:=Elems.shape hv
  go_enter Tryz.func26,Tryz.ntmps26
  go_wp2_with fail
  refine wp_loop_rounds 1 ?_
  rw [rounds_succ]
  go_wp2_with fail
  go_ret
  exact⟨rfl,Below.refl _ _⟩
 obtain⟨rfl,_⟩ | ⟨b',off',cap',rfl,_,f4,f5⟩:=hv.cases
 ·exact absurd rfl hnil
 go_enter Tryz.func26,Tryz.ntmps26
 go_wp2_with fail
 go_loopw [5] (fun i wr=>∃k:Nat,k<=l.length∧i=.int .i64 k∧Below w.heap.size w wr) (fun i _=>l.length-(intOf i).toNat)
 case atStart=>exact⟨0,Nat.zero_le _,rfl,Below.refl _ _⟩
 case round=>
  obtain⟨k,hk,rfl,hB⟩:=hrel
  by_cases hlt:k<l.length
  ·have HE:=hide (fun W u v (hu:RdOp W u l[k]) (hv:RdOp W v l[k])=>zpz W u v l[k] hu hv)
   obtain⟨a1,c1,a2,c2,a3,c3,e0,e1,e2,e3,e4,e5,e6,e7,e8,e9,e10,e11,hr⟩:=zcy hB g4 (g5 k hlt)
   obtain⟨a1',c1',a2',c2',a3',c3',i0,i1,i2,i3,i4,i5,i6,i7,i8,i9,i10,i11,hr'⟩:=zcy hB f4 (f5 k hlt)
   have hlt':(k:Int)<(l.length:Int):=by omega
   have hk0:(0:Int)<=(k:Int):=by omega
   have HR:=hide hr
   have HR':=hide hr'
   unfold zaY at HR HR'
   generalize l[k]=o at *
   generalize o.key.length=nK at *
   generalize o.name.length=nN at *
   generalize o.text.length=nT at *
   clear g5 f5 hr hr' hnil
   go_wp2_with fail
   go_region_held3 (fun w'=>w'.cell? ⟨b,off+k*12,none⟩=some (.int .i64 o.kind)∧w'.cell? ⟨b,off+k*12+1,none⟩=some (.int .i64 o.atN)∧w'.cell? ⟨b,off+k*12+2,none⟩=some (.int .i64 o.atR)∧w'.cell? ⟨b,off+k*12+3,none⟩=some (.int .i64 o.nodeN)∧w'.cell? ⟨b,off+k*12+4,none⟩=some (.int .i64 o.nodeR)∧w'.cell? ⟨b,off+k*12+5,none⟩=some (.int .i64 o.parN)∧w'.cell? ⟨b,off+k*12+6,none⟩=some (.int .i64 o.parR)∧w'.cell? ⟨b,off+k*12+7,none⟩=some (.slice a1 nK c1)∧w'.cell? ⟨b,off+k*12+8,none⟩=some (.int .i64 o.elem)∧w'.cell? ⟨b,off+k*12+9,none⟩=some (.slice a2 nN c2)∧w'.cell? ⟨b,off+k*12+10,none⟩=some (.slice a3 nT c3)∧w'.cell? ⟨b,off+k*12+11,none⟩=some (.bool o.gone)∧w'.cell? ⟨b',off' + k*12,none⟩=some (.int .i64 o.kind)∧w'.cell? ⟨b',off' + k*12+1,none⟩=some (.int .i64 o.atN)∧w'.cell? ⟨b',off' + k*12+2,none⟩=some (.int .i64 o.atR)∧w'.cell? ⟨b',off' + k*12+3,none⟩=some (.int .i64 o.nodeN)∧w'.cell? ⟨b',off' + k*12+4,none⟩=some (.int .i64 o.nodeR)∧w'.cell? ⟨b',off' + k*12+5,none⟩=some (.int .i64 o.parN)∧w'.cell? ⟨b',off' + k*12+6,none⟩=some (.int .i64 o.parR)∧w'.cell? ⟨b',off' + k*12+7,none⟩=some (.slice a1' nK c1')∧w'.cell? ⟨b',off' + k*12+8,none⟩=some (.int .i64 o.elem)∧w'.cell? ⟨b',off' + k*12+9,none⟩=some (.slice a2' nN c2')∧w'.cell? ⟨b',off' + k*12+10,none⟩=some (.slice a3' nT c3')∧w'.cell? ⟨b',off' + k*12+11,none⟩=some (.bool o.gone)) (first | exact⟨by assumption,by assumption,by assumption,by assumption,by assumption,by assumption,by assumption,by assumption,by assumption,by assumption,by assumption,by assumption,by assumption,by assumption,by assumption,by assumption,by assumption,by assumption,by assumption,by assumption,by assumption,by assumption,by assumption,by assumption⟩ | simp [*])
    ((go_at_call 66;refine (zaa HE _ _ _ ((zaa HR).keep ((Below.refl _ _).drew)) ((zaa HR').keep ((Below.refl _ _).drew))).mono ?_;rintro e w2 ⟨rfl,hB2⟩;have s0:=cell_later hB2 e0;have s1:=cell_later hB2 e1;have s2:=cell_later hB2 e2;have s3:=cell_later hB2 e3;have s4:=cell_later hB2 e4;have s5:=cell_later hB2 e5;have s6:=cell_later hB2 e6;have s7:=cell_later hB2 e7;have s8:=cell_later hB2 e8;have s9:=cell_later hB2 e9;have s10:=cell_later hB2 e10;have s11:=cell_later hB2 e11;have r0:=cell_later hB2 i0;have r1:=cell_later hB2 i1;have r2:=cell_later hB2 i2;have r3:=cell_later hB2 i3;have r4:=cell_later hB2 i4;have r5:=cell_later hB2 i5;have r6:=cell_later hB2 i6;have r7:=cell_later hB2 i7;have r8:=cell_later hB2 i8;have r9:=cell_later hB2 i9;have r10:=cell_later hB2 i10;have r11:=cell_later hB2 i11))
   have hB3:=hB.trans ((Below.drew (Below.refl wr.heap.size wr)).trans hB2 |>.mono hB.size)
   clear e0 e1 e2 e3 e4 e5 e6 e7 e8 e9 e10 e11 i0 i1 i2 i3 i4 i5 i6 i7 i8 i9 i10 i11 s0 s1 s2 s3 s4 s5 s6 s7 s8 s9 s10 s11 r0 r1 r2 r3 r4 r5 r6 r7 r8 r9 r10 r11 hB2 HR HR'
   go_wp2_with fail
   go_roundw
   case rel=>exact⟨k+1,by omega,by go_num,hB3⟩
   case measure=>simp [intOf];omega
  ·clear g5 f5
   go_wp2_with fail
   go_ret
   exact⟨rfl,hB⟩
def mkIs:List (Int×Int)->Int->List (Int×Int)
 | [],_=>[]
 | x::r,k=>(k,k+1)::mkIs r (k+2)
theorem zcv:∀(l:List (Int×Int)) (k:Int),(mkIs l k).length=l.length
 | [],_=>rfl
 | x::r,k=>by simp [mkIs,zcv r]
theorem zma:∀(l:List (Int×Int)) (k:Int) (j:Nat) (h:j<(mkIs l k).length),(mkIs l k)[j]=(k+2*j,k+2*j+1)
 | [],_,_,h=>by simp [mkIs]at h
 | x::r,k,0,_=>by simp [mkIs]
 | x::r,k,j+1,h=>by
  have:=zma r (k+2) j (by simpa [mkIs]using h)
  simp only [mkIs,List.getElem_cons_succ,this]
  congr 1<;>omega
theorem OwIdC.len {C:Xd} {x:Int×Int} {F:Xb} (h:OwIdC C x F):C.length=2:=by rw [h.1];rfl
set_option maxHeartbeats 6400000 in
theorem zny (w:Xe) (v:Xf) (l:List (Int×Int)) (F:Xb) (k:Int) (h:OwIds w v l F) (hF:F.Nodup) (hs:l.length<=4194304) (h0:0<=k) (h1:k<=900000000) :
  Calls Tryz.prog 30 #[v,.int .i64 k] w fun e w'=>e=.returned (.int .i64 (k+2*(l.length:Nat)))∧OwIds w' v (mkIs l k) F∧Frm w w' F:=by
 obtain⟨Cs,Fs,hCl,hFl,hR,hrow,rfl⟩:=h
 by_cases hl0:l=[]
 ·subst hl0
  obtain⟨a,cap,rfl⟩:=zbA hrow
  have HW:=hide (show OwIds w (.slice a ([]:List (Int×Int)).length cap) (mkIs [] k) _ from ⟨Cs,Fs,hCl,hFl,hR,hrow,rfl⟩)
  clear hrow hR
  go_enter Tryz.func30,Tryz.ntmps30
  go_wp2_with fail
  refine wp_loop_rounds 1 ?_
  rw [rounds_succ]
  go_wp2_with fail
  go_ret
  exact⟨by simp,zaa HW,Frm.refl _ _⟩
 have hv:∃g cap,v=.slice (some ⟨g,0,none⟩) l.length cap:=by
  rcases hrow.2 with ⟨_,h⟩ | ⟨g,cap,cur,rfl,_⟩
  ·exact absurd (List.eq_nil_of_length_eq_zero h) hl0
  ·exact⟨g,cap,rfl⟩
 obtain⟨g,cap,rfl⟩:=hv
 have hFB:FB (.slice (some ⟨g,0,none⟩) l.length cap)=[g]:=rfl
 rw [hFB]at hF ⊢
 have HR:=hide hR
 have HROW:=hide hrow
 clear hR hrow hFB
 go_enter Tryz.func30,Tryz.ntmps30
 go_wp2_with fail
 go_loopw [1,5] (fun c i wr=>∃j:Nat,j<=l.length∧i=.int .i64 j∧c=.int .i64 (k+2*(j:Nat))∧∃Ds:List (Xd),Ds.length=l.length∧wr.ownsRow 0 81 2 (.slice (some ⟨g,0,none⟩) l.length cap) l.length Ds.flatten∧
   (∀i (hi:i<(mkIs l k).length),i<j->OwIdC (Ds.getD i []) (mkIs l k)[i] (Fs.getD i []))∧(∀i (hi:i<l.length),j<=i->OwIdC (Ds.getD i []) l[i] (Fs.getD i []))∧Frm w wr ([g]++Fs.flatten)) (fun _ i _=>l.length-(intOf i).toNat)
 case atStart=>exact⟨0,Nat.zero_le _,rfl,by simp,Cs,hCl,zaa HROW,fun i hi hj=>by omega,fun i hi _=>(zaa HR i hi).2,Frm.refl _ _⟩
 case round=>
  obtain⟨j,hj,rfl,rfl,Ds,hDl,hr,hdone,htodo,hf⟩:=hrel
  have hD:∀i,i<Ds.length->(Ds.getD i []).length=2:=fun i hi=>by
   by_cases hij:i<j
   ·exact (hdone i (by rw [zcv];omega) hij).len
   ·exact (htodo i (by omega) (by omega)).len
  by_cases hjl:j<l.length
  ·obtain⟨hab,hFj⟩:=htodo j hjl (Nat.le_refl _)
   have hat:=zma l k j (by rw [zcv];exact hjl)
   obtain⟨q,hq⟩:∃q:Int,q=k+2*(j:Nat):=⟨_,rfl⟩
   rw [<-hq]at hat ⊢
   have hq0:0<=q:=by omega
   have hq1:q<=917000000:=by omega
   have R0:=RowJ.start hDl hD j hjl hr
   rw [hab]at R0
   have c0:=R0.cell 0 (by omega)
   have c1:=R0.cell 1 (by omega)
   have f0:=R0.frozen (j*2)
   have f1:=R0.frozen (j*2+1)
   simp only [List.getElem?_cons_zero,List.getElem?_cons_succ,Nat.add_zero]at c0 c1
   have R1:=(R0.put 0 (by omega) (.int .i64 q)).put 1 (by omega) (.int .i64 (q+1))
   simp only [Nat.add_zero,List.set_cons_zero,List.set_cons_succ]at R1
   have F1:Frm wr ((wr.setCell ⟨g,j*2,none⟩ (.int .i64 q)).setCell ⟨g,j*2+1,none⟩ (.int .i64 (q+1))) [g]:=(zab wr g (j*2) (.int .i64 q)).trans (zab _ g (j*2+1) (.int .i64 (q+1)))
   have HQ:=hide hq
   have HT:=hide hat
   have HDN:=hide hdone
   have HTD:=hide htodo
   have HFJ:=hide hFj
   have hjl':(j:Int)<(l.length:Int):=by omega
   have HROW2:=hide R1.row
   have HFr:=hide (hf.trans (F1.mono (fun p hp=>List.mem_append_left _ hp)))
   clear hq hat hdone htodo hr hab R0 R1 F1 hf hFj hD
   go_wp2_with fail
   go_roundw
   case rel=>
    refine⟨j+1,by omega,by go_num,?_,Ds.set j _,by rw [List.length_set];exact hDl,zaa HROW2,fun i hi hij=> ?_,fun i hi hij=> ?_,zaa HFr⟩
    ·rw [zaa HQ];go_num
    ·by_cases e:i=j
     ·subst e
      rw [zaa HT,zbH _ _ _ (by omega)]
      exact⟨rfl,zaa HFJ⟩
     ·rw [zbw _ _ _ _ e]
      exact zaa HDN i hi (by omega)
    ·rw [zbw _ _ _ _ (by omega)]
     exact zaa HTD i hi (by omega)
   case measure=>simp [intOf];omega
  ·have e:j=l.length:=by omega
   subst e
   have HW:=hide (show OwIds wr (.slice (some ⟨g,0,none⟩) l.length cap) (mkIs l k) ([g]++Fs.flatten) from
    ⟨Ds,Fs,by rw [zcv];exact hDl,by rw [zcv];exact hFl,fun i hi=>⟨hD i (by rw [zcv]at hi;omega),hdone i hi (by rw [zcv]at hi;exact hi)⟩,by rw [zcv];exact hr,rfl⟩)
   clear hdone htodo hr hD
   go_wp2_with fail
   go_ret
   exact⟨rfl,zaa HW,hf⟩
end Go.Proofs.YtlpnibbdmkeklaaGreatDoor
