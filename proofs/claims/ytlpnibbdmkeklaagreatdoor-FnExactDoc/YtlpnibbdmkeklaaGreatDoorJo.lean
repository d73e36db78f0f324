/- Own texts joined: MarkR, EqIs, EqR, ToOs, ToIs, ToR, SzOs, SzIs, SzR, LDoc, OpenO, OpenP, OpenQ, OpenR. -/
import Derived.Test.YtlpnibbdmkeklaaGreatDoorJa
import Derived.Test.YtlpnibbdmkeklaaGreatDoorJb
import Derived.Test.YtlpnibbdmkeklaaGreatDoorJc
import Derived.Test.YtlpnibbdmkeklaaGreatDoorJd
import Derived.Test.YtlpnibbdmkeklaaGreatDoorJe
import Derived.Test.YtlpnibbdmkeklaaGreatDoorJf
import Derived.Test.YtlpnibbdmkeklaaGreatDoorJg
import Derived.Test.YtlpnibbdmkeklaaGreatDoorJh
import Derived.Test.YtlpnibbdmkeklaaGreatDoorJi
import Derived.Test.YtlpnibbdmkeklaaGreatDoorJj
import Derived.Test.YtlpnibbdmkeklaaGreatDoorJk
import Derived.Test.YtlpnibbdmkeklaaGreatDoorJl
import Derived.Test.YtlpnibbdmkeklaaGreatDoorJm
import Derived.Test.YtlpnibbdmkeklaaGreatDoorJn
import Derived.Deep.RegionHeld3
import Derived.Deep.CutBlock
import Derived.Test.YtlpnibbdmkeklaaGreatDoorProg
import Derived.ChangeArms
import Derived.ChangeSlices
import Derived.WideShapes
namespace Go.Proofs.YtlpnibbdmkeklaaGreatDoor
open Go.RowKit
set_option linter.unusedVariables false
set_option maxRecDepth 100000
def zgu {n:Nat} (r:RepV n):Nat:=cntT (n+1) r.first+zaN r.ops+2*r.und.length
def mkR {n:Nat} (r:RepV n) (k:Int):RepV n where
 id:=r.id
 clock:=r.clock
 first:=mkT' (n+1) r.first k
 ops:=mkOs r.ops (k+(cntT (n+1) r.first:Nat))
 und:=mkIs r.und (k+(cntT (n+1) r.first:Nat)+(zaN r.ops:Nat))
 lost:=r.lost
theorem rd5v {n:Nat} {w:Xe} {a b c d e vo vu:Xf} {r:RepV n} (h:RdRep n w a b c d e vo vu r):∃z ab nb cb ac nc cc ad nd cd ae ne ce ao no co au nu cu,a=.int .i64 z∧b=.slice ab nb cb∧c=.slice ac nc cc∧d=.slice ad nd cd∧e=.slice ae ne ce∧vo=.slice ao no co∧vu=.slice au nu cu:=by
 obtain⟨z,ab,nb,cb,ac,nc,cc,ad,nd,cd,ae,ne,ce,rfl,rfl,rfl,rfl,rfl⟩:=rd5 h.1
 obtain⟨ao,co,rfl,_,_⟩:=Elems.shape h.2.1
 obtain⟨au,cu,rfl,_,_⟩:=Elems.shape h.2.2
 exact⟨_,_,_,_,_,_,_,_,_,_,_,_,_,_,_,_,_,_,_,rfl,rfl,rfl,rfl,rfl,rfl,rfl⟩
set_option maxHeartbeats 6400000 in
theorem zlB (n:Nat) (w:Xe) (a b c d e vo vu:Xf) (r:RepV n) (F:Xb) (k:Int) (h:OwRep n w a b c d e vo vu r F) (hF:F.Nodup) (hlt:∀g∈F,g<w.heap.size) (hs1:cntT (n+1) r.first<=4194304) (hs2:zaN r.ops<=16777216) (hs3:r.und.length<=4194304) (h0:0<=k) (h1:k<=100000000) :
  Calls Tryz.prog 10 #[zaQ r a b c d e vo vu,.int .i64 k] w fun e' w'=>e'=.returned (.int .i64 (k+(zgu r:Nat)))∧OwRep n w' a b c d e vo vu (mkR r k) F∧Frm w w' F:=by
 obtain⟨z,ab,nb,cb,ac,nc,cc,ad,nd,cd,ae,ne,ce,ao,no,co,au,nu,cu,rfl,rfl,rfl,rfl,rfl,rfl,rfl⟩:=rd5v h.rd
 obtain⟨F1,F2,F3,o1,o2,o3,rfl⟩:=h
 have n12:=List.nodup_append.1 hF
 have n1:=List.nodup_append.1 n12.1
 have d12:∀g∈F1,g∉F2:=fun g h1 h2=>n1.2.2 g h1 g h2 rfl
 have d13:∀g∈F1,g∉F3:=fun g h1 h3=>n12.2.2 g (List.mem_append_left _ h1) g h3 rfl
 have d23:∀g∈F2,g∉F3:=fun g h2 h3=>n12.2.2 g (List.mem_append_right _ h2) g h3 rfl
 have HR:=hide (show k+(cntT (n+1) r.first:Nat)+(zaN r.ops:Nat)+2*(r.und.length:Nat)=k+(zgu r:Nat) by unfold zgu;omega)
 have HM:=hide (fun w' (q1:OwNode (n+1) w' [.int .i64 z,.slice ab nb cb,.slice ac nc cc,.slice ad nd cd,.slice ae ne ce] (mkT' (n+1) r.first k) F1) (q2:OwOps w' (.slice ao no co) (mkOs r.ops (k+(cntT (n+1) r.first:Nat))) F2) (q3:OwIds w' (.slice au nu cu) (mkIs r.und (k+(cntT (n+1) r.first:Nat)+(zaN r.ops:Nat))) F3)=>(show OwRep n w' (.int .i64 z) (.slice ab nb cb) (.slice ac nc cc) (.slice ad nd cd) (.slice ae ne ce) (.slice ao no co) (.slice au nu cu) (mkR r k) (F1++F2++F3) from ⟨F1,F2,F3,q1,q2,q3,rfl⟩))
 generalize zgu r=cr at *
 generalize mkR r k=mr at *
 have hA:=(Below.refl w.heap.size w).alloc (Nat.le_refl _) (.cells #[.int .i64 r.id,.int .i64 r.clock,.int .i64 z,.slice ab nb cb,.slice ac nc cc,.slice ad nd cd,.slice ae ne ce,.slice ao no co,.slice au nu cu,.bool r.lost] 41)
 have l0:=Loc.made w #[.int .i64 r.id,.int .i64 r.clock,.int .i64 z,.slice ab nb cb,.slice ac nc cc,.slice ad nd cd,.slice ae ne ce,.slice ao no co,.slice au nu cu,.bool r.lost] 41
 have o1a:=o1.keep hA
 have o2a:OwOps (w.alloc (.cells #[.int .i64 r.id,.int .i64 r.clock,.int .i64 z,.slice ab nb cb,.slice ac nc cc,.slice ad nd cd,.slice ae ne ce,.slice ao no co,.slice au nu cu,.bool r.lost] 41)) (.slice ao no co) r.ops F2:=OwOps.frm o2 (Frm.ofBelow hA []) (fun _ _=>by simp)
 have o3a:OwIds (w.alloc (.cells #[.int .i64 r.id,.int .i64 r.clock,.int .i64 z,.slice ab nb cb,.slice ac nc cc,.slice ad nd cd,.slice ae ne ce,.slice ao no co,.slice au nu cu,.bool r.lost] 41)) (.slice au nu cu) r.und F3:=OwIds.frm o3 (Frm.ofBelow hA []) (fun _ _=>by simp)
 have hSF:w.heap.size∉F1++F2++F3:=fun hq=>by have:=hlt _ hq;omega
 simp only [List.mem_append,not_or]at hSF
 obtain⟨⟨hS1,hS2⟩,hS3⟩:=hSF
 unfold zaQ
 clear o1 o2 o3
 go_enter Tryz.func10,Tryz.ntmps10
 go_wp2_with fail
 have fA:=Frm.ofBelow hA (F1++F2++F3)
 generalize (w.alloc (.cells #[.int .i64 r.id,.int .i64 r.clock,.int .i64 z,.slice ab nb cb,.slice ac nc cc,.slice ad nd cd,.slice ae ne ce,.slice ao no co,.slice au nu cu,.bool r.lost] 41))=wa at *
 refine (zpx n wa _ _ _ _ _ r.first F1 k o1a n1.1 hs1 h0 (by omega)).mono ?_
 rintro e w1 ⟨rfl,q1,f1⟩
 replace l0:=l0.frm f1 hS1
 have o2b:=OwOps.frm o2a f1 (fun g hg hg'=>d12 g hg' hg)
 have o3b:=OwIds.frm o3a f1 (fun g hg hg'=>d13 g hg' hg)
 have fB:=fA.trans (f1.mono (fun g hg=>List.mem_append_left _ (List.mem_append_left _ hg)))
 clear o1a o2a o3a fA hA
 obtain⟨x0,x1,x2,x3,x4,x5,x6,x7,x8,x9⟩:=l0.ten
 go_wp2_with fail
 clear x0 x1 x2 x3 x4 x5 x6 x7 x8 x9
 refine (zmQ w1 _ r.ops F2 (k+(cntT (n+1) r.first:Nat)) o2b n1.2.1 hs2 (by omega) (by omega)).mono ?_
 rintro e w2 ⟨rfl,q2,f2⟩
 replace l0:=l0.frm f2 hS2
 have o3c:=OwIds.frm o3b f2 (fun g hg hg'=>d23 g hg' hg)
 have q1b:=q1.frm f2 (fun g hg hg'=>d12 g hg hg')
 have fC:=fB.trans (f2.mono (fun g hg=>List.mem_append_left _ (List.mem_append_right _ hg)))
 clear o2b o3b fB q1 f1 f2
 obtain⟨x0,x1,x2,x3,x4,x5,x6,x7,x8,x9⟩:=l0.ten
 go_wp2_with fail
 clear x0 x1 x2 x3 x4 x5 x6 x7 x8 x9
 refine (zny w2 _ r.und F3 (k+(cntT (n+1) r.first:Nat)+(zaN r.ops:Nat)) o3c n12.2.1 hs3 (by omega) (by omega)).mono ?_
 rintro e w3 ⟨rfl,q3,f3⟩
 have q1c:=q1b.frm f3 (fun g hg hg'=>d13 g hg hg')
 have q2c:=OwOps.frm q2 f3 (fun g hg hg'=>d23 g hg hg')
 have fD:=fC.trans (f3.mono (fun g hg=>List.mem_append_right _ hg))
 rw [zaa HR]
 have HP:=hide (zaa HM w3 q1c q2c q3)
 clear q1b q1c q2 q2c q3 fC f3 o3c l0
 go_wp2_with fail
 go_ret
 exact⟨rfl,zaa HP,fD⟩
theorem zmG (n r:Int):zdU n r n r=true:=by simp [zdU]
set_option maxHeartbeats 3200000 in
theorem zmI (w:Xe) (u v:Xf) (l:List (Int×Int)) (hu:RdIds w u l) (hv:RdIds w v l) :
  Calls Tryz.prog 27 #[u,v] w fun e w'=>e=.returned (.bool true)∧Below w.heap.size w w':=by
 have hm:=hu.1
 unfold maxLen at hm
 obtain⟨rfl,a,cap,rfl⟩ | ⟨b,off,cap,rfl,hnil,g4,g5⟩:=hu.cases
 ·obtain⟨a',cap',rfl,_,_⟩:=Elems.shape hv
  go_enter Tryz.func27,Tryz.ntmps27
  go_wp2_with fail
  refine wp_loop_rounds 1 ?_
  rw [rounds_succ]
  go_wp2_with fail
  go_ret
  exact⟨rfl,Below.refl _ _⟩
 obtain⟨rfl,_⟩ | ⟨b',off',cap',rfl,_,f4,f5⟩:=hv.cases
 ·exact absurd rfl hnil
 go_enter Tryz.func27,Tryz.ntmps27
 go_wp2_with fail
 go_loopw [5] (fun i wr=>∃k:Nat,k<=l.length∧i=.int .i64 k∧Below w.heap.size w wr) (fun i _=>l.length-(intOf i).toNat)
 case atStart=>exact⟨0,Nat.zero_le _,rfl,Below.refl _ _⟩
 case round=>
  obtain⟨k,hk,rfl,hB⟩:=hrel
  by_cases hlt:k<l.length
  ·have HE:=hide (fun W=>zkW W l[k].1 l[k].2 l[k].1 l[k].2)
   rw [zmG]at HE
   obtain⟨c0,c1⟩:=g5 k hlt
   obtain⟨d0,d1⟩:=f5 k hlt
   have e0:=(hB.cell (p:=⟨b,off+k*2,none⟩) g4).trans c0
   have e1:=(hB.cell (p:=⟨b,off+k*2+1,none⟩) g4).trans c1
   have i0:=(hB.cell (p:=⟨b',off' + k*2,none⟩) f4).trans d0
   have i1:=(hB.cell (p:=⟨b',off' + k*2+1,none⟩) f4).trans d1
   have hlt':(k:Int)<(l.length:Int):=by omega
   have hk0:(0:Int)<=(k:Int):=by omega
   generalize l[k]=o at *
   clear g5 f5 c0 c1 d0 d1 hnil
   go_wp2_with fail
   go_region_held3 (fun w'=>w'.cell? ⟨b,off+k*2,none⟩=some (.int .i64 o.1)∧w'.cell? ⟨b,off+k*2+1,none⟩=some (.int .i64 o.2)∧w'.cell? ⟨b',off' + k*2,none⟩=some (.int .i64 o.1)∧w'.cell? ⟨b',off' + k*2+1,none⟩=some (.int .i64 o.2)) (first | exact⟨by assumption,by assumption,by assumption,by assumption⟩ | simp [*])
    ((go_at_call 67;refine (zaa HE _).mono ?_;rintro e w2 ⟨rfl,hB2⟩;have s0:=cell_later hB2 e0;have s1:=cell_later hB2 e1;have r0:=cell_later hB2 i0;have r1:=cell_later hB2 i1))
   have hB3:=hB.trans ((Below.drew (Below.refl wr.heap.size wr)).trans hB2 |>.mono hB.size)
   clear e0 e1 i0 i1 s0 s1 r0 r1 hB2
   go_wp2_with fail
   go_roundw
   case rel=>exact⟨k+1,by omega,by go_num,hB3⟩
   case measure=>simp [intOf];omega
  ·clear g5 f5
   go_wp2_with fail
   go_ret
   exact⟨rfl,hB⟩
set_option maxHeartbeats 6400000 in
theorem zmO (n:Nat) (w:Xe) (a b c d e vo vu a' b' c' d' e' vo' vu':Xf) (r:RepV n) (h:RdRep n w a b c d e vo vu r) (h':RdRep n w a' b' c' d' e' vo' vu' r) :
  Calls Tryz.prog 9 #[zaQ r a b c d e vo vu,zaQ r a' b' c' d' e' vo' vu'] w fun e w'=>e=.returned (.bool true)∧Below w.heap.size w w':=by
 obtain⟨z,ab,nb,cb,ac,nc,cc,ad,nd,cd,ae,ne,ce,rfl,rfl,rfl,rfl,rfl⟩:=rd5 h.1
 obtain⟨ao,co,rfl,_,_⟩:=Elems.shape h.2.1
 obtain⟨au,cu,rfl,_,_⟩:=Elems.shape h.2.2
 obtain⟨z',ab',nb',cb',ac',nc',cc',ad',nd',cd',ae',ne',ce',rfl,rfl,rfl,rfl,rfl⟩:=rd5 h'.1
 obtain⟨ao',co',rfl,_,_⟩:=Elems.shape h'.2.1
 obtain⟨au',cu',rfl,_,_⟩:=Elems.shape h'.2.2
 have H1:=hide (fun W (hW:Below w.heap.size w W)=>znH (n+1) W _ _ _ _ _ _ _ _ _ _ r.first (h.1.keep hW) (h'.1.keep hW))
 have H2:=hide (fun W (hW:Below w.heap.size w W)=>znB W _ _ r.ops (h.2.1.keep hW) (h'.2.1.keep hW))
 have H3:=hide (fun W (hW:Below w.heap.size w W)=>zmI W _ _ r.und (h.2.2.keep hW) (h'.2.2.keep hW))
 clear h h'
 unfold zaQ
 obtain⟨l1,l2,hA⟩:=two w #[.int .i64 r.id,.int .i64 r.clock,.int .i64 z,.slice ab nb cb,.slice ac nc cc,.slice ad nd cd,.slice ae ne ce,.slice ao r.ops.length co,.slice au r.und.length cu,.bool r.lost] #[.int .i64 r.id,.int .i64 r.clock,.int .i64 z',.slice ab' nb' cb',.slice ac' nc' cc',.slice ad' nd' cd',.slice ae' ne' ce',.slice ao' r.ops.length co',.slice au' r.und.length cu',.bool r.lost] 41 41
 have hn1:(r.id != r.id)=false:=by simp
 have hn2:(r.clock != r.clock)=false:=by simp
 have hn3:(r.lost != r.lost)=false:=by simp
 go_enter Tryz.func9,Tryz.ntmps9
 go_wp2_with fail
 generalize ((w.alloc (.cells #[.int .i64 r.id,.int .i64 r.clock,.int .i64 z,.slice ab nb cb,.slice ac nc cc,.slice ad nd cd,.slice ae ne ce,.slice ao r.ops.length co,.slice au r.und.length cu,.bool r.lost] 41)).alloc (.cells #[.int .i64 r.id,.int .i64 r.clock,.int .i64 z',.slice ab' nb' cb',.slice ac' nc' cc',.slice ad' nd' cd',.slice ae' ne' ce',.slice ao' r.ops.length co',.slice au' r.und.length cu',.bool r.lost] 41))=wa at *
 refine (zaa H1 _ hA).mono ?_
 rintro e w1 ⟨rfl,hB⟩
 have hA1:=zad hA hB
 replace l1:=l1.all hB
 replace l2:=l2.all hB
 clear hA hB H1
 obtain⟨x0,x1,x2,x3,x4,x5,x6,x7,x8,x9⟩:=l1.ten
 obtain⟨y0,y1,y2,y3,y4,y5,y6,y7,y8,y9⟩:=l2.ten
 go_wp2_with fail
 clear x0 x1 x2 x3 x4 x5 x6 x7 x8 x9 y0 y1 y2 y3 y4 y5 y6 y7 y8 y9
 refine (zaa H2 _ hA1).mono ?_
 rintro e w2 ⟨rfl,hB⟩
 have hA2:=zad hA1 hB
 replace l1:=l1.all hB
 replace l2:=l2.all hB
 clear hA1 hB H2
 obtain⟨x0,x1,x2,x3,x4,x5,x6,x7,x8,x9⟩:=l1.ten
 obtain⟨y0,y1,y2,y3,y4,y5,y6,y7,y8,y9⟩:=l2.ten
 go_wp2_with fail
 clear x0 x1 x2 x3 x4 x5 x6 x7 x8 x9 y0 y1 y2 y3 y4 y5 y6 y7 y8 y9
 refine (zaa H3 _ hA2).mono ?_
 rintro e w3 ⟨rfl,hB⟩
 have hA3:=zad hA2 hB
 replace l1:=l1.all hB
 replace l2:=l2.all hB
 clear hA2 hB H3
 obtain⟨x0,x1,x2,x3,x4,x5,x6,x7,x8,x9⟩:=l1.ten
 obtain⟨y0,y1,y2,y3,y4,y5,y6,y7,y8,y9⟩:=l2.ten
 go_wp2_with fail
 go_ret
 exact⟨rfl,hA3⟩
set_option maxHeartbeats 12800000 in
theorem zok (w:Xe) (v:Xf) (l:List OpV) (h:RdOps w v l) (hs:szOs l<=2097152) :
  Calls Tryz.prog 19 #[v] w fun e w'=>∃a c,e=.returned (.slice a l.length c)∧∃F,OwOps w' (.slice a l.length c) l F∧F.Nodup∧Rng F w.heap.size w'.heap.size∧Below w.heap.size w w':=by
 obtain⟨i0,hi,hz0,hz1,hz2⟩:=info_parts Tryz.info83
 have hm:=h.1
 have hlen:l.length<=2097152:=by unfold szOs at hs;omega
 by_cases h0:l=[]
 ·obtain⟨a,cap,rfl,_⟩:=Elems.shape h
  subst h0
  go_enter Tryz.func19,Tryz.ntmps19
  go_wp2_with (at_make;refine wpList_make_full _ rfl _ _ 38 rfl w.heap.size 83 i0 _ 12 Tryz.underlying38 hi hz0 hz1 .i64 .i64 _ _ 0 rfl rfl rfl rfl ?c1 ?c2 ?c3 ?_)
  case c1=>rw [hz2];omega
  case c2=>exact Nat.zero_le _
  case c3=>exact Nat.le_refl _
  intro w1 hown hgrow
  have hB1:=Below.ofGrown hgrow
  have hH:=(Half.start (α:=OpV) (l:=[]) (R:=OwOpC w1) (w.heap.size+1) (zbn hown 0 (Nat.zero_le _))).whole rfl (by omega)
  have HH:=hide hH
  clear hown hgrow hH
  go_wp2_with fail
  refine wp_loop_rounds 1 ?_
  rw [rounds_succ]
  go_wp2_with fail
  go_ret
  obtain⟨F,hF,hnd,hr⟩:=zaa HH
  exact⟨_,_,rfl,F,hF,hnd,hr,hB1⟩
 obtain⟨_,⟨_,e⟩ | ⟨_,_,_,_,e⟩ | ⟨b,off,cap,rfl,g1,g2,g3,g4,g5⟩⟩:=h
 ·exact absurd e h0
 ·exact absurd e h0
 have hone:∀i (hi:i<l.length),szO l[i]<=2097152:=fun i hi=>by have:=zsY l i hi;unfold szOs at hs;omega
 go_enter Tryz.func19,Tryz.ntmps19
 go_wp2_with (at_make;refine wpList_make_full _ rfl _ _ 38 rfl w.heap.size 83 i0 _ 12 Tryz.underlying38 hi hz0 hz1 .i64 .i64 _ _ l.length rfl rfl rfl rfl ?c1 ?c2 ?c3 ?_)
 case c1=>rw [hz2];omega
 case c2=>exact hm
 case c3=>exact Nat.le_refl _
 intro w1 hown hgrow
 have hB1:=Below.ofGrown hgrow
 have hH:=Half.start (α:=OpV) (l:=l) (R:=OwOpC w1) (w.heap.size+1) (zbn hown 0 (Nat.zero_le _))
 have hlt1:=(hown.lt w.heap.size rfl).2
 clear hown hgrow
 go_wp2_with fail
 go_loopw [4] (fun i wr=>∃k:Nat,k<=l.length∧i=.int .i64 k∧Half wr 83 12 w.heap.size l.length l (OwOpC wr) (w.heap.size+1) k∧Below w.heap.size w wr∧w.heap.size+1<=wr.heap.size) (fun i _=>l.length-(intOf i).toNat)
 case atStart=>exact⟨0,Nat.zero_le _,rfl,hH,hB1,by omega⟩
 case round=>
  obtain⟨k,hk,rfl,hr,hB,hsz⟩:=hrel
  clear hH hB1 hlt1
  by_cases hlt:k<l.length
  ·obtain⟨p1,u1,p2,u2,p3,u3,e0,e1,e2,e3,e4,e5,e6,e7,e8,e9,e10,e11,hro⟩:=zcy hB g4 (g5 k hlt)
   have hlt':(k:Int)<(l.length:Int):=by omega
   have HT:=hide (zqU wr _ l[k] hro (by have:=hone k hlt;unfold szO at this;exact this))
   have HR0:=hide hr
   have HRW:=hide (fun (w2:Xe) (hB2:Below wr.heap.size wr w2)=>(show ∃xs:Xd,w2.ownsRow 0 83 12 (.slice (some ⟨w.heap.size,0,none⟩) l.length l.length) l.length xs by
    obtain⟨_,_,xs,_,_,_,h4,_⟩:=hr.laid
    exact⟨xs,zap h4 (Frm.ofBelow hB2 []) (fun _ _=>by simp)⟩))
   unfold zaY at HT
   generalize hoo:l[k]=o at *
   have HOO:=hide hoo.symm
   clear g5 hoo hr hro hone
   go_wp2_with fail
   clear e0 e1 e2 e3 e4 e5 e6 e7 e8 e9 e10 e11
   refine (zaa HT).mono ?_
   rintro e w2 ⟨a1,c1,a2,c2,a3,c3,rfl,hO,hB2⟩
   obtain⟨hO1,hO2,hO3,hO4⟩:=hO
   have rK:∀g∈FB (.slice a1 o.key.length c1),wr.heap.size<=g∧g<w2.heap.size:=fun g hg=>hO1.lt g (by simpa [FB]using hg)
   have rN:=hO2.rng
   have rT:=hO3.rng
   have o1:=hO1.mono (base':=0) (Nat.zero_le _)
   have o2:=hO2.mono (base':=0) (Nat.zero_le _)
   have o3:=hO3.mono (base':=0) (Nat.zero_le _)
   clear hO1 hO2 hO3
   generalize hnK:o.key.length=nK at *
   generalize hnN:o.name.length=nN at *
   generalize hnT:o.text.length=nT at *
   clear hnK hnN hnT
   obtain⟨xs,hx⟩:=zaa HRW w2 hB2
   have hxl:=hx.1
   have hcell:∀j,j<12->∃y,w2.cell? ⟨w.heap.size,k*12+j,none⟩=some y:=fun j hj=>⟨xs[k*12+j]'(by omega),by rw [hx.cellAt (k*12+j) (by omega),List.getElem?_eq_getElem (by omega)]⟩
   obtain⟨y0,q0⟩:=hcell 0 (by omega)
   obtain⟨y1,q1⟩:=hcell 1 (by omega)
   obtain⟨y2,q2⟩:=hcell 2 (by omega)
   obtain⟨y3,q3⟩:=hcell 3 (by omega)
   obtain⟨y4,q4⟩:=hcell 4 (by omega)
   obtain⟨y5,q5⟩:=hcell 5 (by omega)
   obtain⟨y6,q6⟩:=hcell 6 (by omega)
   obtain⟨y7,q7⟩:=hcell 7 (by omega)
   obtain⟨y8,q8⟩:=hcell 8 (by omega)
   obtain⟨y9,q9⟩:=hcell 9 (by omega)
   obtain⟨y10,q10⟩:=hcell 10 (by omega)
   obtain⟨y11,q11⟩:=hcell 11 (by omega)
   rw [Nat.add_zero]at q0
   have f0:=hx.frozenAt (k*12)
   have f1:=hx.frozenAt (k*12+1)
   have f2:=hx.frozenAt (k*12+2)
   have f3:=hx.frozenAt (k*12+3)
   have f4:=hx.frozenAt (k*12+4)
   have f5:=hx.frozenAt (k*12+5)
   have f6:=hx.frozenAt (k*12+6)
   have f7:=hx.frozenAt (k*12+7)
   have f8:=hx.frozenAt (k*12+8)
   have f9:=hx.frozenAt (k*12+9)
   have f10:=hx.frozenAt (k*12+10)
   have f11:=hx.frozenAt (k*12+11)
   obtain⟨W,hW⟩:∃W,W=((((((((((((w2.setCell ⟨w.heap.size,k*12,none⟩ (.int .i64 o.kind)).setCell ⟨w.heap.size,k*12+1,none⟩ (.int .i64 o.atN)).setCell ⟨w.heap.size,k*12+2,none⟩ (.int .i64 o.atR)).setCell ⟨w.heap.size,k*12+3,none⟩ (.int .i64 o.nodeN)).setCell ⟨w.heap.size,k*12+4,none⟩ (.int .i64 o.nodeR)).setCell ⟨w.heap.size,k*12+5,none⟩ (.int .i64 o.parN)).setCell ⟨w.heap.size,k*12+6,none⟩ (.int .i64 o.parR)).setCell ⟨w.heap.size,k*12+7,none⟩ (.slice a1 nK c1)).setCell ⟨w.heap.size,k*12+8,none⟩ (.int .i64 o.elem)).setCell ⟨w.heap.size,k*12+9,none⟩ (.slice a2 nN c2)).setCell ⟨w.heap.size,k*12+10,none⟩ (.slice a3 nT c3)).setCell ⟨w.heap.size,k*12+11,none⟩ (.bool o.gone)):=⟨_,rfl⟩
   have hf:Frm w2 W [w.heap.size]:=by rw [hW];exact ((((((((((((zab w2 _ _ _).trans (zab _ _ _ _)).trans (zab _ _ _ _)).trans (zab _ _ _ _)).trans (zab _ _ _ _)).trans (zab _ _ _ _)).trans (zab _ _ _ _)).trans (zab _ _ _ _)).trans (zab _ _ _ _)).trans (zab _ _ _ _)).trans (zab _ _ _ _)).trans (zab _ _ _ _))
   have hrg:Rng (FB (.slice a1 nK c1)++FB (.slice a2 nN c2)++FB (.slice a3 nT c3)) wr.heap.size w2.heap.size:=(Rng.app (Rng.app rK rN) rT)
   have hstep:Half W 83 12 w.heap.size l.length l (OwOpC W) (w.heap.size+1) (k+1):=by
    refine (zaa HR0).step hlt (by omega) hsz hB2 [.int .i64 o.kind,.int .i64 o.atN,.int .i64 o.atR,.int .i64 o.nodeN,.int .i64 o.nodeR,.int .i64 o.parN,.int .i64 o.parR,.slice a1 nK c1,.int .i64 o.elem,.slice a2 nN c2,.slice a3 nT c3,.bool o.gone] (FB (.slice a1 nK c1)++FB (.slice a2 nN c2)++FB (.slice a3 nT c3)) rfl ?_ hO4 hrg ?_ hf ?_
    ·rw [<-zaa HOO]
     exact OwOpC.frm (w:=w2) ⟨_,_,_,rfl,o1,o2,o3,rfl⟩ hf (fun g hg=>by have:=hrg g hg;simp;omega)
    ·intro C x G' hx' hne
     exact OwOpC.frm hx' ((Frm.ofBelow hB2 [w.heap.size]).trans hf) (fun g hg=>by have:=hne g hg;simp;omega)
    ·intro zs hz
     have hzl:=hz.1
     have t0:=(hz.stored (k*12) (.int .i64 o.kind)).1
     have t1:=(t0.stored (k*12+1) (.int .i64 o.atN)).1
     have t2:=(t1.stored (k*12+2) (.int .i64 o.atR)).1
     have t3:=(t2.stored (k*12+3) (.int .i64 o.nodeN)).1
     have t4:=(t3.stored (k*12+4) (.int .i64 o.nodeR)).1
     have t5:=(t4.stored (k*12+5) (.int .i64 o.parN)).1
     have t6:=(t5.stored (k*12+6) (.int .i64 o.parR)).1
     have t7:=(t6.stored (k*12+7) (.slice a1 nK c1)).1
     have t8:=(t7.stored (k*12+8) (.int .i64 o.elem)).1
     have t9:=(t8.stored (k*12+9) (.slice a2 nN c2)).1
     have t10:=(t9.stored (k*12+10) (.slice a3 nT c3)).1
     have t11:=(t10.stored (k*12+11) (.bool o.gone)).1
     rw [hW]
     exact⟨_,t11,zlr zs (k*12) _ _ _ _ _ _ _ _ _ _ _ _ (by omega)⟩
   have HB0:=hB.trans ((hB2.mono hB.size).trans (hf.below (by have:=hB2.size;have:=hB.size;omega) (fun g hg=>by simp at hg;omega)))
   have hs2:w.heap.size+1<=W.heap.size:=by have:=hf.size;have:=hB2.size;omega
   subst hW
   have HS:=hide hstep
   have HB:=hide HB0
   have HS2:=hide hs2
   clear hstep hf hx o1 o2 o3 hO4 hB2 hB HB0 hs2 hrg hcell rK rN rT HT HR0 HRW HOO
   go_wp2_with fail
   go_roundw
   case rel=>exact⟨k+1,by omega,by go_num,zaa HS,zaa HB,zaa HS2⟩
   case measure=>simp [intOf];omega
  ·have e:k=l.length:=by omega
   subst e
   have HW:=hide (hr.whole rfl (by omega))
   clear hr g5 hone
   go_wp2_with fail
   go_ret
   obtain⟨F,hF,hnd,hrg⟩:=zaa HW
   exact⟨_,_,rfl,F,hF,hnd,hrg,hB⟩
set_option maxHeartbeats 3200000 in
theorem zoB (w:Xe) (v:Xf) (l:List (Int×Int)) (h:RdIds w v l) (hs:l.length<=2097152) :
  Calls Tryz.prog 20 #[v] w fun e w'=>∃a c,e=.returned (.slice a l.length c)∧∃F,OwIds w' (.slice a l.length c) l F∧F.Nodup∧Rng F w.heap.size w'.heap.size∧Below w.heap.size w w':=by
 obtain⟨i0,hi,hz0,hz1,hz2⟩:=info_parts Tryz.info81
 have hm:=h.1
 obtain⟨rfl,a,cap,rfl⟩ | ⟨b,off,cap,rfl,h0,g4,g5⟩:=h.cases
 ·go_enter Tryz.func20,Tryz.ntmps20
  go_wp2_with (at_make;refine wpList_make_full _ rfl _ _ 39 rfl w.heap.size 81 i0 _ 2 Tryz.underlying39 hi hz0 hz1 .i64 .i64 _ _ 0 rfl rfl rfl rfl ?c1 ?c2 ?c3 ?_)
  case c1=>rw [hz2];omega
  case c2=>exact Nat.zero_le _
  case c3=>exact Nat.le_refl _
  intro w1 hown hgrow
  have hB1:=Below.ofGrown hgrow
  have hH:=(Half.start (α:=Int×Int) (l:=[]) (R:=OwIdC) (w.heap.size+1) (zbn hown 0 (Nat.zero_le _))).whole rfl (by omega)
  have HH:=hide hH
  clear hown hgrow hH
  go_wp2_with fail
  refine wp_loop_rounds 1 ?_
  rw [rounds_succ]
  go_wp2_with fail
  go_ret
  obtain⟨F,hF,hnd,hr⟩:=zaa HH
  exact⟨_,_,rfl,F,hF,hnd,hr,hB1⟩
 go_enter Tryz.func20,Tryz.ntmps20
 go_wp2_with (at_make;refine wpList_make_full _ rfl _ _ 39 rfl w.heap.size 81 i0 _ 2 Tryz.underlying39 hi hz0 hz1 .i64 .i64 _ _ l.length rfl rfl rfl rfl ?c1 ?c2 ?c3 ?_)
 case c1=>rw [hz2];omega
 case c2=>exact hm
 case c3=>exact Nat.le_refl _
 intro w1 hown hgrow
 have hB1:=Below.ofGrown hgrow
 have hH:=Half.start (α:=Int×Int) (l:=l) (R:=OwIdC) (w.heap.size+1) (zbn hown 0 (Nat.zero_le _))
 have hlt1:=(hown.lt w.heap.size rfl).2
 clear hown hgrow
 go_wp2_with fail
 go_loopw [4] (fun i wr=>∃k:Nat,k<=l.length∧i=.int .i64 k∧Half wr 81 2 w.heap.size l.length l OwIdC (w.heap.size+1) k∧Below w.heap.size w wr∧w.heap.size+1<=wr.heap.size) (fun i _=>l.length-(intOf i).toNat)
 case atStart=>exact⟨0,Nat.zero_le _,rfl,hH,hB1,by omega⟩
 case round=>
  obtain⟨k,hk,rfl,hr,hB,hsz⟩:=hrel
  clear hH hB1 hlt1
  by_cases hlt:k<l.length
  ·obtain⟨c0,c1⟩:=g5 k hlt
   have e0:=(hB.cell (p:=⟨b,off+k*2,none⟩) g4).trans c0
   have e1:=(hB.cell (p:=⟨b,off+k*2+1,none⟩) g4).trans c1
   have hlt':(k:Int)<(l.length:Int):=by omega
   have HT:=hide (zfz wr l[k].1 l[k].2)
   have HR0:=hide hr
   have HRW:=hide (fun (w2:Xe) (hB2:Below wr.heap.size wr w2)=>(show ∃xs:Xd,w2.ownsRow 0 81 2 (.slice (some ⟨w.heap.size,0,none⟩) l.length l.length) l.length xs by
    obtain⟨_,_,xs,_,_,_,h4,_⟩:=hr.laid
    exact⟨xs,zap h4 (Frm.ofBelow hB2 []) (fun _ _=>by simp)⟩))
   generalize hoo:l[k]=o at *
   have HOO:=hide hoo.symm
   clear g5 hoo hr c0 c1
   go_wp2_with fail
   clear e0 e1
   refine (zaa HT).mono ?_
   rintro e w2 ⟨rfl,hB2⟩
   obtain⟨xs,hx⟩:=zaa HRW w2 hB2
   have hxl:=hx.1
   have hcell:∀j,j<2->∃y,w2.cell? ⟨w.heap.size,k*2+j,none⟩=some y:=fun j hj=>⟨xs[k*2+j]'(by omega),by rw [hx.cellAt (k*2+j) (by omega),List.getElem?_eq_getElem (by omega)]⟩
   obtain⟨y0,q0⟩:=hcell 0 (by omega)
   obtain⟨y1,q1⟩:=hcell 1 (by omega)
   rw [Nat.add_zero]at q0
   have f0:=hx.frozenAt (k*2)
   have f1:=hx.frozenAt (k*2+1)
   obtain⟨W,hW⟩:∃W,W=((w2.setCell ⟨w.heap.size,k*2,none⟩ (.int .i64 o.1)).setCell ⟨w.heap.size,k*2+1,none⟩ (.int .i64 o.2)):=⟨_,rfl⟩
   have hf:Frm w2 W [w.heap.size]:=by rw [hW];exact (zab w2 _ _ _).trans (zab _ _ _ _)
   have hstep:Half W 81 2 w.heap.size l.length l OwIdC (w.heap.size+1) (k+1):=by
    refine (zaa HR0).step hlt (by omega) hsz hB2 [.int .i64 o.1,.int .i64 o.2] [] rfl ?_ List.nodup_nil (Rng.nil _ _) (fun C x G h _=>h) hf ?_
    ·rw [<-zaa HOO];exact⟨rfl,rfl⟩
    ·intro zs hz
     have hzl:=hz.1
     have t0:=(hz.stored (k*2) (.int .i64 o.1)).1
     have t1:=(t0.stored (k*2+1) (.int .i64 o.2)).1
     rw [hW]
     exact⟨_,t1,zkp zs (k*2) _ _ (by omega)⟩
   have HB0:=hB.trans ((hB2.mono hB.size).trans (hf.below (by have:=hB2.size;have:=hB.size;omega) (fun g hg=>by simp at hg;omega)))
   have hs2:w.heap.size+1<=W.heap.size:=by have:=hf.size;have:=hB2.size;omega
   subst hW
   have HS:=hide hstep
   have HB:=hide HB0
   have HS2:=hide hs2
   clear hstep hf hx hB2 hB HB0 hs2 hcell HT HR0 HRW HOO
   go_wp2_with fail
   go_roundw
   case rel=>exact⟨k+1,by omega,by go_num,zaa HS,zaa HB,zaa HS2⟩
   case measure=>simp [intOf];omega
  ·have e:k=l.length:=by omega
   subst e
   have HW:=hide (hr.whole rfl (by omega))
   clear hr g5
   go_wp2_with fail
   go_ret
   obtain⟨F,hF,hnd,hrg⟩:=zaa HW
   exact⟨_,_,rfl,F,hF,hnd,hrg,hB⟩
set_option maxHeartbeats 12800000 in
theorem zpb (n:Nat) (w:Xe) (a b c d e vo vu:Xf) (r:RepV n) (h:RdRep n w a b c d e vo vu r) (hs1:szT (n+1) r.first<=2097152) (hs2:szOs r.ops<=2097152) (hs3:r.und.length<=2097152) :
  Calls Tryz.prog 6 #[zaQ r a b c d e vo vu] w fun e w'=>∃(kd:Int) (a1:Xc) (n1 c1:Nat) (a2:Xc) (n2 c2:Nat) (a3:Xc) (n3 c3:Nat) (a4:Xc) (n4 c4:Nat) (a5:Xc) (c5:Nat) (a6:Xc) (c6:Nat),
   e=.returned (.agg #[.int .i64 r.id,.int .i64 r.clock,.int .i64 kd,.slice a1 n1 c1,.slice a2 n2 c2,.slice a3 n3 c3,.slice a4 n4 c4,.slice a5 r.ops.length c5,.slice a6 r.und.length c6,.bool r.lost])∧∃F,OwRep n w' (.int .i64 kd) (.slice a1 n1 c1) (.slice a2 n2 c2) (.slice a3 n3 c3) (.slice a4 n4 c4) (.slice a5 r.ops.length c5) (.slice a6 r.und.length c6) r F∧F.Nodup∧Rng F w.heap.size w'.heap.size∧Below w.heap.size w w':=by
 obtain⟨z,ab,nb,cb,ac,nc,cc,ad,nd,cd,ae,ne,ce,rfl,rfl,rfl,rfl,rfl⟩:=rd5 h.1
 obtain⟨ao,co,rfl,_,_⟩:=Elems.shape h.2.1
 obtain⟨au,cu,rfl,_,_⟩:=Elems.shape h.2.2
 obtain⟨h1,h2,h3⟩:=h
 have H1:=hide (fun W (hW:Below w.heap.size w W)=>znu (n+1) W _ _ _ _ _ r.first (h1.keep hW) hs1)
 have H2:=hide (fun W (hW:Below w.heap.size w W)=>zok W _ r.ops (h2.keep hW) hs2)
 have H3:=hide (fun W (hW:Below w.heap.size w W)=>zoB W _ r.und (h3.keep hW) hs3)
 clear h1 h2 h3
 unfold zaQ
 go_enter Tryz.func6,Tryz.ntmps6
 go_wp2_with fail
 obtain⟨l0,l1,l2,hA,hWs⟩:=zre w #[.int .i64 r.id,.int .i64 r.clock,.int .i64 z,.slice ab nb cb,.slice ac nc cc,.slice ad nd cd,.slice ae ne ce,.slice ao r.ops.length co,.slice au r.und.length cu,.bool r.lost] #[.int .i64 0,.int .i64 0,.int .i64 0,.slice none 0 0,.slice none 0 0,.slice none 0 0,.slice none 0 0,.slice none 0 0,.slice none 0 0,.bool false] #[.int .i64 r.id,.int .i64 r.clock,.int .i64 0,.slice none 0 0,.slice none 0 0,.slice none 0 0,.slice none 0 0,.slice none 0 0,.slice none 0 0,.bool false] 30 41
 generalize hW:(((w.alloc (.cells #[.int .i64 r.id,.int .i64 r.clock,.int .i64 z,.slice ab nb cb,.slice ac nc cc,.slice ad nd cd,.slice ae ne ce,.slice ao r.ops.length co,.slice au r.und.length cu,.bool r.lost] 30)).alloc (.cells #[.int .i64 0,.int .i64 0,.int .i64 0,.slice none 0 0,.slice none 0 0,.slice none 0 0,.slice none 0 0,.slice none 0 0,.slice none 0 0,.bool false] 41)).alloc (.cells #[.int .i64 r.id,.int .i64 r.clock,.int .i64 0,.slice none 0 0,.slice none 0 0,.slice none 0 0,.slice none 0 0,.slice none 0 0,.slice none 0 0,.bool false] 41))=W at *
 have HWs:=hide hWs
 clear hW hWs
 refine (zaa H1 W hA).mono ?_
 rintro e w1 ⟨kd,a1,n1,c1,a2,n2,c2,a3,n3,c3,a4,n4,c4,rfl,F1,ho1,nd1,r1,hB1⟩
 have hA1:=zad hA hB1
 replace l0:=l0.all hB1
 replace l1:=l1.all hB1
 replace l2:=l2.all hB1
 have s1:=hB1.size
 have p:=l0.cell 7
 have q2:=l2.cell 2
 have f2:=l2.frozen 2
 have q3:=l2.cell 3
 have f3:=l2.frozen 3
 have q4:=l2.cell 4
 have f4:=l2.frozen 4
 have q5:=l2.cell 5
 have f5:=l2.frozen 5
 have q6:=l2.cell 6
 have f6:=l2.frozen 6
 simp at p q2 q3 q4 q5 q6
 have f1:Frm w1 (((((w1.setCell ⟨w.heap.size+1+1,2,none⟩ (.int .i64 kd)).setCell ⟨w.heap.size+1+1,3,none⟩ (.slice a1 n1 c1)).setCell ⟨w.heap.size+1+1,4,none⟩ (.slice a2 n2 c2)).setCell ⟨w.heap.size+1+1,5,none⟩ (.slice a3 n3 c3)).setCell ⟨w.heap.size+1+1,6,none⟩ (.slice a4 n4 c4)) [w.heap.size+1+1]:=(((((zab w1 (w.heap.size+1+1) 2 (.int .i64 kd)).trans (zab _ (w.heap.size+1+1) 3 (.slice a1 n1 c1))).trans (zab _ (w.heap.size+1+1) 4 (.slice a2 n2 c2))).trans (zab _ (w.heap.size+1+1) 5 (.slice a3 n3 c3))).trans (zab _ (w.heap.size+1+1) 6 (.slice a4 n4 c4)))
 have m2:=(((((l2.set 2 (.int .i64 kd)).set 3 (.slice a1 n1 c1)).set 4 (.slice a2 n2 c2)).set 5 (.slice a3 n3 c3)).set 6 (.slice a4 n4 c4))
 simp only [List.setIfInBounds_toArray,List.set_cons_zero,List.set_cons_succ]at m2
 have hsz:=zaa HWs
 have M:=hide (And.intro (And.intro (l0.frm f1 (by simp only [List.mem_singleton];omega)) (And.intro (l1.frm f1 (by simp only [List.mem_singleton];omega)) m2)) (And.intro (ho1.frm f1 (fun g hg=>by have:=r1 g hg;simp;omega)) (And.intro (hA1.trans (f1.below hA1.size (fun g hg=>by simp at hg;omega))) f1.size)))
 clear l0 l1 l2 ho1 hA hA1 hB1 m2 f1
 go_wp2_with fail
 clear p q2 q3 q4 q5 q6 f2 f3 f4 f5 f6
 obtain⟨⟨l0,l1,l2⟩,ho1,hA1,s1'⟩:=zaa M
 clear M
 generalize (((((w1.setCell ⟨w.heap.size+1+1,2,none⟩ (.int .i64 kd)).setCell ⟨w.heap.size+1+1,3,none⟩ (.slice a1 n1 c1)).setCell ⟨w.heap.size+1+1,4,none⟩ (.slice a2 n2 c2)).setCell ⟨w.heap.size+1+1,5,none⟩ (.slice a3 n3 c3)).setCell ⟨w.heap.size+1+1,6,none⟩ (.slice a4 n4 c4))=w1' at *
 refine (zaa H2 w1' hA1).mono ?_
 rintro e w2 ⟨a5,c5,rfl,F2,ho2,nd2,r2,hB2⟩
 have hA2:=zad hA1 hB2
 replace l0:=l0.all hB2
 replace l1:=l1.all hB2
 replace l2:=l2.all hB2
 replace ho1:=ho1.keep hB2
 have s2:=hB2.size
 have p:=l0.cell 8
 have q:=l2.cell 7
 have f:=l2.frozen 7
 simp at p q
 have f2:=zab w2 (w.heap.size+1+1) 7 (.slice a5 r.ops.length c5)
 have m2:=l2.set 7 (.slice a5 r.ops.length c5)
 simp only [List.setIfInBounds_toArray,List.set_cons_zero,List.set_cons_succ]at m2
 have M:=hide (And.intro (And.intro (l0.frm f2 (by simp only [List.mem_singleton];omega)) (And.intro (l1.frm f2 (by simp only [List.mem_singleton];omega)) m2)) (And.intro (And.intro (ho1.frm f2 (fun g hg=>by have:=r1 g hg;simp;omega)) (OwOps.frm ho2 f2 (fun g hg=>by have:=r2 g hg;simp;omega))) (And.intro (hA2.trans (f2.below hA2.size (fun g hg=>by simp at hg;omega))) f2.size)))
 clear l0 l1 l2 ho1 ho2 hA1 hA2 hB2 m2 f2
 go_wp2_with fail
 clear p q f
 obtain⟨⟨l0,l1,l2⟩,⟨ho1,ho2⟩,hA2,s2'⟩:=zaa M
 clear M
 generalize (w2.setCell ⟨w.heap.size+1+1,7,none⟩ (.slice a5 r.ops.length c5))=w2' at *
 refine (zaa H3 w2' hA2).mono ?_
 rintro e w3 ⟨a6,c6,rfl,F3,ho3,nd3,r3,hB3⟩
 have hA3:=zad hA2 hB3
 replace l0:=l0.all hB3
 replace l1:=l1.all hB3
 replace l2:=l2.all hB3
 replace ho1:=ho1.keep hB3
 replace ho2:=OwOps.frm ho2 (Frm.ofBelow hB3 []) (fun _ _=>by simp)
 have s3:=hB3.size
 have p:=l0.cell 9
 have g0:=l1.cell 0
 have b0:=l1.frozen 0
 have d0:=l2.cell 0
 have g1:=l1.cell 1
 have b1:=l1.frozen 1
 have d1:=l2.cell 1
 have g2:=l1.cell 2
 have b2:=l1.frozen 2
 have d2:=l2.cell 2
 have g3:=l1.cell 3
 have b3:=l1.frozen 3
 have d3:=l2.cell 3
 have g4:=l1.cell 4
 have b4:=l1.frozen 4
 have d4:=l2.cell 4
 have g5:=l1.cell 5
 have b5:=l1.frozen 5
 have d5:=l2.cell 5
 have g6:=l1.cell 6
 have b6:=l1.frozen 6
 have d6:=l2.cell 6
 have g7:=l1.cell 7
 have b7:=l1.frozen 7
 have d7:=l2.cell 7
 have g8:=l1.cell 8
 have b8:=l1.frozen 8
 have d8:=l2.cell 8
 have g9:=l1.cell 9
 have b9:=l1.frozen 9
 have d9:=l2.cell 9
 have i8:=l2.frozen 8
 have i9:=l2.frozen 9
 simp at p g0 d0 g1 d1 g2 d2 g3 d3 g4 d4 g5 d5 g6 d6 g7 d7 g8 d8 g9 d9
 obtain⟨X,hX⟩:∃X,X=((((((((((((w3.setCell ⟨w.heap.size+1+1,8,none⟩ (.slice a6 r.und.length c6)).setCell ⟨w.heap.size+1+1,9,none⟩ (.bool r.lost)).setCell ⟨w.heap.size+1,0,none⟩ (.int .i64 r.id)).setCell ⟨w.heap.size+1,1,none⟩ (.int .i64 r.clock)).setCell ⟨w.heap.size+1,2,none⟩ (.int .i64 kd)).setCell ⟨w.heap.size+1,3,none⟩ (.slice a1 n1 c1)).setCell ⟨w.heap.size+1,4,none⟩ (.slice a2 n2 c2)).setCell ⟨w.heap.size+1,5,none⟩ (.slice a3 n3 c3)).setCell ⟨w.heap.size+1,6,none⟩ (.slice a4 n4 c4)).setCell ⟨w.heap.size+1,7,none⟩ (.slice a5 r.ops.length c5)).setCell ⟨w.heap.size+1,8,none⟩ (.slice a6 r.und.length c6)).setCell ⟨w.heap.size+1,9,none⟩ (.bool r.lost)):=⟨_,rfl⟩
 have hf:Frm w3 X [w.heap.size+1+1,w.heap.size+1]:=by
  rw [hX]
  exact (((((((((((((zab w3 _ _ _).mono (by simp)).trans ((zab _ _ _ _).mono (by simp))).trans ((zab _ _ _ _).mono (by simp))).trans ((zab _ _ _ _).mono (by simp))).trans ((zab _ _ _ _).mono (by simp))).trans ((zab _ _ _ _).mono (by simp))).trans ((zab _ _ _ _).mono (by simp))).trans ((zab _ _ _ _).mono (by simp))).trans ((zab _ _ _ _).mono (by simp))).trans ((zab _ _ _ _).mono (by simp))).trans ((zab _ _ _ _).mono (by simp))).trans ((zab _ _ _ _).mono (by simp)))
 have fin:OwRep n X (.int .i64 kd) (.slice a1 n1 c1) (.slice a2 n2 c2) (.slice a3 n3 c3) (.slice a4 n4 c4) (.slice a5 r.ops.length c5) (.slice a6 r.und.length c6) r (F1++F2++F3):=
  ⟨F1,F2,F3,ho1.frm hf (fun g hg=>by have:=r1 g hg;simp;omega),OwOps.frm ho2 hf (fun g hg=>by have:=r2 g hg;simp;omega),OwIds.frm ho3 hf (fun g hg=>by have:=r3 g hg;simp;omega),rfl⟩
 have nd:(F1++F2++F3).Nodup:=zbR (zbR nd1 nd2 (r1.mono (Nat.le_refl _) (by omega:w1.heap.size<=w1'.heap.size)) r2) nd3 ((r1.mono (Nat.le_refl _) (by omega:w1.heap.size<=w2'.heap.size)).app (r2.mono (by omega) (by omega))) r3
 have rg:Rng (F1++F2++F3) w.heap.size X.heap.size:=by
  have:=hf.size
  exact ((r1.mono (by omega) (by omega)).app (r2.mono (by omega) (by omega))).app (r3.mono (by omega) (by omega))
 have bel:=hA3.trans (hf.below hA3.size (fun g hg=>by simp at hg;omega))
 subst hX
 have HP:=hide (And.intro fin (And.intro nd (And.intro rg bel)))
 clear fin nd rg bel hf l0 l1 l2 ho1 ho2 ho3 hA2 hA3 hB3 r1 r2 r3 nd1 nd2 nd3 hsz
 go_wp2_with fail
 obtain⟨fin,nd,rg,bel⟩:=zaa HP
 exact bodyPost_ret (v:=.agg #[.int .i64 r.id,.int .i64 r.clock,.int .i64 kd,.slice a1 n1 c1,.slice a2 n2 c2,.slice a3 n3 c3,.slice a4 n4 c4,.slice a5 r.ops.length c5,.slice a6 r.und.length c6,.bool r.lost]) (by simp [results,Tryz.results6,go_sem,g0,g1,g2,g3,g4,g5,g6,g7,g8,g9]) rfl ⟨kd,a1,_,c1,a2,_,c2,a3,_,c3,a4,_,c4,a5,c5,a6,c6,rfl,_,fin,nd,rg,bel⟩
theorem zld {a b:Int} (h:a=b):Ending.returned (.int .i64 a)=.returned (.int .i64 b):=by rw [h]
set_option maxHeartbeats 1600000 in
theorem znP (w:Xe) (v:Xf) (l:List OpV) (left:Int) (h:RdOps w v l) (h0:0<=left) (h1:left<=1000000000) :
  Calls Tryz.prog 14 #[v,.int .i64 left] w fun e w'=>e=.returned (.int .i64 (rest (szOs l) left))∧Below w.heap.size w w':=by
 have hm:=h.1
 unfold maxLen at hm
 by_cases h2:(l.length:Int)<=left
 ·have hd:¬ left-(l.length:Int)<0:=by omega
  obtain⟨_,⟨rfl,rfl⟩ | ⟨x,cap,rfl,hc,rfl⟩ | ⟨b,off,cap,rfl,g1,g2,g3,g4,g5⟩⟩:=h
  ·go_enter Tryz.func14,Tryz.ntmps14
   go_wp2_with fail
   refine wp_loop_rounds 1 ?_
   rw [rounds_succ]
   go_wp2_with fail
   go_ret
   exact⟨zld (by rw [zaC (by simpa [szOs]using h0)];simp [szOs]),Below.refl _ _⟩
  ·go_enter Tryz.func14,Tryz.ntmps14
   go_wp2_with fail
   refine wp_loop_rounds 1 ?_
   rw [rounds_succ]
   go_wp2_with fail
   go_ret
   exact⟨zld (by rw [zaC (by simpa [szOs]using h0)];simp [szOs]),Below.refl _ _⟩
  ·have HE:=hide (zcB (b:=(l.map szO).sum) h2)
   go_enter Tryz.func14,Tryz.ntmps14
   go_wp2_with fail
   go_loopw [1,5] (fun q i wr=>∃k:Nat,k<=l.length∧i=.int .i64 k∧((sumO l k:Nat):Int)<=left-(l.length:Int)∧q=.int .i64 (left-(l.length:Int)-(sumO l k:Nat))∧Below w.heap.size w wr) (fun _ i _=>l.length-(intOf i).toNat)
   case atStart=>exact⟨0,Nat.zero_le _,rfl,by simp [sumO];omega,by simp [sumO],Below.refl _ _⟩
   case round=>
    obtain⟨k,hk,rfl,hs,rfl,hB⟩:=hrel
    by_cases hlt:k<l.length
    ·obtain⟨a1,c1,a2,c2,a3,c3,e0,e1,e2,e3,e4,e5,e6,e7,e8,e9,e10,e11,hr⟩:=zcy hB g4 (g5 k hlt)
     have hlt':(k:Int)<(l.length:Int):=by omega
     have hst:=zjd l k hlt
     have hle:=zmh l (k+1)
     rw [hst]at hle
     have HR:=hide (zqv wr _ l[k] (left-(l.length:Int)-(sumO l k:Nat)) hr (by omega) (by omega))
     change Hid (Calls _ _ _ _ fun e w'=>e=.returned (.int .i64 (zdt (szO l[k]) _))∧_)at HR
     unfold zaY at HR
     generalize l[k]=o at *
     generalize o.key.length=nK at *
     generalize o.name.length=nN at *
     generalize o.text.length=nT at *
     generalize hq:sumO l k=q at *
     have HQ:=hide hq
     have HST:=hide hst
     clear g5 hq hst hr
     go_wp2_with fail
     refine (zaa HR).mono ?_
     rintro e w2 ⟨rfl,hB2⟩
     have hB3:=hB.trans (hB2.mono hB.size)
     clear e0 e1 e2 e3 e4 e5 e6 e7 e8 e9 e10 e11 HR
     generalize szO o=m at *
     by_cases h3:(m:Int)<=left-(l.length:Int)-(q:Int)
     ·rw [zcQ h3]
      have hd3:¬ left-(l.length:Int)-(q:Int)-(m:Int)<0:=by omega
      go_wp2_with fail
      go_roundw
      case rel=>exact⟨k+1,by omega,by go_num,by rw [zaa HST];omega,by rw [zaa HST];exact congrArg (Value.int .i64) (by omega),hB3⟩
      case measure=>simp [intOf];omega
     ·rw [zbS h3]
      have HF:=hide (show rest (szOs l) left = -1 by unfold szOs;rw [zaa HE,zaA (by omega)])
      go_wp2_with fail
      go_ret
      exact⟨by rw [zaa HF];rfl,hB3⟩
    ·have e:k=l.length:=by omega
     subst e
     rw [zqA]at hs ⊢
     have HF:=hide (show rest (szOs l) left=left-(l.length:Int)-((l.map szO).sum:Nat) by unfold szOs;rw [zaa HE,zaC hs])
     go_wp2_with fail
     go_ret
     exact⟨by rw [zaa HF];rfl,hB⟩
 ·have HF:=hide (show rest (szOs l) left = -1 from zcN h2)
  obtain⟨a,cap,rfl,_,_⟩:=Elems.shape h
  have hd:left-(l.length:Int)<0:=by omega
  go_enter Tryz.func14,Tryz.ntmps14
  go_wp2_with fail
  go_ret
  exact⟨by rw [zaa HF];rfl,Below.refl _ _⟩
theorem zpn (w:Xe) (v:Xf) (l:List (Int×Int)) (left:Int) (h:RdIds w v l) (h0:0<=left) (h1:left<=1000000000) :
  Calls Tryz.prog 15 #[v,.int .i64 left] w fun e w'=>e=.returned (.int .i64 (rest l.length left))∧w'=w:=by
 have hm:=h.1
 unfold maxLen at hm
 obtain⟨a,cap,rfl,_,_⟩:=Elems.shape h
 by_cases h2:(l.length:Int)<=left
 ·have hd:¬ left-(l.length:Int)<0:=by omega
  rw [zaC h2]
  go_enter Tryz.func15,Tryz.ntmps15
  go_wp2_with fail
  go_ret
  exact⟨rfl,rfl⟩
 ·have hd:left-(l.length:Int)<0:=by omega
  rw [zaA h2]
  go_enter Tryz.func15,Tryz.ntmps15
  go_wp2_with fail
  go_ret
  exact⟨rfl,rfl⟩
def szR {n:Nat} (r:RepV n):Nat:=szT (n+1) r.first+szOs r.ops+r.und.length
set_option maxHeartbeats 6400000 in
theorem zoC (n:Nat) (w:Xe) (a b c d e vo vu:Xf) (r:RepV n) (left:Int) (h:RdRep n w a b c d e vo vu r) (h0:0<=left) (h1:left<=1000000000) :
  Calls Tryz.prog 4 #[zaQ r a b c d e vo vu,.int .i64 left] w fun e w'=>e=.returned (.int .i64 (rest (szR r) left))∧Below w.heap.size w w':=by
 obtain⟨z,ab,nb,cb,ac,nc,cc,ad,nd,cd,ae,ne,ce,rfl,rfl,rfl,rfl,rfl⟩:=rd5 h.1
 obtain⟨ao,co,rfl,_,_⟩:=Elems.shape h.2.1
 obtain⟨au,cu,rfl,_,_⟩:=Elems.shape h.2.2
 have H1:=hide (fun W (hW:Below w.heap.size w W)=>zng (n+1) W _ _ _ _ _ r.first left (h.1.keep hW) h0 h1)
 have H2:=hide (fun W (hW:Below w.heap.size w W) left h0 h1=>znP W _ r.ops left (h.2.1.keep hW) h0 h1)
 have H3:=hide (fun W (hW:Below w.heap.size w W) left h0 h1=>zpn W _ r.und left (h.2.2.keep hW) h0 h1)
 clear h
 unfold zaQ
 have hszR:szR r=szT (n+1) r.first+szOs r.ops+r.und.length:=rfl
 have HR:=hide hszR
 generalize hq:szR r=q at *
 clear hq hszR
 generalize szT (n+1) r.first=m1 at *
 generalize hm2:szOs r.ops=m2 at *
 clear hm2
 generalize r.ops.length=no at *
 generalize r.und.length=nu at *
 have hA:=(Below.refl w.heap.size w).alloc (Nat.le_refl _) (.cells #[.int .i64 r.id,.int .i64 r.clock,.int .i64 z,.slice ab nb cb,.slice ac nc cc,.slice ad nd cd,.slice ae ne ce,.slice ao no co,.slice au nu cu,.bool r.lost] 30)
 have l1:=Loc.made w #[.int .i64 r.id,.int .i64 r.clock,.int .i64 z,.slice ab nb cb,.slice ac nc cc,.slice ad nd cd,.slice ae ne ce,.slice ao no co,.slice au nu cu,.bool r.lost] 30
 go_enter Tryz.func4,Tryz.ntmps4
 go_wp2_with fail
 generalize (w.alloc (.cells #[.int .i64 r.id,.int .i64 r.clock,.int .i64 z,.slice ab nb cb,.slice ac nc cc,.slice ad nd cd,.slice ae ne ce,.slice ao no co,.slice au nu cu,.bool r.lost] 30))=wa at *
 refine (zaa H1 _ hA).mono ?_
 rintro e w1 ⟨rfl,hB⟩
 have hA1:=zad hA hB
 replace l1:=l1.all hB
 clear hA hB H1
 obtain⟨x0,x1,x2,x3,x4,x5,x6,x7,x8,x9⟩:=l1.ten
 by_cases q1:(m1:Int)<=left
 case neg=>
  have HF:=hide (show rest q left = -1 from zaA (by rw [zaa HR];omega))
  rw [zaA q1]
  go_wp2_with fail
  go_ret
  exact⟨by rw [zaa HF];rfl,hA1⟩
 rw [zaC q1]
 have d1:¬ left-(m1:Int)<0:=by omega
 go_wp2_with fail
 clear x0 x1 x2 x3 x4 x5 x6 x7 x8 x9
 refine (zaa H2 _ hA1 _ (by omega) (by omega)).mono ?_
 rintro e w2 ⟨rfl,hB⟩
 have hA2:=zad hA1 hB
 replace l1:=l1.all hB
 clear hA1 hB H2
 obtain⟨x0,x1,x2,x3,x4,x5,x6,x7,x8,x9⟩:=l1.ten
 by_cases q2:(m2:Int)<=left-(m1:Int)
 case neg=>
  have HF:=hide (show rest q left = -1 from zaA (by rw [zaa HR];omega))
  rw [zaA q2]
  go_wp2_with fail
  go_ret
  exact⟨by rw [zaa HF];rfl,hA2⟩
 rw [zaC q2]
 have d2:¬ left-(m1:Int)-(m2:Int)<0:=by omega
 go_wp2_with fail
 clear x0 x1 x2 x3 x4 x5 x6 x7 x8 x9
 refine (zaa H3 _ hA2 _ (by omega) (by omega)).mono ?_
 rintro e w2 ⟨rfl,rfl⟩
 by_cases q3:(nu:Int)<=left-(m1:Int)-(m2:Int)
 case neg=>
  have HF:=hide (show rest q left = -1 from zaA (by rw [zaa HR];omega))
  rw [zaA q3]
  go_wp2_with fail
  go_ret
  exact⟨by rw [zaa HF];rfl,hA2⟩
 rw [zaC q3]
 have d3:¬ left-(m1:Int)-(m2:Int)-(nu:Int)<0:=by omega
 have HF:=hide (show rest q left=left-(m1:Int)-(m2:Int)-(nu:Int) by rw [zaC (by rw [zaa HR];omega),zaa HR];omega)
 go_wp2_with fail
 go_ret
 exact⟨by rw [zaa HF];rfl,hA2⟩
theorem ziQ:∀(l:List OpV),zaN l<=9*szOs l
 | []=>by simp [zaN]
 | x::r=>by
  have h2:=ziQ r
  unfold szOs at h2 ⊢
  simp only [zaN,List.length_cons,List.map_cons,List.sum_cons]
  omega
theorem zpH {n:Nat} (r:RepV n):(docV r).length<=144725:=by
 unfold docV
 by_cases h:repB r=true
 ·rw [if_pos h];exact zmo h
 ·rw [if_neg h];simp
theorem OwRep.keepD {n:Nat} {w w':Xe} {a b c d e vo vu:Xf} {r:RepV n} {F:Xb} (h:OwRep n w a b c d e vo vu r F) (hb:Below w.heap.size w w'):OwRep n w' a b c d e vo vu r F:=by
 obtain⟨F1,F2,F3,h1,h2,h3,e⟩:=h
 exact⟨F1,F2,F3,h1.keep hb,OwOps.frm h2 (Frm.ofBelow hb []) (fun _ _=>by simp),OwElems.frm h3 (Frm.ofBelow hb []) (fun _ _=>by simp) (fun C x G hr hG=>hr),e⟩
set_option maxHeartbeats 40000000 in
theorem zrN (n:Nat) (w:Xe) (a b c d e vo vu:Xf) (r:RepV n) (h:RdRep n w a b c d e vo vu r) (hG:Glo w) :
  Calls Tryz.prog 3 #[zaQ r a b c d e vo vu] w fun e w'=>e=.returned (.bool true)∧Below w.heap.size w w':=by
 have HG:=hide (fun W (hW:Below w.heap.size w W)=>hG.keep hW)
 have HZ:=hide (fun W (hW:Below w.heap.size w W)=>zoC n W _ _ _ _ _ _ _ r 1048576 (h.keep hW) (by omega) (by omega))
 have HT:=hide (fun (hz:szR r<=1048576) W (hW:Below w.heap.size w W)=>zpb n W _ _ _ _ _ _ _ r (h.keep hW) (by unfold szR at hz;omega) (by unfold szR at hz;omega) (by unfold szR at hz;omega))
 have HS:=hide (fun W a b c d e vo vu h=>zqC n W a b c d e vo vu r h)
 have HI:=hide (fun (hz:szR r<=1048576) W a b c d e vo vu h hG=>zpO n W a b c d e vo vu r h (by unfold szR at hz;omega) hG)
 have HM:=hide (fun (hz:szR r<=1048576) W a b c d e vo vu F h hF hlt=>zlB n W a b c d e vo vu r F 1 h hF hlt (by have:=zlO (n+1) r.first;unfold szR at hz;omega) (by have:=ziQ r.ops;unfold szR at hz;omega) (by unfold szR at hz;omega) (by omega) (by omega))
 have HQ:=hide (fun W a b c d e vo vu a' b' c' d' e' vo' vu' h h'=>zmO n W a b c d e vo vu a' b' c' d' e' vo' vu' r h h')
 have hlen:=zpH r
 obtain⟨z,ab,nb,cb,ac,nc,cc,ad,nd,cd,ae,ne,ce,ao,no,co,au,nu,cu,rfl,rfl,rfl,rfl,rfl,rfl,rfl⟩:=rd5v h
 clear h hG
 unfold zaQ at *
 generalize docV r=dv at *
 generalize repB r=fb at *
 generalize r.ops.length=zo at *
 generalize r.und.length=zu at *
 generalize r.id=ri at *
 generalize r.clock=rc at *
 generalize r.lost=rl at *
 have hA0:=(Below.refl w.heap.size w).alloc (Nat.le_refl _) (.cells #[.int .i64 ri,.int .i64 rc,.int .i64 z,.slice ab nb cb,.slice ac nc cc,.slice ad nd cd,.slice ae ne ce,.slice ao no co,.slice au nu cu,.bool rl] 30)
 have l0:=Loc.made w #[.int .i64 ri,.int .i64 rc,.int .i64 z,.slice ab nb cb,.slice ac nc cc,.slice ad nd cd,.slice ae ne ce,.slice ao no co,.slice au nu cu,.bool rl] 30
 obtain⟨xa0,xa1,xa2,xa3,xa4,xa5,xa6,xa7,xa8,xa9⟩:=l0.ten
 go_enter Tryz.func3,Tryz.ntmps3
 go_wp2_with fail
 clear xa0 xa1 xa2 xa3 xa4 xa5 xa6 xa7 xa8 xa9
 generalize (w.alloc (.cells #[.int .i64 ri,.int .i64 rc,.int .i64 z,.slice ab nb cb,.slice ac nc cc,.slice ad nd cd,.slice ae ne ce,.slice ao no co,.slice au nu cu,.bool rl] 30))=wa at *
 generalize hSS:w.heap.size=S at *
 have BS:=hide (show ∀(b c:Xe),Below S w b->Below b.heap.size b c->Below S w c from fun b c h k=>h.trans (k.mono (by have:=h.size;omega)))
 have q0:=l0.lt
 refine (zaa HZ _ hA0).mono ?_
 rintro e w1 ⟨rfl,hB⟩
 have hA1:=zaa BS _ _ hA0 hB
 have l1:=l0.all hB
 have z1:=hB.size
 clear hA0 l0 hB HZ
 by_cases hbig:((szR r:Nat):Int)<=1048576
 case neg=>
  rw [zaA hbig]
  go_wp2_with fail
  go_ret
  exact⟨rfl,by rw [hSS];exact hA1⟩
 rw [zaC hbig]
 have hd0:¬ 1048576-((szR r:Nat):Int)<0:=by omega
 have hsz:szR r<=1048576:=by omega
 replace HT:=hide (zaa HT hsz)
 replace HI:=hide (zaa HI hsz)
 replace HM:=hide (zaa HM hsz)
 clear hbig hsz
 generalize ((szR r:Nat):Int)=zz at *
 have hne:(fb != fb)=false:=by simp
 have heq:(fb == fb)=true:=by simp
 have HLN:=hide hlen
 have hD:=hA1
 have l0:=l1
 clear hA1 l1 hlen
 obtain⟨xa0,xa1,xa2,xa3,xa4,xa5,xa6,xa7,xa8,xa9⟩:=l0.ten
 go_wp2_with fail
 clear xa0 xa1 xa2 xa3 xa4 xa5 xa6 xa7 xa8 xa9
 refine (zaa HT _ hD).mono ?_
 rintro e wb ⟨k3,a31,n31,c31,a32,n32,c32,a33,n33,c33,a34,n34,c34,a35,c35,a36,c36,rfl,F3,o3_,nd3,rg3,hB⟩
 replace hD:=zaa BS _ _ hD hB
 replace l0:=l0.all hB
 have zb:=hB.size
 clear hB
 go_wp2_with fail
 refine (zaa HS _ _ _ _ _ _ _ _ o3_.rd).mono ?_
 rintro e w3 ⟨vV,rfl,oV,hB⟩
 clear o3_ nd3 rg3 HS
 have rgV:=oV.rng
 obtain⟨awV,cwV,hvV,_,_⟩:=oV.byt.shape
 subst hvV
 replace hD:=zaa BS _ _ hD hB
 replace l0:=l0.all hB
 have z3:=hB.size
 clear hB
 obtain⟨xa0,xa1,xa2,xa3,xa4,xa5,xa6,xa7,xa8,xa9⟩:=l0.ten
 go_wp2_with fail
 clear xa0 xa1 xa2 xa3 xa4 xa5 xa6 xa7 xa8 xa9
 refine (zaa HT _ hD).mono ?_
 rintro e w5 ⟨k4,a41,n41,c41,a42,n42,c42,a43,n43,c43,a44,n44,c44,a45,c45,a46,c46,rfl,F4,o4q,nd4,rg4,hB⟩
 have hlt4:∀g∈F4,g<w5.heap.size:=fun g hg=>(rg4 g hg).2
 replace hD:=zaa BS _ _ hD hB
 replace l0:=l0.all hB
 replace oV:=oV.keep hB
 have z5:=hB.size
 clear hB
 have hB:Below w5.heap.size w5 (w5.alloc (.cells #[.int .i64 ri,.int .i64 rc,.int .i64 k4,.slice a41 n41 c41,.slice a42 n42 c42,.slice a43 n43 c43,.slice a44 n44 c44,.slice a45 zo c45,.slice a46 zu c46,.bool rl] 41)):=(Below.refl _ _).alloc (Nat.le_refl _) _
 replace o4q:=hide (OwRep.keepD o4q hB)
 clear hB
 have hB:Below w5.heap.size w5 (w5.alloc (.cells #[.int .i64 ri,.int .i64 rc,.int .i64 k4,.slice a41 n41 c41,.slice a42 n42 c42,.slice a43 n43 c43,.slice a44 n44 c44,.slice a45 zo c45,.slice a46 zu c46,.bool rl] 41)):=(Below.refl _ _).alloc (Nat.le_refl _) _
 have l4:=Loc.made w5 #[.int .i64 ri,.int .i64 rc,.int .i64 k4,.slice a41 n41 c41,.slice a42 n42 c42,.slice a43 n43 c43,.slice a44 n44 c44,.slice a45 zo c45,.slice a46 zu c46,.bool rl] 41
 replace oV:=oV.keep hB
 replace hD:=zaa BS _ _ hD hB
 replace l0:=l0.all hB
 have z6:=hB.size
 clear hB
 have LL:=hide (And.intro hD (And.intro l0 (And.intro l4 (oV))))
 clear hD l0 l4 oV
 go_upto_region 7 with fail
 generalize (w5.alloc (.cells #[.int .i64 ri,.int .i64 rc,.int .i64 k4,.slice a41 n41 c41,.slice a42 n42 c42,.slice a43 n43 c43,.slice a44 n44 c44,.slice a45 zo c45,.slice a46 zu c46,.bool rl] 41))=w6 at *
 obtain⟨hD,l0,l4,oV⟩:=zaa LL
 clear LL
 generalize hSS4:w5.heap.size=S4 at *
 have qS4:=l4.lt
 replace o4q:=zaa o4q
 obtain⟨ya0,ya1,ya2,ya3,ya4,ya5,ya6,ya7,ya8,ya9⟩:=l4.ten
 go_wp2_with fail
 clear ya0 ya1 ya2 ya3 ya4 ya5 ya6 ya7 ya8 ya9
 refine (zaa HI _ _ _ _ _ _ _ _ o4q.rd (zaa HG _ hD)).mono ?_
 rintro e w8 ⟨v8,rfl,o8,hB⟩
 replace o4q:=OwRep.keepD o4q hB
 have rg8:=o8.rng
 obtain⟨aw8,cw8,hv8,_,_⟩:=o8.byt.shape
 subst hv8
 replace hD:=zaa BS _ _ hD hB
 replace l0:=l0.all hB
 replace l4:=l4.all hB
 replace oV:=oV.keep hB
 have z8:=hB.size
 clear hB
 go_wp2_with fail
 refine (zcO w8 _ _ dv o8.byt oV.byt).mono ?_
 rintro e w10 ⟨rfl,hB⟩
 replace o4q:=OwRep.keepD o4q hB
 replace hD:=zaa BS _ _ hD hB
 replace l0:=l0.all hB
 replace l4:=l4.all hB
 replace oV:=oV.keep hB
 replace o8:=o8.keep hB
 have z10:=hB.size
 clear hB
 obtain⟨xa0,xa1,xa2,xa3,xa4,xa5,xa6,xa7,xa8,xa9⟩:=l0.ten
 obtain⟨ya0,ya1,ya2,ya3,ya4,ya5,ya6,ya7,ya8,ya9⟩:=l4.ten
 go_wp2_with fail
 go_region_held3 (fun w'=>w'.cell? ⟨S,0,none⟩=some (.int .i64 ri)∧w'.cell? ⟨S,1,none⟩=some (.int .i64 rc)∧w'.cell? ⟨S,2,none⟩=some (.int .i64 z)∧w'.cell? ⟨S,3,none⟩=some (.slice ab nb cb)∧w'.cell? ⟨S,4,none⟩=some (.slice ac nc cc)∧w'.cell? ⟨S,5,none⟩=some (.slice ad nd cd)∧w'.cell? ⟨S,6,none⟩=some (.slice ae ne ce)∧w'.cell? ⟨S,7,none⟩=some (.slice ao no co)∧w'.cell? ⟨S,8,none⟩=some (.slice au nu cu)∧w'.cell? ⟨S,9,none⟩=some (.bool rl)∧w'.cell? ⟨S4,0,none⟩=some (.int .i64 ri)∧w'.cell? ⟨S4,1,none⟩=some (.int .i64 rc)∧w'.cell? ⟨S4,2,none⟩=some (.int .i64 k4)∧w'.cell? ⟨S4,3,none⟩=some (.slice a41 n41 c41)∧w'.cell? ⟨S4,4,none⟩=some (.slice a42 n42 c42)∧w'.cell? ⟨S4,5,none⟩=some (.slice a43 n43 c43)∧w'.cell? ⟨S4,6,none⟩=some (.slice a44 n44 c44)∧w'.cell? ⟨S4,7,none⟩=some (.slice a45 zo c45)∧w'.cell? ⟨S4,8,none⟩=some (.slice a46 zu c46)∧w'.cell? ⟨S4,9,none⟩=some (.bool rl))
  (first | exact⟨by assumption,by assumption,by assumption,by assumption,by assumption,by assumption,by assumption,by assumption,by assumption,by assumption,by assumption,by assumption,by assumption,by assumption,by assumption,by assumption,by assumption,by assumption,by assumption,by assumption⟩ | simp [*])
  (first
   | (go_at_call 6;refine (zaa HT _ hD.drew).mono ?_;rintro e w11 ⟨ke,ae1,ne1,ce1,ae2,ne2,ce2,ae3,ne3,ce3,ae4,ne4,ce4,ae5,ce5,ae6,ce6,rfl,F11,o11,_,_,hB11⟩;have hE11:=zad ((Below.refl w10.heap.size w10).drew) hB11;obtain⟨xa0,xa1,xa2,xa3,xa4,xa5,xa6,xa7,xa8,xa9⟩:=(l0.all hE11).ten;obtain⟨ya0,ya1,ya2,ya3,ya4,ya5,ya6,ya7,ya8,ya9⟩:=(l4.all hE11).ten)
   | (go_at_call 9;refine (zaa HQ _ _ _ _ _ _ _ _ _ _ _ _ _ _ _ (OwRep.keepD o4q hE11).rd o11.rd).mono ?_;rintro e w12 ⟨rfl,hB12⟩;have hE12:=zad hE11 hB12;obtain⟨xa0,xa1,xa2,xa3,xa4,xa5,xa6,xa7,xa8,xa9⟩:=(l0.all hE12).ten;obtain⟨ya0,ya1,ya2,ya3,ya4,ya5,ya6,ya7,ya8,ya9⟩:=(l4.all hE12).ten))
 clear o11 hB11 hE11 hB12 xa0 xa1 xa2 xa3 xa4 xa5 xa6 xa7 xa8 xa9 ya0 ya1 ya2 ya3 ya4 ya5 ya6 ya7 ya8 ya9
 replace o4q:=OwRep.keepD o4q hE12
 replace hD:=zaa BS _ _ hD hE12
 replace l0:=l0.all hE12
 replace l4:=l4.all hE12
 replace oV:=oV.keep hE12
 replace o8:=o8.keep hE12
 have z12:=hE12.size
 clear hE12
 obtain⟨ya0,ya1,ya2,ya3,ya4,ya5,ya6,ya7,ya8,ya9⟩:=l4.ten
 go_wp2_with fail
 clear ya0 ya1 ya2 ya3 ya4 ya5 ya6 ya7 ya8 ya9
 refine (zaa HM w12 _ _ _ _ _ _ _ F4 o4q nd4 (fun g hg=>by have:=hlt4 g hg;omega)).mono ?_
 rintro e w16 ⟨rfl,_,hF⟩
 replace hD:=hD.trans (hF.below (by have:=hD.size;omega) (fun q hq=>by have:=(rg4 q hq).1;omega))
 replace l0:=l0.frm hF (fun hm=>by have:=rg4 _ hm;omega)
 replace oV:=oV.frm hF (fun q hq hm=>by have:=rg4 _ hm;have:=rgV _ hq;omega)
 replace o8:=o8.frm hF (fun q hq hm=>by have:=rg4 _ hm;have:=rg8 _ hq;omega)
 have z16:=hF.size
 clear hF o4q l4 nd4
 have hk3:decide (1+((zgu r:Nat):Int)<0)=false:=by simp;omega
 generalize 1+((zgu r:Nat):Int)=K at *
 go_wp2_with fail
 refine (zcO w16 _ _ dv o8.byt oV.byt).mono ?_
 rintro e w18 ⟨rfl,hB⟩
 replace hD:=zaa BS _ _ hD hB
 replace l0:=l0.all hB
 replace oV:=oV.keep hB
 replace o8:=o8.keep hB
 have z18:=hB.size
 clear hB
 go_wp2_with fail
 refine (zbU w18 _ _ dv 1 o8 (by have:=zaa HLN;omega) (by omega) (by omega)).mono ?_
 rintro e w19 ⟨rfl,om,hgr⟩
 have hF:=Frm.ofGrown hgr
 replace hD:=hD.trans (hF.below (by have:=hD.size;omega) (fun q hq=>by have:=rg8 q hq;omega))
 replace l0:=l0.frm hF (fun hm=>by have:=rg8 _ hm;omega)
 replace oV:=oV.frm hF (fun q hq hm=>by have:=rg8 _ hm;have:=rgV _ hq;omega)
 have z19:=hF.size
 clear hF o8 hgr
 have HH:=hide (fun W (hW:Below w19.heap.size w19 W)=>zoh W _ dv.length 1 (om.byt.keep hW) (by have:=zaa HLN;omega) (by omega) (by omega))
 have hm1:decide (1+((dv.length:Nat):Int)<0)=false:=by simp;omega
 obtain⟨M,hM⟩:∃M:Int,1+((dv.length:Nat):Int)=M:=⟨_,rfl⟩
 rw [hM]at HH hm1 ⊢
 have hm2:(M != M)=false:=by simp
 have hm3:(M == M)=true:=by simp
 clear om hM
 go_wp2_with fail
 refine (zaa HH w19 (Below.refl _ _)).mono ?_
 rintro e w20 ⟨rfl,rfl⟩
 obtain⟨xa0,xa1,xa2,xa3,xa4,xa5,xa6,xa7,xa8,xa9⟩:=l0.ten
 go_wp2_with fail
 clear xa0 xa1 xa2 xa3 xa4 xa5 xa6 xa7 xa8 xa9
 refine (zaa HT _ hD).mono ?_
 rintro e w21 ⟨k7,a71,n71,c71,a72,n72,c72,a73,n73,c73,a74,n74,c74,a75,c75,a76,c76,rfl,F7,o7_,nd7,rg7,hB⟩
 replace HH:=hide (fun W (hW:Below w21.heap.size w21 W)=>zaa HH W (zad hB hW))
 replace hD:=zaa BS _ _ hD hB
 replace l0:=l0.all hB
 replace oV:=oV.keep hB
 have z21:=hB.size
 clear hB
 go_wp2_with fail
 refine (zaa HI _ _ _ _ _ _ _ _ o7_.rd (zaa HG _ hD)).mono ?_
 rintro e w23 ⟨v9,rfl,o9,hB⟩
 replace HH:=hide (fun W (hW:Below w23.heap.size w23 W)=>zaa HH W (zad hB hW))
 clear o7_
 obtain⟨aw9,cw9,hv9,_,_⟩:=o9.byt.shape
 subst hv9
 replace hD:=zaa BS _ _ hD hB
 replace l0:=l0.all hB
 replace oV:=oV.keep hB
 have z23:=hB.size
 clear hB
 go_wp2_with fail
 refine (zcO w23 _ _ dv o9.byt oV.byt).mono ?_
 rintro e w25 ⟨rfl,hB⟩
 replace hD:=zaa BS _ _ hD hB
 go_wp2_with fail
 refine (zaa HH w25 hB).mono ?_
 rintro e w26 ⟨rfl,rfl⟩
 go_wp2_with fail
 go_ret
 exact⟨rfl,by rw [hSS];exact hD⟩
end Go.Proofs.YtlpnibbdmkeklaaGreatDoor
namespace Go.Proofs.YtlpnibbdmkeklaaGreatDoor
open Go.RowKit Go.ChangeShapes
set_option linter.unusedVariables false
set_option maxRecDepth 100000
variable {H:Type} {enc:Xg×Xf->H} {W:Xe} {held:Bool}
theorem zgG {fuel:Nat} {cs:Xd} {x:DataW H×List MemPlace} (h:DataW.trod enc Tryz.prog W 0 (fun _=>true) held fuel 22 cs=some x) :
  ∃v l,cs=[v]∧Byt W v l:=by
 rcases open_ints Tryz.underlying22 Tryz.underlying5 (by kernel_rfl) h with ⟨hcs,_⟩ | ⟨a,len,cap,zs,hcs,_,hl,hm,hz,_,hcell,hwz⟩
 ·exact⟨_,_,hcs,zdL (zs:=[]) (.inl ⟨rfl,rfl,rfl,rfl⟩)⟩
 ·exact⟨_,_,hcs,zdL (.inr ⟨_,rfl,hl,hm,by simpa using hz,hcell,hwz⟩)⟩
theorem znI {fuel:Nat} {cs:Xd} {x:DataW H×List MemPlace} (h:DataW.trod enc Tryz.prog W 0 (fun _=>true) held fuel 75 cs=some x) :
  ∃v l,cs=[v]∧Ints W v l:=by
 rcases open_ints Tryz.underlying75 Tryz.underlying3 (by kernel_rfl) h with ⟨hcs,_⟩ | ⟨a,len,cap,zs,hcs,_,hl,hm,hz,_,hcell,hwz⟩
 ·exact⟨_,_,hcs,zhd (zs:=[]) (.inl ⟨rfl,rfl,rfl,rfl⟩)⟩
 ·exact⟨_,_,hcs,zhd (.inr ⟨_,rfl,hl,hm,by simpa using hz,hcell,hwz⟩)⟩
theorem zbd {α:Type} {l:List α} {n i:Nat} (h:l.length=n) (hi:i<n):∃y,l[i]? = some y:=⟨l[i]'(by omega),List.getElem?_eq_getElem (by omega)⟩
theorem zgr {fuel:Nat} {cs:Xd} {x:DataW H×List MemPlace} (h:DataW.trod enc Tryz.prog W 0 (fun _=>true) held fuel 74 cs=some x):∃n r:Int,cs=[.int .i64 n,.int .i64 r]:=by
 obtain⟨xs,n,_,_,hlen,hxs,hf⟩:=DataW.trod_struct Tryz.underlying74 h
 have hlen2:cs.length=2:=hlen.trans (by kernel_rfl)
 match cs,hlen2 with
 | [c0,c1],_=>
  obtain⟨y0,e0⟩:=zbd (i:=0) hxs (by simp)
  obtain⟨y1,e1⟩:=zbd (i:=1) hxs (by simp)
  have h0:DataW.trod enc Tryz.prog W 0 (fun _=>true) held n 3 (([c0,c1].drop 0).take (Tryz.prog.cellsOf 3))=some y0:=(hf 0 _ rfl).trans e0
  have h1:DataW.trod enc Tryz.prog W 0 (fun _=>true) held n 3 (([c0,c1].drop 1).take (Tryz.prog.cellsOf 3))=some y1:=(hf 1 _ rfl).trans e1
  have k1:Tryz.prog.cellsOf 3=1:=by kernel_rfl
  simp only [k1,List.drop,List.take]at h0 h1
  obtain⟨z0,g0,_,_⟩:=DataW.trod_int Tryz.underlying3 h0
  obtain⟨z1,g1,_,_⟩:=DataW.trod_int Tryz.underlying3 h1
  simp at g0 g1
  subst g0;subst g1
  exact⟨z0,z1,rfl⟩
end Go.Proofs.YtlpnibbdmkeklaaGreatDoor
namespace Go.Proofs.YtlpnibbdmkeklaaGreatDoor
open Go.RowKit Go.ChangeShapes
set_option linter.unusedVariables false
set_option maxRecDepth 100000
variable {H:Type} {enc:Xg×Xf->H} {W:Xe} {held:Bool}
theorem zrz {fuel:Nat} {cs:Xd} {x:DataW H×List MemPlace} (h:DataW.trod enc Tryz.prog W 0 (fun _=>true) held fuel 77 cs=some x):∃o,RdOp W (.agg cs.toArray) o:=by
 obtain⟨xs,n,_,_,hlen,hxs,hf⟩:=DataW.trod_struct Tryz.underlying77 h
 have hlen2:cs.length=12:=hlen.trans (by kernel_rfl)
 match cs,hlen2 with
 | [c0,c1,c2,c3,c4,c5,c6,c7,c8,c9,c10,c11],_=>
  obtain⟨y0,e0⟩:=zbd (i:=0) hxs (by simp)
  obtain⟨y1,e1⟩:=zbd (i:=1) hxs (by simp)
  obtain⟨y2,e2⟩:=zbd (i:=2) hxs (by simp)
  obtain⟨y3,e3⟩:=zbd (i:=3) hxs (by simp)
  obtain⟨y4,e4⟩:=zbd (i:=4) hxs (by simp)
  obtain⟨y5,e5⟩:=zbd (i:=5) hxs (by simp)
  obtain⟨y6,e6⟩:=zbd (i:=6) hxs (by simp)
  obtain⟨y7,e7⟩:=zbd (i:=7) hxs (by simp)
  obtain⟨y8,e8⟩:=zbd (i:=8) hxs (by simp)
  have h0:DataW.trod enc Tryz.prog W 0 (fun _=>true) held n 3 (([c0,c1,c2,c3,c4,c5,c6,c7,c8,c9,c10,c11].drop 0).take (Tryz.prog.cellsOf 3))=some y0:=(hf 0 _ rfl).trans e0
  have h1:DataW.trod enc Tryz.prog W 0 (fun _=>true) held n 74 (([c0,c1,c2,c3,c4,c5,c6,c7,c8,c9,c10,c11].drop 1).take (Tryz.prog.cellsOf 74))=some y1:=(hf 1 _ rfl).trans e1
  have h2:DataW.trod enc Tryz.prog W 0 (fun _=>true) held n 74 (([c0,c1,c2,c3,c4,c5,c6,c7,c8,c9,c10,c11].drop 3).take (Tryz.prog.cellsOf 74))=some y2:=(hf 2 _ rfl).trans e2
  have h3:DataW.trod enc Tryz.prog W 0 (fun _=>true) held n 74 (([c0,c1,c2,c3,c4,c5,c6,c7,c8,c9,c10,c11].drop 5).take (Tryz.prog.cellsOf 74))=some y3:=(hf 3 _ rfl).trans e3
  have h4:DataW.trod enc Tryz.prog W 0 (fun _=>true) held n 75 (([c0,c1,c2,c3,c4,c5,c6,c7,c8,c9,c10,c11].drop 7).take (Tryz.prog.cellsOf 75))=some y4:=(hf 4 _ rfl).trans e4
  have h5:DataW.trod enc Tryz.prog W 0 (fun _=>true) held n 3 (([c0,c1,c2,c3,c4,c5,c6,c7,c8,c9,c10,c11].drop 8).take (Tryz.prog.cellsOf 3))=some y5:=(hf 5 _ rfl).trans e5
  have h6:DataW.trod enc Tryz.prog W 0 (fun _=>true) held n 22 (([c0,c1,c2,c3,c4,c5,c6,c7,c8,c9,c10,c11].drop 9).take (Tryz.prog.cellsOf 22))=some y6:=(hf 6 _ rfl).trans e6
  have h7:DataW.trod enc Tryz.prog W 0 (fun _=>true) held n 22 (([c0,c1,c2,c3,c4,c5,c6,c7,c8,c9,c10,c11].drop 10).take (Tryz.prog.cellsOf 22))=some y7:=(hf 7 _ rfl).trans e7
  have h8:DataW.trod enc Tryz.prog W 0 (fun _=>true) held n 4 (([c0,c1,c2,c3,c4,c5,c6,c7,c8,c9,c10,c11].drop 11).take (Tryz.prog.cellsOf 4))=some y8:=(hf 8 _ rfl).trans e8
  have ki:Tryz.prog.cellsOf 3=1:=by kernel_rfl
  have k1:Tryz.prog.cellsOf 22=1:=by kernel_rfl
  have k2:Tryz.prog.cellsOf 75=1:=by kernel_rfl
  have k3:Tryz.prog.cellsOf 74=2:=by kernel_rfl
  have k4:Tryz.prog.cellsOf 4=1:=by kernel_rfl
  simp only [ki,k1,k2,k3,k4,List.drop,List.take]at h0 h1 h2 h3 h4 h5 h6 h7 h8
  obtain⟨z0,g0,_,_⟩:=DataW.trod_int Tryz.underlying3 h0
  obtain⟨z1,z2,g1⟩:=zgr h1
  obtain⟨z3,z4,g2⟩:=zgr h2
  obtain⟨z5,z6,g3⟩:=zgr h3
  obtain⟨v7,l7,g4,b7⟩:=znI h4
  obtain⟨z8,g5,_,_⟩:=DataW.trod_int Tryz.underlying3 h5
  obtain⟨v9,l9,g6,b9⟩:=zgG h6
  obtain⟨v10,l10,g7,b10⟩:=zgG h7
  obtain⟨z11,g8,_⟩:=DataW.trod_bool Tryz.underlying4 h8
  simp at g0 g1 g2 g3 g4 g5 g6 g7 g8
  obtain⟨rfl,rfl⟩:=g1
  obtain⟨rfl,rfl⟩:=g2
  obtain⟨rfl,rfl⟩:=g3
  subst g0;subst g4;subst g5;subst g6;subst g7;subst g8
  exact⟨⟨z0,z1,z2,z3,z4,z5,z6,l7,z8,l9,l10,z11⟩,_,_,_,rfl,b7,b9,b10⟩
end Go.Proofs.YtlpnibbdmkeklaaGreatDoor
namespace Go.Proofs.YtlpnibbdmkeklaaGreatDoor
open Go.RowKit Go.ChangeShapes
set_option linter.unusedVariables false
set_option maxRecDepth 100000
variable {H:Type} {enc:Xg×Xf->H} {W:Xe} {held:Bool}
theorem zsJ {C:Xd} {o:OpV} (h:RdOp W (.agg C.toArray) o):zhy W C o:=by
 obtain⟨k,n,t,e,h1,h2,h3⟩:=h
 refine⟨k,n,t,?_,h1,h2,h3⟩
 unfold zaY at e
 have e1:=Value.agg.inj e
 have e2:=congrArg Array.toList e1
 simpa using e2
end Go.Proofs.YtlpnibbdmkeklaaGreatDoor
namespace Go.Proofs.YtlpnibbdmkeklaaGreatDoor
open Go.RowKit Go.ChangeShapes
set_option linter.unusedVariables false
set_option maxRecDepth 100000
variable {H:Type} {enc:Xg×Xf->H} {W:Xe} {held:Bool}
theorem zpK {fuel:Nat} {cs:Xd} {x:DataW H×List MemPlace} (h:DataW.trod enc Tryz.prog W 0 (fun _=>true) held fuel 30 cs=some x):∃(m:Nat) (r:RepV m) (a b c d e vo vu:Xf),cs=[.int .i64 r.id,.int .i64 r.clock,a,b,c,d,e,vo,vu,.bool r.lost]∧RdRep m W a b c d e vo vu r:=by
 obtain⟨xs,n,_,_,hlen,hxs,hf⟩:=DataW.trod_struct Tryz.underlying30 h
 have hlen2:cs.length=10:=hlen.trans (by kernel_rfl)
 match cs,hlen2 with
 | [c0,c1,c2,c3,c4,c5,c6,c7,c8,c9],_=>
  obtain⟨y0,e0⟩:=zbd (i:=0) hxs (by simp)
  obtain⟨y1,e1⟩:=zbd (i:=1) hxs (by simp)
  obtain⟨y2,e2⟩:=zbd (i:=2) hxs (by simp)
  obtain⟨y3,e3⟩:=zbd (i:=3) hxs (by simp)
  obtain⟨y4,e4⟩:=zbd (i:=4) hxs (by simp)
  obtain⟨y5,e5⟩:=zbd (i:=5) hxs (by simp)
  have h0:DataW.trod enc Tryz.prog W 0 (fun _=>true) held n 3 (([c0,c1,c2,c3,c4,c5,c6,c7,c8,c9].drop 0).take (Tryz.prog.cellsOf 3))=some y0:=(hf 0 _ rfl).trans e0
  have h1:DataW.trod enc Tryz.prog W 0 (fun _=>true) held n 3 (([c0,c1,c2,c3,c4,c5,c6,c7,c8,c9].drop 1).take (Tryz.prog.cellsOf 3))=some y1:=(hf 1 _ rfl).trans e1
  have h2:DataW.trod enc Tryz.prog W 0 (fun _=>true) held n 26 (([c0,c1,c2,c3,c4,c5,c6,c7,c8,c9].drop 2).take (Tryz.prog.cellsOf 26))=some y2:=(hf 2 _ rfl).trans e2
  have h3:DataW.trod enc Tryz.prog W 0 (fun _=>true) held n 27 (([c0,c1,c2,c3,c4,c5,c6,c7,c8,c9].drop 7).take (Tryz.prog.cellsOf 27))=some y3:=(hf 3 _ rfl).trans e3
  have h4:DataW.trod enc Tryz.prog W 0 (fun _=>true) held n 28 (([c0,c1,c2,c3,c4,c5,c6,c7,c8,c9].drop 8).take (Tryz.prog.cellsOf 28))=some y4:=(hf 4 _ rfl).trans e4
  have h5:DataW.trod enc Tryz.prog W 0 (fun _=>true) held n 4 (([c0,c1,c2,c3,c4,c5,c6,c7,c8,c9].drop 9).take (Tryz.prog.cellsOf 4))=some y5:=(hf 5 _ rfl).trans e5
  have ki:Tryz.prog.cellsOf 3=1:=by kernel_rfl
  have k1:Tryz.prog.cellsOf 26=5:=by kernel_rfl
  have k2:Tryz.prog.cellsOf 27=1:=by kernel_rfl
  have k3:Tryz.prog.cellsOf 28=1:=by kernel_rfl
  have k4:Tryz.prog.cellsOf 4=1:=by kernel_rfl
  simp only [ki,k1,k2,k3,k4,List.drop,List.take]at h0 h1 h2 h3 h4 h5
  obtain⟨z0,g0,_,_⟩:=DataW.trod_int Tryz.underlying3 h0
  obtain⟨z1,g1,_,_⟩:=DataW.trod_int Tryz.underlying3 h1
  obtain⟨t,ht⟩:=ziR (n+1) (by omega) h2
  obtain⟨v3,l3,g3,b3⟩:=zdR (sz:=12) (R:=zhy W) Tryz.underlying27 (by kernel_rfl) (by omega) (fun n C y _ hy=>(zrz hy).imp fun o ho=>zsJ ho) h3
  obtain⟨v4,l4,g4,b4⟩:=zdR (sz:=2) (R:=zrg) Tryz.underlying28 (by kernel_rfl) (by omega) (fun n C y _ hy=>by
   obtain⟨p,q,e⟩:=zgr hy
   exact⟨(p,q),e⟩) h4
  obtain⟨z5,g5,_⟩:=DataW.trod_bool Tryz.underlying4 h5
  simp at g0 g1 g3 g4 g5
  subst g0;subst g1;subst g3;subst g4;subst g5
  exact⟨n,⟨z0,z1,t,l3,l4,z5⟩,_,_,_,_,_,_,_,rfl,ht,b3,b4⟩
theorem zsm {r:Reach} {base:Nat} {v:Xf} {x:DataW H} {p:List MemPlace} (hv:Value.okWide Tryz.prog W r base 30 v) (h:DataW.Trod enc Tryz.prog W 0 (fun _=>true) held 30 v x p) :
  ∃(a b c d e vo vu:Xf) (m:Nat) (r:RepV m),v=zaQ r a b c d e vo vu∧RdRep m W a b c d e vo vu r:=by
 obtain⟨cs,rfl,hsz⟩:=WideShapes.okWide_struct Tryz.underlying30 hv
 obtain⟨fuel,hf⟩:=h
 obtain⟨l⟩:=cs
 obtain⟨m,r,a,b,c,d,e,vo,vu,el,hr⟩:=zpK hf
 have el':l=[.int .i64 r.id,.int .i64 r.clock,a,b,c,d,e,vo,vu,.bool r.lost]:=el
 exact⟨a,b,c,d,e,vo,vu,m,r,by rw [el'];rfl,hr⟩
end Go.Proofs.YtlpnibbdmkeklaaGreatDoor
