/- Own texts joined: FoO, NodeI, OpI, OpsI, FoI, RootI, StaI, UndI, RepI, RdF, EqT, ToT4, ToT5, CntT, LMark. -/
import Derived.Test.YtlpnibbdmkeklaaGreatDoorJa
import Derived.Test.YtlpnibbdmkeklaaGreatDoorJb
import Derived.Test.YtlpnibbdmkeklaaGreatDoorJc
import Derived.Test.YtlpnibbdmkeklaaGreatDoorJd
import Derived.Test.YtlpnibbdmkeklaaGreatDoorJe
import Derived.Test.YtlpnibbdmkeklaaGreatDoorJf
import Derived.Test.YtlpnibbdmkeklaaGreatDoorJg
import Derived.Test.YtlpnibbdmkeklaaGreatDoorJh
import Derived.Test.YtlpnibbdmkeklaaGreatDoorJi
import Derived.Test.YtlpnibbdmkeklaaGreatDoorJj
import Derived.Test.YtlpnibbdmkeklaaGreatDoorJk
import Derived.Test.YtlpnibbdmkeklaaGreatDoorJl
import Derived.Deep.RegionHeld3
namespace Go.Proofs.YtlpnibbdmkeklaaGreatDoor
open Go.RowKit Go.Maps
set_option linter.unusedVariables false
set_option maxRecDepth 100000
theorem zjn (n:Nat) (w:World) (nm:List Int) (ats:List AtV) (ks:List (Tr n)) (a1 a2 a3 a4:Option Addr) (c1 c2 c3 c4:Nat) (hrd:RdNode (n+1) w [.int .i64 0,.slice a1 nm.length c1,.slice a2 0 c2,.slice a3 ats.length c3,.slice a4 ks.length c4] (⟨0,nm,[],ats,ks⟩:Nd (Tr n))) (hsz:szT (n+1) (⟨0,nm,[],ats,ks⟩:Nd (Tr n))≤2097152) :
  Calls Tryz.prog 86 #[.agg #[.int .i64 0,.int .i64 0],.agg #[.int .i64 0,.slice a1 nm.length c1,.slice a2 0 c2,.slice a3 ats.length c3,.slice a4 ks.length c4]] w fun e w'=>∃p2 k2 p3 k3 p4 k4 Fa,e=.returned (.agg #[.int .i64 0,.int .i64 0,.int .i64 0,.int .i64 0,.slice none 0 0,.int .i64 0,.slice p2 nm.length k2,.slice p3 0 k3,.slice p4 ats.length k4])∧
   Own w' 0 (.slice p2 nm.length k2) nm∧Own w' 0 (.slice p3 0 k3) []∧OwAttrs w' (.slice p4 ats.length k4) ats Fa∧(FB (.slice p2 nm.length k2)++FB (.slice p3 0 k3)++Fa).Nodup∧(∀q∈FB (.slice p2 nm.length k2)++FB (.slice p3 0 k3)++Fa,w.heap.size≤q)∧Below w.heap.size w w':=
 zeI n w (0,0) (⟨0,nm,[],ats,ks⟩:Nd (Tr n)) _ _ _ _ hrd hsz
set_option maxHeartbeats 12800000 in
theorem zkQ (n:Nat) (w:World) (nm:List Int) (ats:List AtV) (ks:List (Tr n)) (a1 a2 a3 a4 a5:Option Addr) (c1 c2 c3 c4 c5:Nat) (ops:List OpV) (hrd:RdNode (n+1) w [.int .i64 0,.slice a1 nm.length c1,.slice a2 0 c2,.slice a3 ats.length c3,.slice a4 ks.length c4] (⟨0,nm,[],ats,ks⟩:Nd (Tr n))) (h5:RdOps w (.slice a5 ops.length c5) ops)
  (hN:okN n (⟨0,nm,[],ats,ks⟩:Nd (Tr n))=true) (hO:opsB ops=true) (hsz:szT (n+1) (⟨0,nm,[],ats,ks⟩:Nd (Tr n))≤2097152) (hG:Glo w) :
  Calls Tryz.prog 52 #[.agg #[.int .i64 0,.slice a1 nm.length c1,.slice a2 0 c2,.slice a3 ats.length c3,.slice a4 ks.length c4],.slice a5 ops.length c5] w fun e w'=>∃g mb a c F B,e=.returned (.pointer (some ⟨g,0,none⟩))∧w.heap.size≤B∧FoS B w' g mb a c (zaJ (⟨0,nm,[],ats,ks⟩:Nd (Tr n)) ops) F∧Below w.heap.size w w':=by
 refine zaf ?_
 intro Q HQ
 have hw2:2≤w.heap.size:=by have h9:=zaI hG.2.2.1;exact h9
 have hA:Below w.heap.size w (w.alloc (.cells #[.int .i64 0,.slice a1 nm.length c1,.slice a2 0 c2,.slice a3 ats.length c3,.slice a4 ks.length c4] 37)):=(Below.refl _ _).alloc (Nat.le_refl _) _
 have lb:=Loc.made w #[.int .i64 0,.slice a1 nm.length c1,.slice a2 0 c2,.slice a3 ats.length c3,.slice a4 ks.length c4] 37
 have hs1:(w.alloc (.cells #[.int .i64 0,.slice a1 nm.length c1,.slice a2 0 c2,.slice a3 ats.length c3,.slice a4 ks.length c4] 37)).heap.size=w.heap.size+1:=by simp
 have HF:=hide (zfu (w.alloc (.cells #[.int .i64 0,.slice a1 nm.length c1,.slice a2 0 c2,.slice a3 ats.length c3,.slice a4 ks.length c4] 37)))
 rw [hs1]at HF
 have h4:RdKids n w (.slice a4 ks.length c4) ks:=by obtain⟨_,_,_,_,e,_,_,_,_,_,hk⟩:=hrd;cases e;exact hk
 have hkz:∀x∈ks,szT n x≤2097152:=fun x hx=>Nat.le_trans (zlV (t:=(⟨0,nm,[],ats,ks⟩:Nd (Tr n))) hx) hsz
 have hol:=(zcW hO).1
 have HX:=hide (And.intro hA (And.intro lb (And.intro hrd (And.intro h4 (And.intro h5 (And.intro hG (And.intro hN (And.intro hO (And.intro hsz hkz)))))))))
 clear hA lb hrd h4 h5 hG hN hO hsz hkz
 go_enter Tryz.func52,Tryz.ntmps52
 go_wp2_with fail
 refine (zaa HF).mono ?_
 rintro e w2 ⟨rfl,hs,hb2⟩
 obtain⟨hA,lb,hrd,h4,h5,hG,hN,hO,hsz,hkz⟩:=zaa HX
 generalize (w.alloc (.cells #[.int .i64 0,.slice a1 nm.length c1,.slice a2 0 c2,.slice a3 ats.length c3,.slice a4 ks.length c4] 37))=w1 at *
 generalize hB:w.heap.size+1=B at *
 have hb2':Below w1.heap.size w1 w2:=by rw [hs1];exact hb2
 have lb2:=lb.all hb2'
 have hA2:=zad hA hb2'
 have hG2:=hG.keep hA2
 obtain⟨y0,y1,y2,y3⟩:=id hG2
 have x0:=lb2.cell 0
 have x1:=lb2.cell 1
 have x2:=lb2.cell 2
 have x3:=lb2.cell 3
 have x4:=lb2.cell 4
 have HP:=hide (zjn n w2 nm ats ks a1 a2 a3 a4 c1 c2 c3 c4 (hrd.keep hA2) hsz)
 have hlt2:B+2≤w2.heap.size:=by have:=hs.set.lt;omega
 have HB:=hide hB
 have HY:=hide (And.intro hs (And.intro lb2 hA2))
 clear hs lb2 hA2 hG2 hb2 hb2' HF hA lb hB hs1
 go_wp2_with (go_at_call 86;refine (zaa HP).mono ?_;rintro e w3 ⟨p2,k2,p3,k3,p4,k4,Fa,rfl,o2,o3,o4,hnd,hrg,hb3⟩)
 obtain⟨hs,lb2,hA2⟩:=zaa HY
 have hs3:=hs.keep hb3
 have hrg':∀q∈FB (.slice none 0 0)++FB (.slice p2 nm.length k2)++FB (.slice p3 0 k3)++Fa,B≤q:=fun q hq=>by have:=hrg q (by simpa [FB,Value.ownBlock]using hq);omega
 have HA1:=hide (zgs hs3 (zeD (⟨0,nm,[],ats,ks⟩:Nd (Tr n))) none p2 p3 p4 0 k2 k3 k4 (FB (.slice none 0 0)++FB (.slice p2 nm.length k2)++FB (.slice p3 0 k3)++Fa) ⟨_,_,_,_,Fa,rfl,zeZ _ _,o2.rowm,o3,o4,rfl⟩ (by simpa [FB,Value.ownBlock]using hnd) hrg' (fun q hq=>by cases hq) (zdi (m:=0) (by omega)) (zdi (m:=0) (by omega)) rfl (by simp))
 have HY3:=hide (And.intro (lb2.all hb3) (And.intro (zad hA2 hb3) (show w2.heap.size≤w3.heap.size from hb3.size)))
 clear HY hs lb2 hA2 hs3 o2 o3 o4 hnd hrg hrg' hb3 HP x0 x1 x2 x3 x4 y0 y1 y2 y3
 refine (zaa HA1).mono ?_
 rintro e w4 ⟨rfl,a4_,c4_,F4,hs4,hf4,hF4⟩
 obtain⟨lb3,hA3,hs23⟩:=zaa HY3
 have hBv:=zaa HB
 have hge4:∀q∈(B+1)::B::([]:List Nat),w.heap.size+1≤q:=fun q hq=>by simp at hq;omega
 have hA4:Below w.heap.size w w4:=hA3.trans (hf4.below hA3.size (fun q hq=>by have:=hge4 q hq;omega))
 have lb4:=lb3.frm hf4 (fun e=>by have:=hge4 _ e;omega)
 have hs34:=hf4.size
 have hG4:=hG.keep hA4
 obtain⟨y0,y1,y2,y3⟩:=id hG4
 have hA5:Below w4.heap.size w4 (w4.alloc (.cells #[.int .u8 116,.int .u8 114,.int .u8 97,.int .u8 115,.int .u8 104] 5)):=(Below.refl _ _).alloc (Nat.le_refl _) _
 have ltr:=Loc.made w4 #[.int .u8 116,.int .u8 114,.int .u8 97,.int .u8 115,.int .u8 104] 5
 have hlt4:=OwPlsM.lt hs4.row
 obtain⟨w5,hcv,fcv,hsz5,otr⟩:=zjU (w4.alloc (.cells #[.int .u8 116,.int .u8 114,.int .u8 97,.int .u8 115,.int .u8 104] 5)) w4.heap.size ltr
 have hg4:=hs4.set.lt
 have hm4:=hs4.map.lt
 have hsz5':w5.heap.size=w4.heap.size+1:=by rw [hsz5];simp
 have hp4:∀q,q<w4.heap.size→q∉[w4.heap.size]:=fun q hq e=>by have e9:q=w4.heap.size:=(by simpa using e);omega
 have hs5:=(hs4.keep hA5).frm fcv (hp4 _ hg4) (hp4 _ hm4) (fun q hq=>hp4 q (hlt4 q hq)) (fun q hq=>by have e9:q=w4.heap.size:=(by simpa using hq);rw [e9];exact Cells.ofL ltr)
 have hA5':Below w4.heap.size w4 w5:=hA5.trans (fcv.below hA5.size (fun q hq=>by have e9:q=w4.heap.size:=(by simpa using hq);omega))
 have HA2:=hide (zgs hs5 zaM none (some ⟨w4.heap.size,0,none⟩) none none 0 5 0 0 (FB (.slice none 0 0)++FB (.slice (some ⟨w4.heap.size,0,none⟩) 5 5)++FB (.slice none 0 0)++[]) ⟨_,_,_,_,[],rfl,zeZ _ _,otr,⟨zbJ,World.ownsRow_nil _ _ _ _⟩,⟨[],[],rfl,rfl,fun i hi=>(by cases hi),World.ownsRow_nil _ _ _ _,rfl⟩,rfl⟩ (by simp [FB,Value.ownBlock]) (fun q hq=>by have e9:q=w4.heap.size:=(by simpa [FB,Value.ownBlock]using hq);omega) (fun q hq hq'=>by have e9:q=w4.heap.size:=(by simpa [FB,Value.ownBlock]using hq');have:=hlt4 q hq;omega) (zdi (m:=1) (by omega)) (zdi (m:=0) (by omega)) rfl (by simp))
 replace hA5:=hA5'
 have HY4:=hide (And.intro lb4 (And.intro hA4 (And.intro hF4 (And.intro hlt4 (And.intro hA5 hs4)))))
 clear lb4 hA4 hF4 hs4 hA5 ltr hs5 otr hG4 HA1 HY3 lb3 hA3 hf4 hlt4 fcv hp4 hsz5
 go_wp2_with fail
 refine (zaa HA2).mono ?_
 rintro e w6 ⟨rfl,a6,c6,F6,hs6,hf6,hF6⟩
 obtain⟨lb4,hA4,hF4,hlt4,hA5,hs4⟩:=zaa HY4
 have hA45:=zad hA4 hA5
 have hge6:∀q∈(B+1)::B::F4,B≤q:=fun q hq=>by
  rcases List.mem_cons.1 hq with rfl | hq
  ·omega
  ·rcases List.mem_cons.1 hq with rfl | hq
   ·omega
   ·exact hs4.ge q hq
 have hA6:Below w.heap.size w w6:=hA45.trans (hf6.below hA45.size (fun q hq=>by have:=hge6 q hq;omega))
 have lb6:=(lb4.all hA5).frm hf6 (fun e=>by have:=hge6 _ e;omega)
 have hG6:=hG.keep hA6
 obtain⟨y0,y1,y2,y3⟩:=id hG6
 have x4:=lb6.cell 4
 have hsw:(zaz n (0,0) ks (zaF (⟨0,nm,[],ats,ks⟩:Nd (Tr n)))).length≤100000:=by
  have h9:=(zjA hN).len
  have h8:(zhH (⟨0,nm,[],ats,ks⟩:Nd (Tr n))).length≤121+([]:List OpV).length:=h9
  exact Nat.le_trans h8 (by simp)
 have hBw:w.heap.size≤B:=by omega
 have HK:=hide (zgE n w B w6 (B+1) B a6 c6 (zaF (⟨0,nm,[],ats,ks⟩:Nd (Tr n))) F6 0 0 ks a4 c4 hBw hA6 hs6 h4 (zdi (m:=0) (by omega)) (zfp (⟨0,nm,[],ats,ks⟩:Nd (Tr n))) hsw hkz)
 have HY6:=hide (And.intro hA6 hs6)
 clear HY4 lb4 hA4 hF4 hlt4 hA5 hs4 hA45 hs6 hf6 hF6 HA2 hge6 hA6 lb6 hG6
 go_wp2_with fail
 refine (zaa HK).mono ?_
 rintro e w7 ⟨rfl,a7,c7,F7,hs7,hf7,hF7⟩
 obtain⟨hA6,hs6⟩:=zaa HY6
 have hge7:∀q∈(B+1)::B::F6,B≤q:=fun q hq=>by
  rcases List.mem_cons.1 hq with rfl | hq
  ·omega
  ·rcases List.mem_cons.1 hq with rfl | hq
   ·omega
   ·exact hs6.ge q hq
 have hA7:Below w.heap.size w w7:=hA6.trans (hf7.below hA6.size (fun q hq=>by have:=hge7 q hq;omega))
 clear HK HY6 hA6 hs6 hf7 hF7 hge7 x4 y0 y1 y2 y3
 replace hs7:FoS B w7 (B+1) B a7 c7 (zdq (⟨0,nm,[],ats,ks⟩:Nd (Tr n)) ops 0) F7:=hs7
 have HZ:=hide (And.intro h5 (And.intro hG (And.intro hN hO)))
 clear h5 hG hN hO hrd h4 hsz hkz HX
 go_wp2_with fail
 go_loopw [27] (fun x wr=>∃(j:Nat) (a':Option Addr) (c':Nat) (F':List Nat),j≤ops.length∧x=.int .i64 (j:Int)∧FoS B wr (B+1) B a' c' (zdq (⟨0,nm,[],ats,ks⟩:Nd (Tr n)) ops j) F'∧Below w.heap.size w wr) (fun x _=>((ops.length:Int)-intOf x).toNat)
 case atStart=>exact⟨0,a7,c7,F7,Nat.zero_le _,rfl,hs7,hA7⟩
 case round=>
  clear hs7 hA7
  obtain⟨j,a',c',F',hj,rfl,hs,hA⟩:=hrel
  obtain⟨h5,hG,hN,hO⟩:=zaa HZ
  by_cases hlt:j<ops.length
  ·have hlt':(j:Int)<(ops.length:Int):=by omega
   have hj0:(0:Int)≤(j:Int):=by omega
   obtain⟨bk,off,epv,hpl,_,_,C,hCl,hcell,hro⟩:=Elems.at h5 hlt
   subst epv
   obtain⟨e1,f1,e2,f2,e3,f3,g0,g1,g2,g3,g4,g5,g6,g7,g8,g9,g10,g11,hrv⟩:=zcv (i:=j) hA hpl ⟨C,hCl,hcell,hro⟩
   obtain⟨kk,nn,tt,eC,hk1,hk2,hk3⟩:=hro
   have hal:=zek hN hO j (by omega)
   have hoj:=zdv hO hlt
   obtain⟨l1,l2,l3⟩:=zmd hoj
   have hnx:=zfg (⟨0,nm,[],ats,ks⟩:Nd (Tr n)) ops hlt
   have hnew:=fun h0=>hal.new hO hlt h0
   have hlen:=hal.len
   rw [List.length_take]at hlen
   have hAa:Below wr.heap.size wr (wr.alloc (.cells #[.int .i64 ops[j].kind,.int .i64 ops[j].atN,.int .i64 ops[j].atR,.int .i64 ops[j].nodeN,.int .i64 ops[j].nodeR,.int .i64 ops[j].parN,.int .i64 ops[j].parR,.slice e1 ops[j].key.length f1,.int .i64 ops[j].elem,.slice e2 ops[j].name.length f2,.slice e3 ops[j].text.length f3,.bool ops[j].gone] 83)):=(Below.refl _ _).alloc (Nat.le_refl _) _
   have hAA:=zad hA hAa
   have lo:=Loc.made wr #[.int .i64 ops[j].kind,.int .i64 ops[j].atN,.int .i64 ops[j].atR,.int .i64 ops[j].nodeN,.int .i64 ops[j].nodeR,.int .i64 ops[j].parN,.int .i64 ops[j].parR,.slice e1 ops[j].key.length f1,.int .i64 ops[j].elem,.slice e2 ops[j].name.length f2,.slice e3 ops[j].text.length f3,.bool ops[j].gone] 83
   have hq1:Ints w (.slice e1 ops[j].key.length f1) ops[j].key:=by
    have h7:=hcell 7 (by decide)
    rw [eC]at h7
    have h8:=(hA.cell (p:=⟨bk,off+j*12+7,none⟩) hpl).trans h7
    rw [g7]at h8
    simp only [List.getElem?_cons_succ,List.getElem?_cons_zero]at h8
    rw [Option.some.inj h8];exact hk1
   have hq2:Byt w (.slice e2 ops[j].name.length f2) ops[j].name:=by
    have h7:=hcell 9 (by decide)
    rw [eC]at h7
    have h8:=(hA.cell (p:=⟨bk,off+j*12+9,none⟩) hpl).trans h7
    rw [g9]at h8
    simp only [List.getElem?_cons_succ,List.getElem?_cons_zero]at h8
    rw [Option.some.inj h8];exact hk2
   have hq3:Byt w (.slice e3 ops[j].text.length f3) ops[j].text:=by
    have h7:=hcell 10 (by decide)
    rw [eC]at h7
    have h8:=(hA.cell (p:=⟨bk,off+j*12+10,none⟩) hpl).trans h7
    rw [g10]at h8
    simp only [List.getElem?_cons_succ,List.getElem?_cons_zero]at h8
    rw [Option.some.inj h8];exact hk3
   have HD:=hide (zrV (hs.keep hAa) (by omega) hAA ops[j] e1 e2 e3 f1 f2 f3 hq1 hq2 hq3 (by omega) (by omega) (by omega) hoj hal.fr hal.at hal.kd (hG.keep hAA) (by omega) hnew (by omega))
   rw [←hnx]at HD
   have HW:=hide (And.intro hAA (And.intro hs lo))
   clear hs hA hcell eC hk1 hk2 hk3 hal hoj hnx hnew hAa hAA lo hq1 hq2 hq3 hrv
   generalize ops[j]=o at *
   obtain⟨m0,m1⟩:∃m0 m1:Nat,True:=⟨0,0,trivial⟩
   go_wp2_with fail
   refine (zaa HD).mono ?_
   rintro e w9 ⟨rfl,a9,c9,F9,hs9,hf9,hF9⟩
   obtain⟨hAA,hs,lo⟩:=zaa HW
   have hge9:∀q∈(B+1)::B::F',B≤q:=fun q hq=>by
    rcases List.mem_cons.1 hq with rfl | hq
    ·omega
    ·rcases List.mem_cons.1 hq with rfl | hq
     ·omega
     ·exact hs.ge q hq
   have hA9:Below w.heap.size w w9:=hAA.trans (hf9.below hAA.size (fun q hq=>by have:=hge9 q hq;omega))
   have HE:=hide (And.intro hs9 hA9)
   clear hs9 hf9 hF9 hge9 hA9 HD HW hAA hs lo g0 g1 g2 g3 g4 g5 g6 g7 g8 g9 g10 g11
   go_wp2_with fail
   go_roundw
   case rel=>exact⟨j+1,a9,c9,F9,by omega,by go_num,(zaa HE).1,(zaa HE).2⟩
   case measure=>simp [intOf];omega
  ·have hlt':¬ (j:Int)<(ops.length:Int):=by omega
   obtain rfl:j=ops.length:=by omega
   rw [zga]at hs
   have HE:=hide (zaa HQ (.returned (.pointer (some ⟨B+1,0,none⟩))) wr ⟨_,_,_,_,F',B,rfl,by omega,hs,hA⟩)
   clear hs hA HQ HZ h5 hG hN hO
   go_wp2_with fail
   exact zaa HE
end Go.Proofs.YtlpnibbdmkeklaaGreatDoor
namespace Go.Proofs.YtlpnibbdmkeklaaGreatDoor
open Go.RowKit Go.Shelf
set_option linter.unusedVariables false
set_option maxRecDepth 100000
attribute [local go_sem] Oper.semAt_some
theorem Loc.stay {W W':World} {g D:Nat} {cs:Array Value} {T:TypeId} {row:Option Nat} (h:Loc W g cs T) (hg:W.grownBy W' row) (hr:∀r,row=some r→r=D∨r=D+1) (h0:g≠D) (h1:g≠D+1):Loc W' g cs T:=
 (hg.block g h.lt (fun e=>by rcases hr g e.symm with h | h;exact h0 h;exact h1 h)).trans h
theorem VSet.stay {W W':World} {g D:Nat} {row:Option Nat} (h:VSet (D+2) W g) (hg:W.grownBy W' row) (hr:∀r,row=some r→r=D∨r=D+1) (h0:g≠D) (h1:g≠D+1):VSet (D+2) W' g:=by
 rcases h with h | ⟨m,hm,hl,hv⟩
 ·exact .inl (h.stay hg hr h0 h1)
 ·have hlt:m<W.heap.size:=by
   by_cases h:m<W.heap.size
   ·exact h
   ·rw [Array.getElem?_eq_none (by omega)]at hv;cases hv
  exact .inr ⟨m,hm,hl.stay hg hr h0 h1,(hg.block m hlt (fun e=>by rcases hr m e.symm with h | h<;>omega)).trans hv⟩
theorem zdM {w W W':World} {s D:Nat} {row:Option Nat} (h:Below s w W) (hs:s≤D) (hg:W.grownBy W' row) (hr:∀r,row=some r→r=D∨r=D+1) (hsz:s≤W.heap.size):Below s w W':=
 h.grown hg hsz (fun r e=>by rcases hr r e with h | h<;>omega)
theorem VSet.set {B:Nat} {V:World} {g p:Nat} {cs:Array Value} {T:TypeId} (h:VSet B V g) (hl:Loc V p cs T) (hne:g≠p) (j:Nat) (v:Value):VSet B (V.setCell ⟨p,j,none⟩ v) g:=by
 rcases h with h | ⟨m,hm,hg,hv⟩
 ·exact .inl (h.other p j v hne)
 ·have hmp:m≠p:=fun e=>by subst e;unfold Loc at hl;rw [hv]at hl;cases hl
  exact .inr ⟨m,hm,hg.other p j v hne,(heap_setCell_other V ⟨p,j,none⟩ m v hmp).trans hv⟩
theorem zeB (D:Nat) (V:World) (p j:Nat) (v:Value) (h0:D≠p) (h1:D+1≠p):BooksSame D V (V.setCell ⟨p,j,none⟩ v):=⟨heap_setCell_other V ⟨p,j,none⟩ D v h0,heap_setCell_other V ⟨p,j,none⟩ (D+1) v h1⟩
theorem znT {D:Nat} {V V':World} {S:List Nat} (f:Frm V V' S) (hl:D+2≤V.heap.size) (h0:D∉S) (h1:D+1∉S):BooksSame D V V':=⟨f.block D (by omega) h0,f.block (D+1) (by omega) h1⟩
theorem BooksSame.trans {D:Nat} {A B C:World} (h:BooksSame D A B) (k:BooksSame D B C):BooksSame D A C:=⟨k.1.trans h.1,k.2.trans h.2⟩
theorem zph {a:List (Int×Bool)} {left:Int} (h:(scan a left).1=true) (h0:0≤left):(a.length:Int)≤left:=by
 induction a generalizing left with
 | nil=>simpa using h0
 | cons x r ih=>
  rw [scan]at h
  by_cases hc:left-1<0∨20<x.1∨x.2=false
  ·rw [if_pos hc]at h;cases h
  ·rw [if_neg hc]at h
   have:=ih h (by omega)
   simp only [List.length_cons]
   omega
theorem zoX {a:List (Int×Bool)} {x:Int×Bool} {n:Nat} (h:scan a 120=(true,(120:Int)-n)):scan (a++[x]) 120=if 120<(n:Int)+1∨20<x.1∨x.2=false then (false,(120:Int)-n-1) else (true,(120:Int)-n-1):=by
 rw [zhf,h]
 simp only [if_true,scan]
 have e:((120:Int)-n-1<0∨20<x.1∨x.2=false)↔(120<(n:Int)+1∨20<x.1∨x.2=false):=by
  constructor
  ·rintro (h | h)
   ·exact .inl (by omega)
   ·exact .inr h
  ·rintro (h | h)
   ·exact .inl (by omega)
   ·exact .inr h
 simp only [e]
theorem zqr (w:World) (A1 A2 A3 A4 A5:Array Value) (T1 T2 T3 T4 T5:TypeId) (W:World) (hW:W=((((w.alloc (.cells A1 T1)).alloc (.cells A2 T2)).alloc (.cells A3 T3)).alloc (.cells A4 T4)).alloc (.cells A5 T5)) :
  Loc W (w.heap.size+1) A2 T2∧Loc W (w.heap.size+1+1) A3 T3∧Loc W (w.heap.size+1+1+1) A4 T4∧Loc W (w.heap.size+1+1+1+1) A5 T5∧W.heap.size=w.heap.size+1+1+1+1+1∧Below w.heap.size w W:=by
 subst hW
 have m2:=Loc.made (w.alloc (.cells A1 T1)) A2 T2
 have m3:=Loc.made ((w.alloc (.cells A1 T1)).alloc (.cells A2 T2)) A3 T3
 have m4:=Loc.made (((w.alloc (.cells A1 T1)).alloc (.cells A2 T2)).alloc (.cells A3 T3)) A4 T4
 have m5:=Loc.made ((((w.alloc (.cells A1 T1)).alloc (.cells A2 T2)).alloc (.cells A3 T3)).alloc (.cells A4 T4)) A5 T5
 simp only [World.size_alloc]at m2 m3 m4 m5
 exact⟨((m2.alloc _).alloc _).alloc _,(m3.alloc _).alloc _,m4.alloc _,m5,by simp,(((((Below.refl _ w).alloc (Nat.le_refl _) _).alloc (by simp) _).alloc (by simp;omega) _).alloc (by simp;omega) _).alloc (by simp;omega) _⟩
set_option maxHeartbeats 3200000 in
theorem zne (k:Nat) (w:World) (a b c d e:Value) (t:Tr (k+1)) (h:RdNode (k+1) w [a,b,c,d,e] t) (hsz:szT (k+1) t≤2097152) (hz:t.kind=0) :
  Calls Tryz.prog 62 #[.agg #[a,b,c,d,e]] w fun e w'=>e=.returned (.bool (okN k t))∧Below w.heap.size w w':=by
 have HO:=hide (show okN k t=(scan (pn (k+1) 1 t) 120).1 by unfold okN;rw [zjK];simp [hz])
 obtain⟨xs,hP⟩:=zot w (k+1) 1 [a,b,c,d,e] t h
 have HM:=hide (znB w (k+1) 1 _ t xs hP)
 have hC:∃ab nb cb ac nc cc ad nd cd ae ne ce,[a,b,c,d,e]=[Value.int .i64 0,.slice ab nb cb,.slice ac nc cc,.slice ad nd cd,.slice ae ne ce]:=by
  obtain⟨_,_,_,_,e0,k1,k2,hb,hc,hd,he⟩:=h
  simp only [List.cons.injEq,and_true]at e0
  obtain⟨rfl,rfl,rfl,rfl,rfl⟩:=e0
  obtain⟨ab,cb,rfl,_,_⟩:=hb.shape
  obtain⟨ac,cc,rfl,_,_⟩:=hc.shape
  obtain⟨ad,cd,rfl,_,_⟩:=Elems.shape hd
  obtain⟨ae,ce,rfl,_,_⟩:=Elems.shape he
  rw [hz]
  exact⟨_,_,_,_,_,_,_,_,_,_,_,_,rfl⟩
 obtain⟨ab,nb,cb,ac,nc,cc,ad,nd,cd,ae,ne,ce,hC⟩:=hC
 simp only [List.cons.injEq,and_true]at hC
 obtain⟨rfl,rfl,rfl,rfl,rfl⟩:=hC
 have HP:=hide hP
 have HH:=hide h
 clear hP h hz
 refine (callsIn_wide (n:=5)).1 ?_
 refine callsIn_of_wp_marks Tryz.func62 rfl trivial ?_ rfl
 simp only [Tryz.ntmps62,List.size_toArray,List.length_cons,List.length_nil,Nat.reduceAdd,Nat.reduceSub,Array.replicate_succ,Array.replicate_zero,List.push_toArray,List.append_toArray,List.nil_append,List.cons_append]
 gi_wp2_with fail
 refine⟨trivial,?_⟩
 refine (callsIn_wide.2 (zlq _ _ _ _ _ _ _ _ _ _ _ _ _ _)).mono ?_
 rintro e W ⟨rfl,hW⟩
 obtain⟨l1,l2,l3,l4,hsW,hBW⟩:=zqr w _ _ _ _ _ _ _ _ _ _ W hW
 clear hW
 simp only [World.size_alloc]
 obtain⟨q1,q2,q3,q4,q5⟩:w.heap.size<w.heap.size+1∧w.heap.size+1<w.heap.size+1+1∧w.heap.size+1+1<w.heap.size+1+1+1∧w.heap.size+1+1+1<w.heap.size+1+1+1+1∧w.heap.size+1+1+1+1<W.heap.size:=by omega
 clear hsW
 generalize w.heap.size+1+1+1+1=p4 at *
 generalize w.heap.size+1+1+1=p3 at *
 generalize w.heap.size+1+1=p2 at *
 generalize w.heap.size+1=p1 at *
 gi_wp2_with fail
 refine znV (gf:=131) (lb:= #[.pointer (some ⟨p4,0,none⟩)]) (Bx:=BxN) (Mt:=fun i _=>i∈[p1,p2,p3,W.heap.size+1]) (xs:=xs) (encs:=zgv) rfl (enters_of Tryz.func131 (by kernel_rfl) rfl) (fun _=>by simp) (fun q o hq _ hm=>by simp at hm;omega)
  (zmZ w W _ p4 k _ (fun i o hi hm=>by simp at hm;omega) _ _ _ _ _ t xs (zaa HP) hsz hBW l4) (fun _=>rfl)
  (fun pre V=>Loc V p3 #[.int .i64 (pre.length:Nat)] 3∧Loc V p1 #[.bool false] 4∧VSet (W.heap.size+2) V p2∧Below w.heap.size w V∧scan (pre.map tst) 120=(true,(120:Int)-(pre.length:Nat)))
  (fun pre V=>Loc V p1 #[.bool false] 4∧Below w.heap.size w V∧(scan (pre.map tst) 120).1=false)
  (fun pre A B row hs hg hr=>⟨hs.1.stay hg hr (by omega) (by omega),hs.2.1.stay hg hr (by omega) (by omega),hs.2.2.1.stay hg hr (by omega) (by omega),zdM hs.2.2.2.1 (by omega) hg hr hs.2.2.2.1.size,hs.2.2.2.2⟩)
  (fun pre A B row hs hg hr=>⟨hs.1.stay hg hr (by omega) (by omega),zdM hs.2.1 (by omega) hg hr hs.2.1.size,hs.2.2⟩)
  ⟨l3,l1,.inl l2,hBW,rfl⟩
  (fun x a' V=>∃q,W.heap.size+1<q∧Loc V q #[x.a,x.b,x.c,x.d,x.e] 37∧a'={ tmps:= #[.agg #[.int .i64 0,.slice ab nb cb,.slice ac nc cc,.slice ad nd cd,.slice ae ne ce],.pointer (some ⟨w.heap.size,0,none⟩),.pointer (some ⟨p1,0,none⟩),.pointer (some ⟨p2,0,none⟩),.pointer (some ⟨p3,0,none⟩),.int .i64 x.deep,.pointer (some ⟨q,0,none⟩),.pointer (some ⟨w.heap.size,0,none⟩),.int .i64 0,.bool false,.agg #[.int .i64 0,.slice ab nb cb,.slice ac nc cc,.slice ad nd cd,.slice ae ne ce],.func (.func 131) #[] #[.pointer (some ⟨p4,0,none⟩)],.int .i64 x.deep,.agg #[x.a,x.b,x.c,x.d,x.e],undef,undef,undef,undef,undef,undef,undef,undef,undef,undef,undef,undef,undef],defers:=[] })
  (fun x a' u A B row hs hg hr=>by obtain⟨q,h1,h2,h3⟩:=hs;exact⟨q,h1,h2.stay hg hr (by omega) (by omega),h3⟩)
  ?assign ?body ?done ?stop
 case assign=>
  intro pre x V K hi hV2 hK
  obtain⟨deep,a,b,c,d,e,m,u,rd⟩:=x
  obtain⟨z,ab',nb',cb',ac',nc',cc',ad',nd',cd',ae',ne',ce',hC⟩:=zeY rd
  simp only [List.cons.injEq,and_true]at hC
  obtain⟨rfl,rfl,rfl,rfl,rfl⟩:=hC
  simp only [zgv]at hK ⊢
  gi_wp2
  exact hK _ _ ((Below.refl _ _).alloc (Nat.le_refl _) _) ⟨V.heap.size,by omega,Loc.made V _ _,rfl⟩
 case body=>
  rintro pre x a' V ⟨i3,i1,iV,iB,iS⟩ ⟨q,hq,lq,rfl⟩ hpx hsz2
  obtain⟨deep,a,b,c,d,e,m,u,rd⟩:=x
  have HI:=hide (And.intro i3 (And.intro i1 (And.intro iV (And.intro iB iS))))
  have HR:=hide rd
  obtain⟨z,ab',nb',cb',ac',nc',cc',ad',nd',cd',ae',ne',ce',hC⟩:=zeY rd
  simp only [List.cons.injEq,and_true]at hC
  obtain⟨rfl,rfl,rfl,rfl,rfl⟩:=hC
  have hlen:pre.length≤120:=by
   have:=zph (a:=pre.map tst) (left:=120) (by rw [iS]) (by omega)
   simp at this
   omega
  have c3:V.cell? ⟨p3,0,none⟩=some (.int .i64 (pre.length:Nat)):=i3.cell 0
  have f3:=i3.frozen 0
  have c1:V.cell? ⟨p1,0,none⟩=some (.bool false):=i1.cell 0
  have f1:=i1.frozen 0
  simp only at lq
  obtain⟨x0,x1,x2,x3,x4⟩:=lq.five
  have hsn:=zoX (x:=tst (⟨deep,.int .i64 z,.slice ab' nb' cb',.slice ac' nc' cc',.slice ad' nd' cd',.slice ae' ne' ce',m,u,rd⟩:It w)) iS
  have HS:=hide hsn
  clear hsn iS i3 i1 iV iB
  generalize hn:pre.length=n at *
  have HN:=hide hn
  clear hn
  have hn1:0≤(n:Int)+1:=by omega
  have hBk:BooksSame W.heap.size V ((V.setCell ⟨p3,0,none⟩ (.int .i64 ((n:Int)+1))).setCell ⟨p1,0,none⟩ (.bool false)):=(zeB W.heap.size V p3 0 _ (by omega) (by omega)).trans (zeB W.heap.size _ p1 0 _ (by omega) (by omega))
  by_cases h1:120<(n:Int)+1
  ·gi_wp2
   refine⟨trivial,?_⟩
   gi_wp2
   obtain⟨i3,i1,iV,iB,iS⟩:=zaa HI
   refine⟨hBk,(i1.other p3 0 _ (by omega)).set 0 (.bool false),(iB.setCell (p:=⟨p3,0,none⟩) (by show w.heap.size≤p3;omega) _).setCell (p:=⟨p1,0,none⟩) (by show w.heap.size≤p1;omega) _,?_⟩
   rw [List.map_append,List.map_cons,List.map_nil,zaa HS,if_pos (.inl h1)]
  ·by_cases h2:20<deep
   ·gi_wp2
    refine⟨trivial,?_⟩
    gi_wp2
    obtain⟨i3,i1,iV,iB,iS⟩:=zaa HI
    refine⟨hBk,(i1.other p3 0 _ (by omega)).set 0 (.bool false),(iB.setCell (p:=⟨p3,0,none⟩) (by show w.heap.size≤p3;omega) _).setCell (p:=⟨p1,0,none⟩) (by show w.heap.size≤p1;omega) _,?_⟩
    rw [List.map_append,List.map_cons,List.map_nil,zaa HS,if_pos (.inr (.inl h2))]
   ·have hcall:Calls Tryz.prog 90 #[.agg #[.int .i64 z,.slice ab' nb' cb',.slice ac' nc' cc',.slice ad' nd' cd',.slice ae' ne' ce'],.pointer (some ⟨p2,0,none⟩)] (V.setCell ⟨p3,0,none⟩ (.int .i64 ((n:Int)+1))) fun e w'=>e=.returned (.bool (zbw u))∧VSet (W.heap.size+2) w' p2∧Frm (V.setCell ⟨p3,0,none⟩ (.int .i64 ((n:Int)+1))) w' [p2]:=by
     obtain⟨i3,i1,iV,iB,iS⟩:=zaa HI
     exact ziN (W.heap.size+2) m w _ _ _ _ _ _ u p2 (zaa HR) (iB.setCell (p:=⟨p3,0,none⟩) (by show w.heap.size≤p3;omega) _) (by omega) (iV.set i3 (by omega) 0 _) (by simpa using hsz2)
    have HC:=hide hcall
    clear hcall
    gi_wp2
    refine⟨trivial,?_⟩
    refine (CallsIn.inRound (F:=Fence.wide) (W.heap.size+1) (callsIn_wide.2 (zaa HC))).mono ?_
    rintro e V2 ⟨rfl,hV2,F2⟩
    have HA:Hid (Loc V2 p3 #[.int .i64 ((n:Int)+1)] 3∧Loc V2 p1 #[.bool false] 4∧Below w.heap.size w V2∧BooksSame W.heap.size V V2∧Frm V V2 [p1,p2,p3,W.heap.size+1]):=by
     obtain⟨i3,i1,iV,iB,iS⟩:=zaa HI
     have iB1:=iB.setCell (p:=⟨p3,0,none⟩) (by show w.heap.size≤p3;omega) (.int .i64 ((n:Int)+1))
     refine⟨(i3.set 0 _).frm F2 (by simp;omega),(i1.other p3 0 _ (by omega)).frm F2 (by simp;omega),iB1.trans (F2.below iB1.size (fun g hg=>by simp at hg;omega)),(zeB W.heap.size V p3 0 _ (by omega) (by omega)).trans (znT F2 (by simpa using hsz2) (by simp;omega) (by simp;omega)),?_⟩
     exact ((Frm.set V p3 0 _).mono (fun g hg=>by simp at hg;simp [hg])).trans (F2.mono (fun g hg=>by simp at hg;simp [hg]))
    have c1:V2.cell? ⟨p1,0,none⟩=some (.bool false):=(zaa HA).2.1.cell 0
    have f1:=(zaa HA).2.1.frozen 0
    clear x0 x1 x2 x3 x4 c3 f3
    by_cases hb:zbw u=true
    ·rw [hb]
     gi_wp2
     obtain⟨a3,a1,aB,aK,aF⟩:=zaa HA
     refine⟨aK,Frp.ofFrm aF (fun g hg _ _=>hg),?_,a1,hV2,aB,?_⟩
     ·have e:((pre++[(⟨deep,.int .i64 z,.slice ab' nb' cb',.slice ac' nc' cc',.slice ad' nd' cd',.slice ae' ne' ce',m,u,rd⟩:It w)]).length:Int)=(n:Int)+1:=by rw [List.length_append,zaa HN];simp
      rw [e];exact a3
     ·rw [List.map_append,List.map_cons,List.map_nil,zaa HS,if_neg (by simp only [tst,hb];simp;omega)]
      rw [List.length_append,zaa HN]
      simp
      omega
    ·have hb':zbw u=false:=by simpa using hb
     rw [hb']
     gi_wp2
     obtain⟨a3,a1,aB,aK,aF⟩:=zaa HA
     refine⟨aK.trans (zeB W.heap.size _ p1 0 _ (by omega) (by omega)),a1.set 0 (.bool false),aB.setCell (p:=⟨p1,0,none⟩) (by show w.heap.size≤p1;omega) _,?_⟩
     rw [List.map_append,List.map_cons,List.map_nil,zaa HS,if_pos (.inr (.inr hb'))]
 case done=>
  rintro V ⟨i3,i1,iV,iB,iS⟩ hD
  have c1:V.cell? ⟨p1,0,none⟩=some (.bool false):=i1.cell 0
  have f1:=i1.frozen 0
  have HF:=hide (show okN k t=true by rw [zaa HO,←zaa HM,iS])
  clear iS
  gi_wp2
  have hD':(V.setCell ⟨p1,0,none⟩ (.bool true)).heap[W.heap.size]? = some (.deferred (some [])):=(heap_setCell_other V ⟨p1,0,none⟩ _ _ (by show W.heap.size≠p1;omega)).trans hD
  refine⟨by simp,.inl ⟨_,_,rfl,run_takeDeferred hD',?_⟩⟩
  have lE:Loc ((V.setCell ⟨p1,0,none⟩ (.bool true)).putObj W.heap.size (.deferred none)) p1 #[.bool true] 4:=(i1.set 0 (.bool true)).stay (grownBy_putObj' _ _ _) (fun r e=>by cases e;exact .inl rfl) (by omega) (by omega)
  have c5:((V.setCell ⟨p1,0,none⟩ (.bool true)).putObj W.heap.size (.deferred none)).cell? ⟨p1,0,none⟩=some (.bool true):=lE.cell 0
  refine⟨.bool true,?_,by rw [zaa HF],zdM (iB.setCell (p:=⟨p1,0,none⟩) (by show w.heap.size≤p1;omega) _) (D:=W.heap.size) (by omega) (grownBy_putObj' _ _ _) (fun r e=>by cases e;exact .inl rfl) (by simpa using iB.size)⟩
  simp [results,Tryz.f62,go_sem,c5]
 case stop=>
  rintro pre V hpre ⟨i1,iB,iS⟩ hD
  have HF:=hide (show okN k t=false by rw [zaa HO,←zaa HM];exact zrz iS (hpre.map _))
  clear iS
  gi_wp2
  refine⟨by simp,.inl ⟨_,_,rfl,run_takeDeferred hD,?_⟩⟩
  have lE:Loc (V.putObj W.heap.size (.deferred none)) p1 #[.bool false] 4:=i1.stay (grownBy_putObj' _ _ _) (fun r e=>by cases e;exact .inl rfl) (by omega) (by omega)
  have c5:(V.putObj W.heap.size (.deferred none)).cell? ⟨p1,0,none⟩=some (.bool false):=lE.cell 0
  refine⟨.bool false,?_,by rw [zaa HF],zdM iB (D:=W.heap.size) (by omega) (grownBy_putObj' _ _ _) (fun r e=>by cases e;exact .inl rfl) iB.size⟩
  simp [results,Tryz.f62,go_sem,c5]
theorem zmx (k:Nat) (w:World) (a b c d e:Value) (t:Tr (k+1)) (h:RdNode (k+1) w [a,b,c,d,e] t) (hz:t.kind≠0) :
  Calls Tryz.prog 62 #[.agg #[a,b,c,d,e]] w fun e w'=>e=.returned (.bool (okN k t))∧Below w.heap.size w w':=by
 have HO:=hide (show okN k t=false by unfold okN;simp [hz])
 obtain⟨_,_,_,_,e0,k1,k2,hb,hc,hd,he⟩:=h
 simp only [List.cons.injEq,and_true]at e0
 obtain⟨rfl,rfl,rfl,rfl,rfl⟩:=e0
 obtain⟨ab,cb,rfl,_,_⟩:=hb.shape
 obtain⟨ac,cc,rfl,_,_⟩:=hc.shape
 obtain⟨ad,cd,rfl,_,_⟩:=Elems.shape hd
 obtain⟨ae,ce,rfl,_,_⟩:=Elems.shape he
 have d0:(t.kind != 0)=true:=by simpa using hz
 clear hb hc hd he
 generalize t.kind=z at *
 generalize t.name.length=nb at *
 generalize t.text.length=nc at *
 generalize t.attrs.length=nd at *
 generalize t.kids.length=ne at *
 go_enter Tryz.func62,Tryz.ntmps62
 go_wp2_with fail
 refine bodyPost_ret (v:=.bool false) (by simp [results,Tryz.results62,go_sem]) rfl ⟨by rw [zaa HO],?_⟩
 exact ((Below.refl _ _).alloc (Nat.le_refl _) _).alloc (by simp) _
theorem zfS (k:Nat) (w:World) (a b c d e:Value) (t:Tr (k+1)) (h:RdNode (k+1) w [a,b,c,d,e] t) (hsz:szT (k+1) t≤2097152) :
  Calls Tryz.prog 62 #[.agg #[a,b,c,d,e]] w fun e w'=>e=.returned (.bool (okN k t))∧Below w.heap.size w w':=by
 by_cases hz:t.kind=0
 ·exact zne k w a b c d e t h hsz hz
 ·exact zmx k w a b c d e t h hz
end Go.Proofs.YtlpnibbdmkeklaaGreatDoor
namespace Go.Proofs.YtlpnibbdmkeklaaGreatDoor
open Go.RowKit
set_option linter.unusedVariables false
set_option maxRecDepth 100000
theorem zas {w w':World} {o:Obj} (h:Below w.heap.size w w'):Below w.heap.size w (w'.alloc o):=h.alloc h.size o
set_option maxHeartbeats 6400000 in
theorem zst (w:World) (o:OpV) (a1 a2 a3:Option Addr) (c1 c2 c3:Nat) (hk:Ints w (.slice a1 o.key.length c1) o.key) (hn:Byt w (.slice a2 o.name.length c2) o.name) (ht:Byt w (.slice a3 o.text.length c3) o.text) (k0:o.kind=0) :
  Calls Tryz.prog 83 #[zaU o (.slice a1 o.key.length c1) (.slice a2 o.name.length c2) (.slice a3 o.text.length c3)] w fun e w'=>e=.returned (.bool (opB o))∧Below w.heap.size w w':=by
 have hE:=zjp k0
 have HK:=hide hk
 have HM:=hide hn
 have HX:=hide ht
 clear hk hn ht
 unfold zaU
 rw [k0]
 go_enter Tryz.func83,Tryz.ntmps83
 go_wp2_with fail
 refine (zdZ _ o.parN o.parR).mono ?_
 rintro e w1 ⟨rfl,ew⟩
 obtain rfl:=ew
 cases hx:idB o.parN o.parR
 ·rw [hx]at hE
  clear hx
  go_wp2_with fail
  refine (zaH _ o.atN o.atR).mono ?_
  rintro e w1 ⟨rfl,rfl⟩
  cases hs:zan o.atN o.atR
  ·have HF:=hide (show opB o=false by rw [hE,hs];rfl)
   clear hE hs
   go_wp2_with fail
   go_ret
   exact⟨by rw [zaa HF];rfl,(by repeat (first | exact Below.refl _ _ | refine zas ?_))⟩
  ·have HF:=hide (show opB o=false by rw [hE,hs];rfl)
   clear hE hs
   go_wp2_with fail
   go_ret
   exact⟨by rw [zaa HF];rfl,(by repeat (first | exact Below.refl _ _ | refine zas ?_))⟩
 rw [hx]at hE
 clear hx
 go_wp2_with fail
 refine (zkm _ _ o.key ((zaa HK).keep (by repeat (first | exact Below.refl _ _ | refine zas ?_)))).mono ?_
 rintro e w1 ⟨rfl,ew⟩
 obtain rfl:=ew
 cases hx:keyB o.key
 ·rw [hx]at hE
  clear hx
  go_wp2_with fail
  refine (zaH _ o.atN o.atR).mono ?_
  rintro e w1 ⟨rfl,rfl⟩
  cases hs:zan o.atN o.atR
  ·have HF:=hide (show opB o=false by rw [hE,hs];rfl)
   clear hE hs
   go_wp2_with fail
   go_ret
   exact⟨by rw [zaa HF];rfl,(by repeat (first | exact Below.refl _ _ | refine zas ?_))⟩
  ·have HF:=hide (show opB o=false by rw [hE,hs];rfl)
   clear hE hs
   go_wp2_with fail
   go_ret
   exact⟨by rw [zaa HF];rfl,(by repeat (first | exact Below.refl _ _ | refine zas ?_))⟩
 rw [hx]at hE
 clear hx
 go_wp2_with fail
 refine (zoY _ o.elem _ _ o.name o.text ((zaa HM).keep (by repeat (first | exact Below.refl _ _ | refine zas ?_))) ((zaa HX).keep (by repeat (first | exact Below.refl _ _ | refine zas ?_)))).mono ?_
 rintro e w1 ⟨rfl,ew⟩
 obtain rfl:=ew
 cases hx:zcy o.elem o.name o.text
 ·rw [hx]at hE
  clear hx
  go_wp2_with fail
  refine (zaH _ o.atN o.atR).mono ?_
  rintro e w1 ⟨rfl,rfl⟩
  cases hs:zan o.atN o.atR
  ·have HF:=hide (show opB o=false by rw [hE,hs];rfl)
   clear hE hs
   go_wp2_with fail
   go_ret
   exact⟨by rw [zaa HF];rfl,(by repeat (first | exact Below.refl _ _ | refine zas ?_))⟩
  ·have HF:=hide (show opB o=false by rw [hE,hs];rfl)
   clear hE hs
   go_wp2_with fail
   go_ret
   exact⟨by rw [zaa HF];rfl,(by repeat (first | exact Below.refl _ _ | refine zas ?_))⟩
 rw [hx]at hE
 clear hx
 go_wp2_with fail
 refine (zaH _ o.atN o.atR).mono ?_
 rintro e w1 ⟨rfl,rfl⟩
 cases hs:zan o.atN o.atR
 ·have HF:=hide (show opB o=false by rw [hE,hs];rfl)
  clear hE hs
  go_wp2_with fail
  go_ret
  exact⟨by rw [zaa HF];rfl,(by repeat (first | exact Below.refl _ _ | refine zas ?_))⟩
 ·rw [hs]at hE
  have HF:=hide (show opB o=zbl (zjr o) by rw [hE];rfl)
  clear hE hs
  go_wp2_with fail
  refine (zet _ (zjr o) none none none 0 0 0).mono ?_
  rintro e w1 ⟨rfl,hB1⟩
  have hA:=zad (a:=w) (by repeat (first | exact Below.refl _ _ | refine zas ?_)) hB1
  clear hB1
  go_wp2_with fail
  go_ret
  exact⟨by rw [zaa HF];rfl,hA⟩
set_option maxHeartbeats 6400000 in
theorem zsv (w:World) (o:OpV) (a1 a2 a3:Option Addr) (c1 c2 c3:Nat) (hk:Ints w (.slice a1 o.key.length c1) o.key) (hn:Byt w (.slice a2 o.name.length c2) o.name) (ht:Byt w (.slice a3 o.text.length c3) o.text) (k0:o.kind=1) :
  Calls Tryz.prog 83 #[zaU o (.slice a1 o.key.length c1) (.slice a2 o.name.length c2) (.slice a3 o.text.length c3)] w fun e w'=>e=.returned (.bool (opB o))∧Below w.heap.size w w':=by
 have hE:=zjt k0
 have HK:=hide hk
 have HM:=hide hn
 have HX:=hide ht
 clear hk hn ht
 unfold zaU
 rw [k0]
 go_enter Tryz.func83,Tryz.ntmps83
 go_wp2_with fail
 refine (zdZ _ o.nodeN o.nodeR).mono ?_
 rintro e w1 ⟨rfl,ew⟩
 obtain rfl:=ew
 cases hx:idB o.nodeN o.nodeR
 ·rw [hx]at hE
  clear hx
  go_wp2_with fail
  refine (zaH _ o.atN o.atR).mono ?_
  rintro e w1 ⟨rfl,rfl⟩
  cases hs:zan o.atN o.atR
  ·have HF:=hide (show opB o=false by rw [hE,hs];rfl)
   clear hE hs
   go_wp2_with fail
   go_ret
   exact⟨by rw [zaa HF];rfl,(by repeat (first | exact Below.refl _ _ | refine zas ?_))⟩
  ·have HF:=hide (show opB o=false by rw [hE,hs];rfl)
   clear hE hs
   go_wp2_with fail
   go_ret
   exact⟨by rw [zaa HF];rfl,(by repeat (first | exact Below.refl _ _ | refine zas ?_))⟩
 rw [hx]at hE
 clear hx
 go_wp2_with fail
 refine (zdZ _ o.parN o.parR).mono ?_
 rintro e w1 ⟨rfl,ew⟩
 obtain rfl:=ew
 cases hx:idB o.parN o.parR
 ·rw [hx]at hE
  clear hx
  go_wp2_with fail
  refine (zaH _ o.atN o.atR).mono ?_
  rintro e w1 ⟨rfl,rfl⟩
  cases hs:zan o.atN o.atR
  ·have HF:=hide (show opB o=false by rw [hE,hs];rfl)
   clear hE hs
   go_wp2_with fail
   go_ret
   exact⟨by rw [zaa HF];rfl,(by repeat (first | exact Below.refl _ _ | refine zas ?_))⟩
  ·have HF:=hide (show opB o=false by rw [hE,hs];rfl)
   clear hE hs
   go_wp2_with fail
   go_ret
   exact⟨by rw [zaa HF];rfl,(by repeat (first | exact Below.refl _ _ | refine zas ?_))⟩
 rw [hx]at hE
 clear hx
 go_wp2_with fail
 refine (zkm _ _ o.key ((zaa HK).keep (by repeat (first | exact Below.refl _ _ | refine zas ?_)))).mono ?_
 rintro e w1 ⟨rfl,ew⟩
 obtain rfl:=ew
 cases hx:keyB o.key
 ·rw [hx]at hE
  clear hx
  go_wp2_with fail
  refine (zaH _ o.atN o.atR).mono ?_
  rintro e w1 ⟨rfl,rfl⟩
  cases hs:zan o.atN o.atR
  ·have HF:=hide (show opB o=false by rw [hE,hs];rfl)
   clear hE hs
   go_wp2_with fail
   go_ret
   exact⟨by rw [zaa HF];rfl,(by repeat (first | exact Below.refl _ _ | refine zas ?_))⟩
  ·have HF:=hide (show opB o=false by rw [hE,hs];rfl)
   clear hE hs
   go_wp2_with fail
   go_ret
   exact⟨by rw [zaa HF];rfl,(by repeat (first | exact Below.refl _ _ | refine zas ?_))⟩
 rw [hx]at hE
 clear hx
 go_wp2_with fail
 refine (zaH _ o.atN o.atR).mono ?_
 rintro e w1 ⟨rfl,rfl⟩
 cases hs:zan o.atN o.atR
 ·have HF:=hide (show opB o=false by rw [hE,hs];rfl)
  clear hE hs
  go_wp2_with fail
  go_ret
  exact⟨by rw [zaa HF];rfl,(by repeat (first | exact Below.refl _ _ | refine zas ?_))⟩
 ·rw [hs]at hE
  have HF:=hide (show opB o=zbl (zjv o) by rw [hE];rfl)
  clear hE hs
  go_wp2_with fail
  refine (zet _ (zjv o) none a2 a3 0 c2 c3).mono ?_
  rintro e w1 ⟨rfl,hB1⟩
  have hA:=zad (a:=w) (by repeat (first | exact Below.refl _ _ | refine zas ?_)) hB1
  clear hB1
  go_wp2_with fail
  go_ret
  exact⟨by rw [zaa HF];rfl,hA⟩
set_option maxHeartbeats 6400000 in
theorem zsu (w:World) (o:OpV) (a1 a2 a3:Option Addr) (c1 c2 c3:Nat) (hk:Ints w (.slice a1 o.key.length c1) o.key) (hn:Byt w (.slice a2 o.name.length c2) o.name) (ht:Byt w (.slice a3 o.text.length c3) o.text) (k0:o.kind=2) :
  Calls Tryz.prog 83 #[zaU o (.slice a1 o.key.length c1) (.slice a2 o.name.length c2) (.slice a3 o.text.length c3)] w fun e w'=>e=.returned (.bool (opB o))∧Below w.heap.size w w':=by
 have hE:=zjs k0
 have HK:=hide hk
 have HM:=hide hn
 have HX:=hide ht
 clear hk hn ht
 unfold zaU
 rw [k0]
 go_enter Tryz.func83,Tryz.ntmps83
 go_wp2_with fail
 refine (zdZ _ o.nodeN o.nodeR).mono ?_
 rintro e w1 ⟨rfl,ew⟩
 obtain rfl:=ew
 cases hx:idB o.nodeN o.nodeR
 ·rw [hx]at hE
  clear hx
  go_wp2_with fail
  refine (zaH _ o.atN o.atR).mono ?_
  rintro e w1 ⟨rfl,rfl⟩
  cases hs:zan o.atN o.atR
  ·have HF:=hide (show opB o=false by rw [hE,hs];rfl)
   clear hE hs
   go_wp2_with fail
   go_ret
   exact⟨by rw [zaa HF];rfl,(by repeat (first | exact Below.refl _ _ | refine zas ?_))⟩
  ·have HF:=hide (show opB o=false by rw [hE,hs];rfl)
   clear hE hs
   go_wp2_with fail
   go_ret
   exact⟨by rw [zaa HF];rfl,(by repeat (first | exact Below.refl _ _ | refine zas ?_))⟩
 rw [hx]at hE
 clear hx
 go_wp2_with fail
 refine (zhR _ _ o.text ((zaa HX).keep (by repeat (first | exact Below.refl _ _ | refine zas ?_)))).mono ?_
 rintro e w1 ⟨rfl,ew⟩
 obtain rfl:=ew
 cases hx:zbo o.text
 ·rw [hx]at hE
  clear hx
  go_wp2_with fail
  refine (zaH _ o.atN o.atR).mono ?_
  rintro e w1 ⟨rfl,rfl⟩
  cases hs:zan o.atN o.atR
  ·have HF:=hide (show opB o=false by rw [hE,hs];rfl)
   clear hE hs
   go_wp2_with fail
   go_ret
   exact⟨by rw [zaa HF];rfl,(by repeat (first | exact Below.refl _ _ | refine zas ?_))⟩
  ·have HF:=hide (show opB o=false by rw [hE,hs];rfl)
   clear hE hs
   go_wp2_with fail
   go_ret
   exact⟨by rw [zaa HF];rfl,(by repeat (first | exact Below.refl _ _ | refine zas ?_))⟩
 rw [hx]at hE
 clear hx
 go_wp2_with fail
 refine (zaH _ o.atN o.atR).mono ?_
 rintro e w1 ⟨rfl,rfl⟩
 cases hs:zan o.atN o.atR
 ·have HF:=hide (show opB o=false by rw [hE,hs];rfl)
  clear hE hs
  go_wp2_with fail
  go_ret
  exact⟨by rw [zaa HF];rfl,(by repeat (first | exact Below.refl _ _ | refine zas ?_))⟩
 ·rw [hs]at hE
  have HF:=hide (show opB o=zbl (zju o) by rw [hE];rfl)
  clear hE hs
  go_wp2_with fail
  refine (zet _ (zju o) a1 a2 none c1 c2 0).mono ?_
  rintro e w1 ⟨rfl,hB1⟩
  have hA:=zad (a:=w) (by repeat (first | exact Below.refl _ _ | refine zas ?_)) hB1
  clear hB1
  go_wp2_with fail
  go_ret
  exact⟨by rw [zaa HF];rfl,hA⟩
set_option maxHeartbeats 6400000 in
theorem zsq (w:World) (o:OpV) (a1 a2 a3:Option Addr) (c1 c2 c3:Nat) (hk:Ints w (.slice a1 o.key.length c1) o.key) (hn:Byt w (.slice a2 o.name.length c2) o.name) (ht:Byt w (.slice a3 o.text.length c3) o.text) (k0:o.kind=3) :
  Calls Tryz.prog 83 #[zaU o (.slice a1 o.key.length c1) (.slice a2 o.name.length c2) (.slice a3 o.text.length c3)] w fun e w'=>e=.returned (.bool (opB o))∧Below w.heap.size w w':=by
 have hE:=zjo k0
 have HK:=hide hk
 have HM:=hide hn
 have HX:=hide ht
 clear hk hn ht
 unfold zaU
 rw [k0]
 go_enter Tryz.func83,Tryz.ntmps83
 go_wp2_with fail
 refine (zdZ _ o.nodeN o.nodeR).mono ?_
 rintro e w1 ⟨rfl,ew⟩
 obtain rfl:=ew
 cases hx:idB o.nodeN o.nodeR
 ·rw [hx]at hE
  clear hx
  go_wp2_with fail
  refine (zaH _ o.atN o.atR).mono ?_
  rintro e w1 ⟨rfl,rfl⟩
  cases hs:zan o.atN o.atR
  ·have HF:=hide (show opB o=false by rw [hE,hs];rfl)
   clear hE hs
   go_wp2_with fail
   go_ret
   exact⟨by rw [zaa HF];rfl,(by repeat (first | exact Below.refl _ _ | refine zas ?_))⟩
  ·have HF:=hide (show opB o=false by rw [hE,hs];rfl)
   clear hE hs
   go_wp2_with fail
   go_ret
   exact⟨by rw [zaa HF];rfl,(by repeat (first | exact Below.refl _ _ | refine zas ?_))⟩
 rw [hx]at hE
 clear hx
 go_wp2_with fail
 refine (zlJ _ _ o.name ((zaa HM).keep (by repeat (first | exact Below.refl _ _ | refine zas ?_)))).mono ?_
 rintro e w1 ⟨rfl,ew⟩
 obtain rfl:=ew
 cases hx:zbA o.name
 ·rw [hx]at hE
  clear hx
  go_wp2_with fail
  refine (zaH _ o.atN o.atR).mono ?_
  rintro e w1 ⟨rfl,rfl⟩
  cases hs:zan o.atN o.atR
  ·have HF:=hide (show opB o=false by rw [hE,hs];rfl)
   clear hE hs
   go_wp2_with fail
   go_ret
   exact⟨by rw [zaa HF];rfl,(by repeat (first | exact Below.refl _ _ | refine zas ?_))⟩
  ·have HF:=hide (show opB o=false by rw [hE,hs];rfl)
   clear hE hs
   go_wp2_with fail
   go_ret
   exact⟨by rw [zaa HF];rfl,(by repeat (first | exact Below.refl _ _ | refine zas ?_))⟩
 rw [hx]at hE
 clear hx
 go_wp2_with fail
 refine (zql _ _ o.text o.gone ((zaa HX).keep (by repeat (first | exact Below.refl _ _ | refine zas ?_)))).mono ?_
 rintro e w1 ⟨rfl,ew⟩
 obtain rfl:=ew
 cases hx:valB o.text o.gone
 ·rw [hx]at hE
  clear hx
  go_wp2_with fail
  refine (zaH _ o.atN o.atR).mono ?_
  rintro e w1 ⟨rfl,rfl⟩
  cases hs:zan o.atN o.atR
  ·have HF:=hide (show opB o=false by rw [hE,hs];rfl)
   clear hE hs
   go_wp2_with fail
   go_ret
   exact⟨by rw [zaa HF];rfl,(by repeat (first | exact Below.refl _ _ | refine zas ?_))⟩
  ·have HF:=hide (show opB o=false by rw [hE,hs];rfl)
   clear hE hs
   go_wp2_with fail
   go_ret
   exact⟨by rw [zaa HF];rfl,(by repeat (first | exact Below.refl _ _ | refine zas ?_))⟩
 rw [hx]at hE
 clear hx
 go_wp2_with fail
 refine (zaH _ o.atN o.atR).mono ?_
 rintro e w1 ⟨rfl,rfl⟩
 cases hs:zan o.atN o.atR
 ·have HF:=hide (show opB o=false by rw [hE,hs];rfl)
  clear hE hs
  go_wp2_with fail
  go_ret
  exact⟨by rw [zaa HF];rfl,(by repeat (first | exact Below.refl _ _ | refine zas ?_))⟩
 ·rw [hs]at hE
  have HF:=hide (show opB o=zbl (zjw o) by rw [hE];rfl)
  clear hE hs
  go_wp2_with fail
  refine (zet _ (zjw o) a1 none none c1 0 0).mono ?_
  rintro e w1 ⟨rfl,hB1⟩
  have hA:=zad (a:=w) (by repeat (first | exact Below.refl _ _ | refine zas ?_)) hB1
  clear hB1
  go_wp2_with fail
  go_ret
  exact⟨by rw [zaa HF];rfl,hA⟩
set_option maxHeartbeats 6400000 in
theorem zss (w:World) (o:OpV) (a1 a2 a3:Option Addr) (c1 c2 c3:Nat) (h0:o.kind≠0) (h1:o.kind≠1) (h2:o.kind≠2) (h3:o.kind≠3) :
  Calls Tryz.prog 83 #[zaU o (.slice a1 o.key.length c1) (.slice a2 o.name.length c2) (.slice a3 o.text.length c3)] w fun e w'=>e=.returned (.bool (opB o))∧Below w.heap.size w w':=by
 have HF:=hide (zqA h0 h1 h2 h3)
 have q0:(o.kind == 0)=false:=by simpa using h0
 have q1:(o.kind == 1)=false:=by simpa using h1
 have q2:(o.kind == 2)=false:=by simpa using h2
 have q3:(o.kind == 3)=false:=by simpa using h3
 clear h0 h1 h2 h3
 unfold zaU
 go_enter Tryz.func83,Tryz.ntmps83
 go_wp2_with fail
 refine (zaH _ o.atN o.atR).mono ?_
 rintro e w1 ⟨rfl,rfl⟩
 cases hs:zan o.atN o.atR
 all_goals
  clear hs
  go_wp2_with fail
  go_ret
  exact⟨by rw [zaa HF];rfl,(by repeat (first | exact Below.refl _ _ | refine zas ?_))⟩
theorem zqP (w:World) (v:Value) (o:OpV) (h:RdOp w v o) :
  Calls Tryz.prog 83 #[v] w fun e w'=>e=.returned (.bool (opB o))∧Below w.heap.size w w':=by
 obtain⟨k,n,t,rfl,hk,hn,ht⟩:=h
 obtain⟨a1,c1,rfl,_,_⟩:=hk.shape
 obtain⟨a2,c2,rfl,_,_⟩:=hn.shape
 obtain⟨a3,c3,rfl,_,_⟩:=ht.shape
 by_cases k0:o.kind=0
 ·exact zst w o a1 a2 a3 c1 c2 c3 hk hn ht k0
 by_cases k1:o.kind=1
 ·exact zsv w o a1 a2 a3 c1 c2 c3 hk hn ht k1
 by_cases k2:o.kind=2
 ·exact zsu w o a1 a2 a3 c1 c2 c3 hk hn ht k2
 by_cases k3:o.kind=3
 ·exact zsq w o a1 a2 a3 c1 c2 c3 hk hn ht k3
 exact zss w o a1 a2 a3 c1 c2 c3 k0 k1 k2 k3
set_option maxHeartbeats 6400000 in
theorem zjF (w:World) (v:Value) (l:List OpV) (h:RdOps w v l) :
  Calls Tryz.prog 48 #[v] w fun e w'=>e=.returned (.bool (opsB l))∧Below w.heap.size w w':=by
 have hm:=h.1
 unfold maxLen at hm
 by_cases hlong:150<l.length
 ·obtain⟨a,cap,rfl,_,_⟩:=Elems.shape h
  have hd:(150:Int)<(l.length:Int):=by omega
  rw [zik hlong]
  go_enter Tryz.func48,Tryz.ntmps48
  go_wp2_with fail
  go_ret
  exact⟨rfl,Below.refl _ _⟩
 have hd:¬ (150:Int)<(l.length:Int):=by omega
 obtain⟨rfl,a,cap,rfl⟩ | ⟨b,off,cap,rfl,hnil,g4,g5⟩:=h.cases
 ·go_enter Tryz.func48,Tryz.ntmps48
  go_wp2_with fail
  refine wp_loop_rounds 1 ?_
  rw [rounds_succ]
  go_wp2_with fail
  go_ret
  exact⟨rfl,Below.refl _ _⟩
 have HG:=hide (fun hh=>zjc (l:=l) (by omega) hh)
 have HN:=hide (fun k hk hh=>zjD (l:=l) (k:=k) hk hh)
 generalize opsB l=res at *
 go_enter Tryz.func48,Tryz.ntmps48
 go_wp2_with fail
 go_loopw [3,4,10] (fun _ _ i wr=>∃k:Nat,k≤l.length∧i=.int .i64 k∧(∀j,j<k→okAt l j=true)∧Below w.heap.size w wr) (fun _ _ i _=>l.length-(intOf i).toNat)
 case atStart=>exact⟨0,Nat.zero_le _,rfl,fun j hj=>by omega,Below.refl _ _⟩
 case round=>
  obtain⟨k,hk,rfl,hok,hB⟩:=hrel
  by_cases hlt:k<l.length
  ·have HX:=hide (fun W u (hu:RdOp W u l[k])=>zqP W u l[k] hu)
   have HL:=hide (fun W n r n' r'=>ziF W n r n' r')
   have H0:=hide (fun (h:opB l[k]=false)=>zmb hlt h)
   have HZ:=hide (fun (h:opB l[k]=true) (e:k=0)=>(show okAt l k=true by subst e;exact zpa hlt h))
   have HS:=hide (fun j (e:k=j+1) (h:opB l[k]=true)=>(show okAt l k=zam (l[j]'(by omega)).atN (l[j]'(by omega)).atR l[k].atN l[k].atR by subst e;exact zkL hlt h))
   have HP:=hide (fun j (e:k=j+1)=>zcv hB g4 (g5 j (by omega)))
   have HJ:=hide (fun j (hj:j<k+1) (h:okAt l k=true)=>(show okAt l j=true by rcases Nat.lt_succ_iff_lt_or_eq.1 hj with h1 | rfl;exact hok j h1;exact h))
   have HNK:=hide (fun (h:okAt l k=false)=>zaa HN k hlt h)
   obtain⟨a1,c1,a2,c2,a3,c3,e0,e1,e2,e3,e4,e5,e6,e7,e8,e9,e10,e11,hr⟩:=zcv hB g4 (g5 k hlt)
   have hlt':(k:Int)<(l.length:Int):=by omega
   have hk0:(0:Int)≤(k:Int):=by omega
   have HR:=hide hr
   unfold zaU at HR
   generalize hoo:l[k]=o at *
   generalize o.key.length=nK at *
   generalize o.name.length=nN at *
   generalize o.text.length=nT at *
   clear g5 hr hnil hoo HG HN hok
   generalize okAt l k=okk at *
   have lo:=Loc.made wr #[.int .i64 o.kind,.int .i64 o.atN,.int .i64 o.atR,.int .i64 o.nodeN,.int .i64 o.nodeR,.int .i64 o.parN,.int .i64 o.parR,.slice a1 nK c1,.int .i64 o.elem,.slice a2 nN c2,.slice a3 nT c3,.bool o.gone] 83
   have hAb:=(Below.refl wr.heap.size wr).alloc (Nat.le_refl _) (.cells #[.int .i64 o.kind,.int .i64 o.atN,.int .i64 o.atR,.int .i64 o.nodeN,.int .i64 o.nodeR,.int .i64 o.parN,.int .i64 o.parR,.slice a1 nK c1,.int .i64 o.elem,.slice a2 nN c2,.slice a3 nT c3,.bool o.gone] 83)
   have LL:=hide (And.intro lo hAb)
   clear lo hAb
   go_wp2_with fail
   obtain⟨lo,hAb⟩:=zaa LL
   clear LL
   have hB':=zad hB hAb
   have HRb:=hide ((zaa HR).keep hAb)
   have g4':b<wr.heap.size:=Nat.lt_of_lt_of_le g4 hB.size
   have hcb:=fun a v (hb:a.block<wr.heap.size) (h:wr.cell? a=some v)=>(hAb.cell hb).trans h
   have hzz:=hAb.size
   have HCB:=hide hcb
   clear hcb hAb HR
   generalize (wr.alloc (.cells #[.int .i64 o.kind,.int .i64 o.atN,.int .i64 o.atR,.int .i64 o.nodeN,.int .i64 o.nodeR,.int .i64 o.parN,.int .i64 o.parR,.slice a1 nK c1,.int .i64 o.elem,.slice a2 nN c2,.slice a3 nT c3,.bool o.gone] 83))=wb at *
   have hSl:wr.heap.size<wb.heap.size:=lo.lt
   generalize wr.heap.size=S at *
   have hNE:Nonempty (Gr wb):=⟨⟨wb,Below.refl _ _⟩⟩
   obtain⟨y0,y1,y2,y3,y4,y5,y6,y7,y8,y9,y10,y11⟩:=lo.twelve
   replace y0:=Gr.cell hSl y0
   replace y1:=Gr.cell hSl y1
   replace y2:=Gr.cell hSl y2
   replace y3:=Gr.cell hSl y3
   replace y4:=Gr.cell hSl y4
   replace y5:=Gr.cell hSl y5
   replace y6:=Gr.cell hSl y6
   replace y7:=Gr.cell hSl y7
   replace y8:=Gr.cell hSl y8
   replace y9:=Gr.cell hSl y9
   replace y10:=Gr.cell hSl y10
   replace y11:=Gr.cell hSl y11
   clear lo e0 e1 e2 e3 e4 e5 e6 e7 e8 e9 e10 e11
   by_cases hq:opB o=true
   ·rw [hq]at HX
    rcases Nat.eq_zero_or_pos k with hz | hpos
    ·have HY:=hide (zaa HZ hq hz)
     have dz3:¬ 0<k:=by omega
     have dz4:decide (0<k)=false:=by simp;omega
     clear H0 HZ HS HP hq HL hz
     refine zaC (by kernel_rfl) (by kernel_rfl) ?_
     repeat (go_big_quiet_step ((rename_i p;exact zbT (zaa HX _ _ ((zaa HRb).keep p.h)))))
     refine wpQuiet_nil ?_
     rintro _ ⟨p,rfl⟩
     have hB3:=zad hB' p.h
     clear y0 y1 y2 y3 y4 y5 y6 y7 y8 y9 y10 y11 HRb
     go_wp2_with fail
     go_roundw
     case rel=>exact⟨k+1,by omega,by go_num,fun j hj=>zaa HJ j hj (zaa HY),hB3⟩
     case measure=>simp [intOf];omega
    ·obtain⟨j,ej⟩:∃j,k=j+1:=⟨k-1,by omega⟩
     have dz3:0<k:=hpos
     have dz4:decide (0<k)=true:=by simp;omega
     have hj1:(k:Int)-1=(j:Int):=by omega
     have hj0:(0:Int)≤(j:Int):=by omega
     have hjl:(j:Int)<(l.length:Int):=by omega
     obtain⟨pn,pr,i1,i2,HE⟩:∃pn pr,wb.cell? ⟨b,off+j*12+1,none⟩=some (.int .i64 pn)∧wb.cell? ⟨b,off+j*12+2,none⟩=some (.int .i64 pr)∧okk=zam pn pr o.atN o.atR:=by
      obtain⟨_,_,_,_,_,_,_,i1,i2,_⟩:=zaa HP j ej
      exact⟨_,_,zaa HCB _ _ g4' i1,zaa HCB _ _ g4' i2,zaa HS j ej hq⟩
     replace i1:=Gr.cell (Nat.lt_trans g4' hSl) i1
     replace i2:=Gr.cell (Nat.lt_trans g4' hSl) i2
     clear H0 HZ HS HP hq hpos
     have HLL:=hide (fun W=>zaa HL W pn pr o.atN o.atR)
     generalize zam pn pr o.atN o.atR=lb at *
     subst HE
     clear HL ej
     refine zaC (by kernel_rfl) (by kernel_rfl) ?_
     repeat (go_big_quiet_step ((rename_i p;first | exact zbT (zaa HX _ _ ((zaa HRb).keep p.h)) | exact zbT (zaa HLL _))))
     refine wpQuiet_nil ?_
     rintro _ ⟨p,rfl⟩
     have hB3:=zad hB' p.h
     clear y0 y1 y2 y3 y4 y5 y6 y7 y8 y9 y10 y11 HRb i1 i2
     cases okk with
     | true=>
      go_wp2_with fail
      go_roundw
      case rel=>exact⟨k+1,by omega,by go_num,fun j hj=>zaa HJ j hj rfl,hB3⟩
      case measure=>simp [intOf];omega
     | false=>
      have HF:=hide (zaa HNK rfl)
      clear HNK
      go_wp2_with fail
      go_ret
      exact⟨by rw [zaa HF];rfl,hB3⟩
   ·have hq':opB o=false:=by simpa using hq
    rw [hq']at HX
    have HY:=hide (zaa HNK (zaa H0 hq'))
    clear H0 HZ HS HP hq hq' HL HNK
    refine zaC (by kernel_rfl) (by kernel_rfl) ?_
    repeat (go_big_quiet_step ((rename_i p;exact zbT (zaa HX _ _ ((zaa HRb).keep p.h)))))
    refine wpQuiet_nil ?_
    rintro _ ⟨p,rfl⟩
    have hB3:=zad hB' p.h
    clear y0 y1 y2 y3 y4 y5 y6 y7 y8 y9 y10 y11 HRb
    go_wp2_with fail
    go_ret
    exact⟨by rw [zaa HY];rfl,hB3⟩
  ·have HY:=hide (zaa HG (fun j hj=>hok j (by omega)))
   clear g5
   go_wp2_with fail
   go_ret
   exact⟨by rw [zaa HY];rfl,hB⟩
end Go.Proofs.YtlpnibbdmkeklaaGreatDoor
namespace Go.Proofs.YtlpnibbdmkeklaaGreatDoor
open Go.RowKit Go.Maps
set_option linter.unusedVariables false
set_option maxRecDepth 100000
open Classical in
set_option maxHeartbeats 6400000 in
theorem zmt (n:Nat) (w:World) (t:Tr (n+1)) (a1 a2 a3 a4:Option Addr) (c1 c2 c3 c4:Nat) (hN:RdNode (n+1) w [.int .i64 t.kind,.slice a1 t.name.length c1,.slice a2 t.text.length c2,.slice a3 t.attrs.length c3,.slice a4 t.kids.length c4] t) (h1:Byt w (.slice a1 t.name.length c1) t.name) (hsz:szT (n+1) t≤2097152) :
  Calls Tryz.prog 51 #[.agg #[.int .i64 t.kind,.slice a1 t.name.length c1,.slice a2 t.text.length c2,.slice a3 t.attrs.length c3,.slice a4 t.kids.length c4]] w fun e w'=>e=.returned (.bool (okN n t && !zar t.name))∧Below w.heap.size w w':=by
 refine zaf ?_
 intro Q HQ
 have hA:Below w.heap.size w ((w.alloc (.cells #[.int .i64 t.kind,.slice a1 t.name.length c1,.slice a2 t.text.length c2,.slice a3 t.attrs.length c3,.slice a4 t.kids.length c4] 37)).alloc (.cells vs0 110)):=zad ((Below.refl _ _).alloc (Nat.le_refl _) _) ((Below.refl _ _).alloc (Nat.le_refl _) _)
 have l0:=(Loc.made w #[.int .i64 t.kind,.slice a1 t.name.length c1,.slice a2 t.text.length c2,.slice a3 t.attrs.length c3,.slice a4 t.kids.length c4] 37).alloc (.cells vs0 110)
 have l1:=Loc.made (w.alloc (.cells #[.int .i64 t.kind,.slice a1 t.name.length c1,.slice a2 t.text.length c2,.slice a3 t.attrs.length c3,.slice a4 t.kids.length c4] 37)) vs0 110
 simp only [World.size_alloc]at l1
 have HN:=hide (zfS n _ _ _ _ _ _ t (hN.keep hA) hsz)
 have x0:=l0.cell 0
 have x1:=l0.cell 1
 have x2:=l0.cell 2
 have x3:=l0.cell 3
 have x4:=l0.cell 4
 have HX:=hide (And.intro hA (And.intro l0 (And.intro l1 h1)))
 clear hA l0 l1 hN h1
 unfold vs0 at *
 go_enter Tryz.func51,Tryz.ntmps51
 go_wp2_with fail
 refine (zaa HN).mono ?_
 rintro e w2 ⟨rfl,hb2⟩
 obtain⟨hA,l0,l1,h1⟩:=zaa HX
 have m0:=l0.all hb2
 have m1:=l1.all hb2
 have hA2:=zad hA hb2
 have hm1:=m1.lt
 clear HX HN hA l0 l1 hb2 x0 x1 x2 x3 x4
 cases ho:okN n t with
 | false=>
  have HE:=hide (zaa HQ (.returned (.bool false)) w2 ⟨by rw [ho];rfl,hA2⟩)
  clear HQ hA2 m0 m1 h1
  go_wp2_with fail
  exact zaa HE
 | true=>
  have hbt:∀w',Frm w2 w' [w.heap.size+1]→Byt w' (.slice a1 t.name.length c1) t.name:=fun w' f=>h1.keep (hA2.trans (f.below hA2.size (fun q hq=>by have e9:q=w.heap.size+1:=(by simpa using hq);omega)))
  have HC:=hide (zia w2.heap.size (w.heap.size+1) w2 _ t.name (.inl m1) (Nat.le_refl _) hbt)
  have hvv:decide (Void t.name)=zar t.name:=by
   cases hv:zar t.name with
   | true=>exact decide_eq_true ((zaT _).1 hv)
   | false=>exact decide_eq_false (fun e=>by rw [(zaT _).2 e]at hv;cases hv)
  rw [hvv]at HC
  have x1:=m0.cell 1
  have HQ2:=hide (fun w' f=>zaa HQ (.returned (.bool (!zar t.name))) w' ⟨by rw [ho];rfl,hA2.trans ((show Frm w2 w' [w.heap.size+1] from f).below hA2.size (fun q hq=>by have e9:q=w.heap.size+1:=(by simpa using hq);omega))⟩)
  clear HQ hA2 m0 m1 h1 hbt hvv
  go_wp2_with fail
  refine (zaa HC).mono ?_
  rintro e w3 ⟨rfl,_,hf3⟩
  have HE:=hide (zaa HQ2 w3 hf3)
  clear HQ2 HC hf3
  go_wp2_with fail
  exact zaa HE
def FoRM (w:World) (b:Bool) (R:List PlV) (e:Ending) (w':World):Prop:=∃a c F,e=.returned (.tuple #[.agg #[.slice a R.length c],.bool b])∧OwPlsM w' (.slice a R.length c) R F∧F.Nodup∧(∀q∈F,w.heap.size≤q∧q<w'.heap.size)∧Below w.heap.size w w'
theorem FoRM.no {w w':World} (h:Below w.heap.size w w'):FoRM w false [] (.returned (.tuple #[.agg #[.slice none 0 0],.bool false])) w':=
 ⟨none,0,[],rfl,⟨[],[],rfl,rfl,fun i hi=>(by cases hi),World.ownsRow_nil _ _ _ _,rfl⟩,List.nodup_nil,fun q hq=>(by cases hq),h⟩
theorem zoF {n:Nat} {t:Tr (n+1)} (h:okN n t=true):t.kind=0∧t.text=[]:=by
 obtain⟨hk,ho⟩:=Bool.and_eq_true_iff.1 (show (decide (t.kind=0) && (okT (n+1) 1 t 120).1)=true from h)
 have hk:=of_decide_eq_true hk
 refine⟨hk,?_⟩
 rw [zbj]at ho
 rw [if_neg (by decide),if_neg (by omega)]at ho
 by_cases h3:zaP t=true
 ·exact List.eq_nil_of_length_eq_zero ((zbe _).1 h3).2.2.1
 ·rw [if_neg h3]at ho;cases ho
theorem zlp (n:Nat) (w:World) (t:Tr (n+1)) (a1 a2 a3 a4 a5:Option Addr) (c1 c2 c3 c4 c5:Nat) (ops:List OpV) (hrd:RdNode (n+1) w [.int .i64 t.kind,.slice a1 t.name.length c1,.slice a2 t.text.length c2,.slice a3 t.attrs.length c3,.slice a4 t.kids.length c4] t) (h5:RdOps w (.slice a5 ops.length c5) ops)
  (hN:okN n t=true) (hO:opsB ops=true) (hsz:szT (n+1) t≤2097152) (hG:Glo w) :
  Calls Tryz.prog 52 #[.agg #[.int .i64 t.kind,.slice a1 t.name.length c1,.slice a2 t.text.length c2,.slice a3 t.attrs.length c3,.slice a4 t.kids.length c4],.slice a5 ops.length c5] w fun e w'=>∃g mb a c F B,e=.returned (.pointer (some ⟨g,0,none⟩))∧w.heap.size≤B∧FoS B w' g mb a c (zaJ t ops) F∧Below w.heap.size w w':=by
 obtain⟨r1,r2⟩:=zoF hN
 obtain⟨kd,nm,tx,ats,ks⟩:Nd (Tr n):=t
 obtain rfl:kd=0:=r1
 obtain rfl:tx=[]:=r2
 exact zkQ n w nm ats ks a1 a2 a3 a4 a5 c1 c2 c3 c4 c5 ops hrd h5 hN hO hsz hG
set_option maxHeartbeats 6400000 in
theorem zor (n:Nat) (w:World) (t:Tr (n+1)) (a1 a2 a3 a4 a5:Option Addr) (c1 c2 c3 c4 c5:Nat) (ops:List OpV) (hN:RdNode (n+1) w [.int .i64 t.kind,.slice a1 t.name.length c1,.slice a2 t.text.length c2,.slice a3 t.attrs.length c3,.slice a4 t.kids.length c4] t) (h5:RdOps w (.slice a5 ops.length c5) ops) (hsz:szT (n+1) t≤2097152) (hG:Glo w) :
  Calls Tryz.prog 22 #[.agg #[.int .i64 t.kind,.slice a1 t.name.length c1,.slice a2 t.text.length c2,.slice a3 t.attrs.length c3,.slice a4 t.kids.length c4],.slice a5 ops.length c5] w fun e w'=>FoRM w (zdn t ops) (zdO t ops) e w':=by
 refine zaf ?_
 intro Q HQ
 have h1:Byt w (.slice a1 t.name.length c1) t.name:=by obtain⟨_,_,_,_,e,_,_,h,_⟩:=hN;cases e;exact h
 have hA:Below w.heap.size w ((w.alloc (.cells #[.int .i64 t.kind,.slice a1 t.name.length c1,.slice a2 t.text.length c2,.slice a3 t.attrs.length c3,.slice a4 t.kids.length c4] 37)).alloc (.cells #[.slice none 0 0] 58)):=zad ((Below.refl _ _).alloc (Nat.le_refl _) _) ((Below.refl _ _).alloc (Nat.le_refl _) _)
 have l0:=(Loc.made w #[.int .i64 t.kind,.slice a1 t.name.length c1,.slice a2 t.text.length c2,.slice a3 t.attrs.length c3,.slice a4 t.kids.length c4] 37).alloc (.cells #[.slice none 0 0] 58)
 have l1:=Loc.made (w.alloc (.cells #[.int .i64 t.kind,.slice a1 t.name.length c1,.slice a2 t.text.length c2,.slice a3 t.attrs.length c3,.slice a4 t.kids.length c4] 37)) #[.slice none 0 0] 58
 simp only [World.size_alloc]at l1
 have HN:=hide (zmt n _ t a1 a2 a3 a4 c1 c2 c3 c4 (hN.keep hA) (h1.keep hA) hsz)
 have x0:=l0.cell 0
 have x1:=l0.cell 1
 have x2:=l0.cell 2
 have x3:=l0.cell 3
 have x4:=l0.cell 4
 obtain⟨bb,hbb⟩:∃bb,bb=(okN n t && !zar t.name):=⟨_,rfl⟩
 rw [←hbb]at HN
 have HBB:=hide hbb
 have HX:=hide (And.intro hA (And.intro l0 (And.intro l1 (And.intro hN (And.intro h5 hG)))))
 clear hA l0 l1 hN h1 h5 hG hbb
 go_enter Tryz.func22,Tryz.ntmps22
 go_wp2_with fail
 refine (zaa HN).mono ?_
 rintro e w2 ⟨rfl,hb2⟩
 obtain⟨hA,l0,l1,hN,h5,hG⟩:=zaa HX
 have m0:=l0.all hb2
 have m1:=l1.all hb2
 have hA2:=zad hA hb2
 clear HX HN hA l0 l1 hb2 x0 x1 x2 x3 x4
 cases bb with
 | false=>
  have hb:=(zaa HBB).symm
  have hB:zdn t ops=false:=by unfold zdn;rw [hb];rfl
  have hR:zdO t ops=[]:=by unfold zdO;rw [hB];rfl
  have r0:=m1.cell 0
  have rf:=m1.frozen 0
  have lX:=m1.set 0 (.slice none 0 0)
  have fX:=zab w2 (w.heap.size+1) 0 (.slice none 0 0)
  have HE:=hide (And.intro lX (zaa HQ (.returned (.tuple #[.agg #[.slice none 0 0],.bool false])) _ (by rw [hB,hR];exact FoRM.no (hA2.trans (fX.below hA2.size (fun q hq=>by have e9:q=w.heap.size+1:=(by simpa using hq);omega))))))
  clear HQ hA2 m0 m1 lX fX hN h5 hG hB hR hb HBB
  go_wp2_with fail
  have eX:=(zaa HE).1.cell 0
  exact bodyPost_ret (v:=.tuple #[.agg #[.slice none 0 0],.bool false]) (by simp [results,Tryz.results22,go_sem,eX]) rfl (zaa HE).2
 | true=>
  have hb:=(zaa HBB).symm
  have HO:=hide (zjF w2 _ ops (h5.keep hA2))
  have HY:=hide (And.intro hA2 (And.intro m0 (And.intro m1 (And.intro hN (And.intro h5 (And.intro hG hb))))))
  clear hA2 m0 m1 hN h5 hG hb HBB
  go_wp2_with fail
  refine (zaa HO).mono ?_
  rintro e w3 ⟨rfl,hb3⟩
  obtain⟨hA2,m0,m1,hN,h5,hG,hb⟩:=zaa HY
  have n0:=m0.all hb3
  have n1:=m1.all hb3
  have hA3:=zad hA2 hb3
  clear HO HY hA2 m0 m1 hb3
  cases ho:opsB ops with
  | false=>
   have hB:zdn t ops=false:=by unfold zdn;rw [ho];simp
   have hR:zdO t ops=[]:=by unfold zdO;rw [hB];rfl
   have r0:=n1.cell 0
   have rf:=n1.frozen 0
   have lX:=n1.set 0 (.slice none 0 0)
   have fX:=zab w3 (w.heap.size+1) 0 (.slice none 0 0)
   have HE:=hide (And.intro lX (zaa HQ (.returned (.tuple #[.agg #[.slice none 0 0],.bool false])) _ (by rw [hB,hR];exact FoRM.no (hA3.trans (fX.below hA3.size (fun q hq=>by have e9:q=w.heap.size+1:=(by simpa using hq);omega))))))
   clear HQ hA3 n0 n1 lX fX hN h5 hG hB hR hb
   go_wp2_with fail
   have eX:=(zaa HE).1.cell 0
   exact bodyPost_ret (v:=.tuple #[.agg #[.slice none 0 0],.bool false]) (by simp [results,Tryz.results22,go_sem,eX]) rfl (zaa HE).2
  | true=>
   have hB:zdn t ops=true:=by unfold zdn;rw [hb,ho];rfl
   have hR:zdO t ops=zaJ t ops:=by unfold zdO;rw [hB];rfl
   have hNk:okN n t=true:=by cases hq:okN n t with | true=>rfl | false=>rw [hq]at hb;cases hb
   have HC:=hide (zlp n w3 t a1 a2 a3 a4 a5 c1 c2 c3 c4 c5 ops (hN.keep hA3) (h5.keep hA3) hNk ho hsz (hG.keep hA3))
   have y0:=n0.cell 0
   have y1:=n0.cell 1
   have y2:=n0.cell 2
   have y3:=n0.cell 3
   have y4:=n0.cell 4
   have HZ:=hide (And.intro hA3 (And.intro n1 (And.intro hB hR)))
   clear hA3 n0 n1 hN h5 hG hB hR hb ho hNk
   go_wp2_with fail
   refine (zaa HC).mono ?_
   rintro e w4 ⟨g,mb,a,c,F,B,rfl,hBw,hs,hb4⟩
   obtain⟨hA3,n1,hB,hR⟩:=zaa HZ
   obtain⟨cs,lg,hc0,_⟩:=hs.set.loc
   have g0:w4.cell? ⟨g,0,none⟩=some (.slice a (zaJ t ops).length c):=(lg.cell 0).trans hc0
   have o1:=n1.all hb4
   have hA4:=zad hA3 hb4
   have hr1:=n1.lt
   have r0:=o1.cell 0
   have rf:=o1.frozen 0
   have lX:=o1.set 0 (.slice a (zaJ t ops).length c)
   have fX:=zab w4 (w.heap.size+1) 0 (.slice a (zaJ t ops).length c)
   have hlt:=OwPlsM.lt hs.row
   have hs9:=hA3.size
   have hsX:=fX.size
   have HE:=hide (And.intro lX (zaa HQ (.returned (.tuple #[.agg #[.slice a (zaJ t ops).length c],.bool true])) _ (by
    rw [hB,hR]
    exact⟨a,c,F,rfl,hs.row.frm fX (fun q hq e=>by have e9:q=w.heap.size+1:=(by simpa using e);have:=hs.ge q hq;omega),hs.nd,fun q hq=>⟨by have:=hs.ge q hq;omega,by have:=hlt q hq;omega⟩,hA4.trans (fX.below hA4.size (fun q hq=>by have e9:q=w.heap.size+1:=(by simpa using hq);omega))⟩)))
   clear HQ HC HZ hs lg hc0 o1 hA4 lX fX hlt hA3 n1 hB hR
   generalize (zaJ t ops).length=nn at *
   go_wp2_with fail
   have eX:=(zaa HE).1.cell 0
   exact bodyPost_ret (v:=.tuple #[.agg #[.slice a nn c],.bool true]) (by simp [results,Tryz.results22,go_sem,eX]) rfl (zaa HE).2
end Go.Proofs.YtlpnibbdmkeklaaGreatDoor
namespace Go.Proofs.YtlpnibbdmkeklaaGreatDoor
open Go.RowKit
set_option linter.unusedVariables false
set_option maxRecDepth 100000
theorem zpG {P:Prop} [Decidable P] {b:Bool} (h:b=true↔P):b=decide P:=by
 cases b with
 | true=>simp [h.1 rfl]
 | false=>simp;exact fun hh=>by have:=h.2 hh;cases this
open Classical in
set_option maxHeartbeats 6400000 in
theorem znM (n:Nat) (w:World) (a b c d e:Value) (t:Tr (n+1)) (h:RdNode (n+1) w [a,b,c,d,e] t) (hsz:szT (n+1) t≤2097152) :
  Calls Tryz.prog 51 #[.agg #[a,b,c,d,e]] w fun e w'=>e=.returned (.bool (zhK n t))∧Below w.heap.size w w':=by
 obtain⟨z,ab,nb,cb,ac,nc,cc,ad,nd,cd,ae,ne,ce,rfl,rfl,rfl,rfl,rfl⟩:=rd5 h
 have HN:=hide (fun W (hW:Below w.heap.size w W)=>zfS n W _ _ _ _ _ t (h.keep hW) hsz)
 have hnm:Byt w (.slice ab nb cb) t.name:=by
  obtain⟨_,_,_,_,e0,_,_,hb,_⟩:=h
  simp only [List.cons.injEq,and_true]at e0
  obtain⟨_,rfl,_⟩:=e0
  exact hb
 have HB:=hide hnm
 have HV:=hide (show zar t.name=decide (Void t.name) from zpG (zaT t.name))
 clear h hnm
 unfold zhK
 have hA1:=(Below.refl w.heap.size w).alloc (Nat.le_refl _) (.cells #[.int .i64 z,.slice ab nb cb,.slice ac nc cc,.slice ad nd cd,.slice ae ne ce] 37)
 have l1:=Loc.made w #[.int .i64 z,.slice ab nb cb,.slice ac nc cc,.slice ad nd cd,.slice ae ne ce] 37
 have hA2:=hA1.alloc (by simp) (.cells vs0 110)
 have l2:=Loc.made (w.alloc (.cells #[.int .i64 z,.slice ab nb cb,.slice ac nc cc,.slice ad nd cd,.slice ae ne ce] 37)) vs0 110
 have l1':=l1.alloc (.cells vs0 110)
 have hsz1:(w.alloc (.cells #[.int .i64 z,.slice ab nb cb,.slice ac nc cc,.slice ad nd cd,.slice ae ne ce] 37)).heap.size=w.heap.size+1:=by simp
 rw [hsz1]at l2
 have LL:=hide (And.intro hA2 (And.intro l1' l2))
 have eqv:(Value.agg #[.int .u32 0,.int .i32 0,.int .u32 0,.map none])=.agg vs0:=rfl
 clear hA1 l1 hA2 l2 l1' hsz1
 unfold vs0 at LL
 go_enter Tryz.func51,Tryz.ntmps51
 go_wp2_with fail
 obtain⟨hA,l1,l2⟩:=zaa LL
 clear LL
 generalize ((w.alloc (.cells #[.int .i64 z,.slice ab nb cb,.slice ac nc cc,.slice ad nd cd,.slice ae ne ce] 37)).alloc (.cells #[.int .u32 0,.int .i32 0,.int .u32 0,.map none] 110))=wa at *
 refine (zaa HN _ hA).mono ?_
 rintro e w1 ⟨rfl,hB⟩
 have hA1:=zad hA hB
 replace l1:=l1.all hB
 replace l2:=l2.all hB
 clear hA hB HN
 cases hb:okN n t with
 | false=>
  go_wp2_with fail
  go_ret
  exact⟨by rw [hb];rfl,hA1⟩
 | true=>
  obtain⟨x0,x1,x2,x3,x4⟩:=l1.five
  go_wp2_with fail
  refine (zia w1.heap.size (w.heap.size+1) w1 _ t.name (.inl l2) (Nat.le_refl _) (fun w' f=>(zaa HB).keep (hA1.trans (f.below hA1.size (fun q hq=>by simp at hq;omega))))).mono ?_
  rintro e w2 ⟨rfl,_,f⟩
  have hA2:=hA1.trans (f.below hA1.size (fun q hq=>by simp at hq;omega))
  have hv:=zaa HV
  generalize decide (Void t.name)=vd at *
  clear f l1 l2 x0 x1 x2 x3 x4
  go_wp2_with fail
  go_ret
  exact⟨by rw [hb,hv];rfl,hA2⟩
set_option maxHeartbeats 3200000 in
theorem znj (n:Nat) (w:World) (id:Int) (a b c d e:Value) (t:Tr (n+1)) (h:RdNode (n+1) w [a,b,c,d,e] t) (hsz:szT (n+1) t≤2097152) :
  Calls Tryz.prog 47 #[.int .i64 id,.agg #[a,b,c,d,e]] w fun e w'=>e=.returned (.bool (zfM n id t))∧Below w.heap.size w w':=by
 obtain⟨z,ab,nb,cb,ac,nc,cc,ad,nd,cd,ae,ne,ce,rfl,rfl,rfl,rfl,rfl⟩:=rd5 h
 have HN:=hide (fun W (hW:Below w.heap.size w W)=>znM n W _ _ _ _ _ t (h.keep hW) hsz)
 clear h
 unfold zfM
 generalize zhK n t=rb at *
 have hA:=(Below.refl w.heap.size w).alloc (Nat.le_refl _) (.cells #[.int .i64 z,.slice ab nb cb,.slice ac nc cc,.slice ad nd cd,.slice ae ne ce] 37)
 by_cases h1:0≤id
 ·by_cases h2:id<8
  ·have d1:decide (0≤id)=true:=by simpa using h1
   have d2:decide (id<8)=true:=by simpa using h2
   rw [d1,d2]
   go_enter Tryz.func47,Tryz.ntmps47
   go_wp2_with fail
   refine (zaa HN _ hA).mono ?_
   rintro e w1 ⟨rfl,hB⟩
   have hA1:=zad hA hB
   go_wp2_with fail
   go_ret
   exact⟨rfl,hA1⟩
  ·have d1:decide (0≤id)=true:=by simpa using h1
   have d2:decide (id<8)=false:=by simpa using h2
   rw [d1,d2]
   go_enter Tryz.func47,Tryz.ntmps47
   go_wp2_with fail
   go_ret
   exact⟨rfl,hA⟩
 ·have d1:decide (0≤id)=false:=by simpa using h1
  rw [d1]
  go_enter Tryz.func47,Tryz.ntmps47
  go_wp2_with fail
  go_ret
  exact⟨rfl,hA⟩
set_option maxHeartbeats 6400000 in
theorem zpB (n:Nat) (w:World) (a b c d e vo vu:Value) (r:RepV n) (h:RdRep n w a b c d e vo vu r) :
  Calls Tryz.prog 49 #[zaO r a b c d e vo vu] w fun e w'=>e=.returned (.bool (zcm r.ops r.clock))∧Below w.heap.size w w':=by
 obtain⟨z,ab,nb,cb,ac,nc,cc,ad,nd,cd,ae,ne,ce,rfl,rfl,rfl,rfl,rfl⟩:=rd5 h.1
 obtain⟨_,ho,hu⟩:=h
 obtain⟨au,cu,rfl,_,_⟩:=Elems.shape hu
 have hm:=ho.1
 unfold maxLen at hm
 generalize r.und.length=nu at *
 clear hu
 unfold zaO
 have HG:=hide (fun hh=>zfT (l:=r.ops) (c:=r.clock) hh)
 have HN:=hide (fun k hk hh=>zgR (l:=r.ops) (c:=r.clock) (k:=k) hk hh)
 generalize zcm r.ops r.clock=res at *
 generalize r.ops=l at *
 obtain⟨rfl,ao,co,rfl⟩ | ⟨b,off,cap,rfl,hnil,g4,g5⟩:=ho.cases
 ·have HY:=hide (zaa HG (fun k hk=>by simp at hk))
  have hA:=(Below.refl w.heap.size w).alloc (Nat.le_refl _) (.cells (#[.int .i64 r.id,.int .i64 r.clock,.int .i64 z,.slice ab nb cb,.slice ac nc cc,.slice ad nd cd,.slice ae ne ce,.slice ao ([]:List OpV).length co,.slice au nu cu,.bool r.lost]) 41)
  go_enter Tryz.func49,Tryz.ntmps49
  go_wp2_with fail
  refine wp_loop_rounds 1 ?_
  rw [rounds_succ]
  go_wp2_with fail
  go_ret
  exact⟨by rw [zaa HY];rfl,hA⟩
 have hA:=(Below.refl w.heap.size w).alloc (Nat.le_refl _) (.cells (#[.int .i64 r.id,.int .i64 r.clock,.int .i64 z,.slice ab nb cb,.slice ac nc cc,.slice ad nd cd,.slice ae ne ce,.slice (some ⟨b,off,none⟩) l.length cap,.slice au nu cu,.bool r.lost]) 41)
 have l0:=Loc.made w (#[.int .i64 r.id,.int .i64 r.clock,.int .i64 z,.slice ab nb cb,.slice ac nc cc,.slice ad nd cd,.slice ae ne ce,.slice (some ⟨b,off,none⟩) l.length cap,.slice au nu cu,.bool r.lost]) 41
 go_enter Tryz.func49,Tryz.ntmps49
 go_wp2_with fail
 generalize (w.alloc (.cells (#[.int .i64 r.id,.int .i64 r.clock,.int .i64 z,.slice ab nb cb,.slice ac nc cc,.slice ad nd cd,.slice ae ne ce,.slice (some ⟨b,off,none⟩) l.length cap,.slice au nu cu,.bool r.lost]) 41))=wa at *
 go_loopw [4,8] (fun _ i wr=>∃k:Nat,k≤l.length∧i=.int .i64 k∧(∀j (hj:j<l.length),j<k→l[j].atN≤r.clock)∧Below wa.heap.size wa wr) (fun _ i _=>l.length-(intOf i).toNat)
 case atStart=>exact⟨0,Nat.zero_le _,rfl,fun j _ hj=>by omega,Below.refl _ _⟩
 case round=>
  obtain⟨k,hk,rfl,hok,hB⟩:=hrel
  have hAB:=zad hA hB
  by_cases hlt:k<l.length
  ·obtain⟨a1,c1,a2,c2,a3,c3,e0,e1,e2,e3,e4,e5,e6,e7,e8,e9,e10,e11,hr⟩:=zcv hAB g4 (g5 k hlt)
   have t1:wr.cell? ⟨w.heap.size,1,none⟩=some (.int .i64 r.clock):=(l0.all hB).cell 1
   have hlt':(k:Int)<(l.length:Int):=by omega
   have hk0:(0:Int)≤(k:Int):=by omega
   have HJ:=hide (fun (hh:l[k].atN≤r.clock) j (hj:j<l.length) (hjk:j<k+1)=>(show l[j].atN≤r.clock by rcases Nat.lt_succ_iff_lt_or_eq.1 hjk with h1 | rfl;exact hok j hj h1;exact hh))
   have HNK:=hide (fun (hh:r.clock<l[k].atN)=>zaa HN k hlt hh)
   have hBx:=fun (o:Obj)=>(hB.alloc (by exact hB.size) o)
   have HBX:=hide (fun (o:Obj)=>zad hA (hB.alloc hB.size o))
   have HBY:=hide (fun (o:Obj)=>hB.alloc hB.size o)
   have hSr:w.heap.size<wr.heap.size:=(l0.all hB).lt
   generalize l[k]=o at *
   generalize o.key.length=nK at *
   generalize o.name.length=nN at *
   generalize o.text.length=nT at *
   clear g5 hr hnil HG HN hok hBx
   by_cases hq:r.clock<o.atN
   ·have HF:=hide (zaa HNK hq)
    clear HNK HJ
    go_wp2_with fail
    go_ret
    exact⟨by rw [zaa HF];rfl,zaa HBX _⟩
   ·have hq':o.atN≤r.clock:=by omega
    have HJ':=hide (zaa HJ hq')
    clear HNK HJ
    go_wp2_with fail
    go_roundw
    case rel=>exact⟨k+1,by omega,by go_num,zaa HJ',zaa HBY _⟩
    case measure=>simp [intOf];omega
  ·have HY:=hide (zaa HG (fun k hk=>hok k hk (by omega)))
   clear g5
   go_wp2_with fail
   go_ret
   exact⟨by rw [zaa HY];rfl,hAB⟩
set_option maxHeartbeats 12800000 in
theorem zqk (n:Nat) (w:World) (a b c d e vo vu:Value) (r:RepV n) (h:RdRep n w a b c d e vo vu r) :
  Calls Tryz.prog 50 #[zaO r a b c d e vo vu] w fun e w'=>e=.returned (.bool (undB r.und r.id r.clock))∧Below w.heap.size w w':=by
 obtain⟨z,ab,nb,cb,ac,nc,cc,ad,nd,cd,ae,ne,ce,rfl,rfl,rfl,rfl,rfl⟩:=rd5 h.1
 obtain⟨_,ho,hu⟩:=h
 obtain⟨ao,co,rfl,_,_⟩:=Elems.shape ho
 have hm:=hu.1
 unfold maxLen at hm
 generalize r.ops.length=no at *
 clear ho
 unfold zaO
 have HLG:=hide (fun hh=>ziy (l:=r.und) (id:=r.id) (clk:=r.clock) hh)
 have HG:=hide (fun hn hh=>zit (l:=r.und) (id:=r.id) (clk:=r.clock) hn hh)
 have HN:=hide (fun k hk hh=>zjS (l:=r.und) (id:=r.id) (clk:=r.clock) (k:=k) hk hh)
 have HE:=hide (fun k hk=>zkF (l:=r.und) (id:=r.id) (clk:=r.clock) (k:=k) hk)
 generalize undB r.und r.id r.clock=res at *
 generalize hul:r.und=l at *
 clear hul
 by_cases hlong:150<l.length
 ·obtain⟨au,cu,rfl,_,_⟩:=Elems.shape hu
  have hd:(150:Int)<(l.length:Int):=by omega
  have HY:=hide (zaa HLG hlong)
  have hA:=(Below.refl w.heap.size w).alloc (Nat.le_refl _) (.cells (#[.int .i64 r.id,.int .i64 r.clock,.int .i64 z,.slice ab nb cb,.slice ac nc cc,.slice ad nd cd,.slice ae ne ce,.slice ao no co,.slice au l.length cu,.bool r.lost]) 41)
  go_enter Tryz.func50,Tryz.ntmps50
  go_wp2_with fail
  go_ret
  exact⟨by rw [zaa HY];rfl,hA⟩
 have hd:¬ (150:Int)<(l.length:Int):=by omega
 obtain⟨rfl,au,cu,rfl⟩ | ⟨b,off,cap,rfl,hnil,g4,g5⟩:=hu.cases
 ·have HY:=hide (zaa HG (by simp) (fun k hk=>by simp at hk))
  have hA:=(Below.refl w.heap.size w).alloc (Nat.le_refl _) (.cells (#[.int .i64 r.id,.int .i64 r.clock,.int .i64 z,.slice ab nb cb,.slice ac nc cc,.slice ad nd cd,.slice ae ne ce,.slice ao no co,.slice au ([]:List (Int×Int)).length cu,.bool r.lost]) 41)
  go_enter Tryz.func50,Tryz.ntmps50
  go_wp2_with fail
  refine wp_loop_rounds 1 ?_
  rw [rounds_succ]
  go_wp2_with fail
  go_ret
  exact⟨by rw [zaa HY];rfl,hA⟩
 have hA:=(Below.refl w.heap.size w).alloc (Nat.le_refl _) (.cells (#[.int .i64 r.id,.int .i64 r.clock,.int .i64 z,.slice ab nb cb,.slice ac nc cc,.slice ad nd cd,.slice ae ne ce,.slice ao no co,.slice (some ⟨b,off,none⟩) l.length cap,.bool r.lost]) 41)
 have l0:=Loc.made w (#[.int .i64 r.id,.int .i64 r.clock,.int .i64 z,.slice ab nb cb,.slice ac nc cc,.slice ad nd cd,.slice ae ne ce,.slice ao no co,.slice (some ⟨b,off,none⟩) l.length cap,.bool r.lost]) 41
 replace HG:=hide (fun hh=>zaa HG (by omega) hh)
 clear HLG
 go_enter Tryz.func50,Tryz.ntmps50
 go_wp2_with fail
 generalize (w.alloc (.cells (#[.int .i64 r.id,.int .i64 r.clock,.int .i64 z,.slice ab nb cb,.slice ac nc cc,.slice ad nd cd,.slice ae ne ce,.slice ao no co,.slice (some ⟨b,off,none⟩) l.length cap,.bool r.lost]) 41))=wa at *
 go_loopw [3,4,12] (fun _ _ i wr=>∃k:Nat,k≤l.length∧i=.int .i64 k∧(∀j,j<k→zce l r.id r.clock j=true)∧Below wa.heap.size wa wr) (fun _ _ i _=>l.length-(intOf i).toNat)
 case atStart=>exact⟨0,Nat.zero_le _,rfl,fun j hj=>by omega,Below.refl _ _⟩
 case round=>
  obtain⟨k,hk,rfl,hok,hB⟩:=hrel
  have hAB:=zad hA hB
  by_cases hlt:k<l.length
  ·obtain⟨c0,c1⟩:=g5 k hlt
   have e0:=(hAB.cell (p:=⟨b,off+k*2,none⟩) g4).trans c0
   have e1:=(hAB.cell (p:=⟨b,off+k*2+1,none⟩) g4).trans c1
   have lr:=l0.all hB
   have hlt':(k:Int)<(l.length:Int):=by omega
   have hk0:(0:Int)≤(k:Int):=by omega
   have HE':=hide (zaa HE k hlt)
   have HJ:=hide (fun (hh:zce l r.id r.clock k=true) j (hj:j<k+1)=>(show zce l r.id r.clock j=true by rcases Nat.lt_succ_iff_lt_or_eq.1 hj with h1 | rfl;exact hok j h1;exact hh))
   have HNK:=hide (fun (hh:zce l r.id r.clock k=false)=>zaa HN k hlt hh)
   have HP:=hide (fun j (ej:k=j+1)=>(show ∃q:Int×Int,l[k-1]'(by omega)=q∧wr.cell? ⟨b,off+j*2,none⟩=some (.int .i64 q.1)∧wr.cell? ⟨b,off+j*2+1,none⟩=some (.int .i64 q.2) by
    obtain⟨p0,p1⟩:=g5 j (by omega)
    exact⟨l[j],by subst ej;rfl,(hAB.cell (p:=⟨b,off+j*2,none⟩) g4).trans p0,(hAB.cell (p:=⟨b,off+j*2+1,none⟩) g4).trans p1⟩))
   have HB0:=hide (show Below wa.heap.size wa (wr.alloc (.cells (#[.int .i64 l[k].1,.int .i64 l[k].2]) 81)) from hB.alloc hB.size _)
   have hSr:w.heap.size<wr.heap.size:=lr.lt
   have g4':b<wr.heap.size:=Nat.lt_of_lt_of_le g4 hAB.size
   generalize zce l r.id r.clock k=okk at *
   generalize hoo:l[k]=o at *
   have t0:wr.cell? ⟨w.heap.size,0,none⟩=some (.int .i64 r.id):=lr.cell 0
   have t1:wr.cell? ⟨w.heap.size,1,none⟩=some (.int .i64 r.clock):=lr.cell 1
   have t8:wr.cell? ⟨w.heap.size,8,none⟩=some (.slice (some ⟨b,off,none⟩) l.length cap):=lr.cell 8
   clear hoo g5 c0 c1 hnil HG HN HE hok
   by_cases hq:o.2=r.id∧1≤o.1∧o.1≤r.clock
   case neg=>
    have HF:=hide (zaa HNK (by
     rw [zaa HE']
     have:(decide (o.2=r.id) && decide (1≤o.1) && decide (o.1≤r.clock))=false:=by
      rw [Bool.and_eq_false_iff,Bool.and_eq_false_iff]
      simp only [decide_eq_false_iff_not]
      omega
     rw [this,Bool.false_and]))
    have hAx:=zad hA (zaa HB0)
    clear HE' HJ HNK HP HB0
    by_cases q1:o.2=r.id
    ·by_cases q2:1≤o.1
     ·have q3:r.clock<o.1:=by omega
      have d1:(o.2 != r.id)=false:=by simpa using q1
      have d2:decide (o.1<1)=false:=by simp;omega
      have q2':¬ o.1<1:=by omega
      clear q1
      go_wp2_with fail
      go_ret
      exact⟨by rw [zaa HF];rfl,hAx⟩
     ·have q2':o.1<1:=by omega
      have d1:(o.2 != r.id)=false:=by simpa using q1
      clear q1
      go_wp2_with fail
      go_ret
      exact⟨by rw [zaa HF];rfl,hAx⟩
    ·have d1:(o.2 != r.id)=true:=by simpa using q1
     go_wp2_with fail
     go_ret
     exact⟨by rw [zaa HF];rfl,hAx⟩
   obtain⟨q1,q2,q3⟩:=hq
   have HE2:okk=(decide (k=0) || zam (l[k-1]'(by omega)).1 (l[k-1]'(by omega)).2 o.1 o.2):=by
    rw [zaa HE',decide_eq_true q1,decide_eq_true q2,decide_eq_true q3];rfl
   have d1:(o.2 != r.id)=false:=by simpa using q1
   have d2:¬ o.1<1:=by omega
   have d3:¬ r.clock<o.1:=by omega
   clear q1
   have lo:=Loc.made wr #[.int .i64 o.1,.int .i64 o.2] 81
   have hAb:=(Below.refl wr.heap.size wr).alloc (Nat.le_refl _) (.cells #[.int .i64 o.1,.int .i64 o.2] 81)
   have HCB:=hide (fun a v (hb:a.block<wr.heap.size) (h:wr.cell? a=some v)=>(hAb.cell hb).trans h)
   have LL:=hide (And.intro lo (zaa HB0))
   clear lo hAb HE' HB0
   go_wp2_with fail
   obtain⟨lo,hBb⟩:=zaa LL
   clear LL
   have t0:=zaa HCB _ _ hSr t0
   have t1:=zaa HCB _ _ hSr t1
   have t8:=zaa HCB _ _ hSr t8
   have y0:(wr.alloc (.cells #[.int .i64 o.1,.int .i64 o.2] 81)).cell? ⟨wr.heap.size,0,none⟩=some (.int .i64 o.1):=lo.cell 0
   have y1:(wr.alloc (.cells #[.int .i64 o.1,.int .i64 o.2] 81)).cell? ⟨wr.heap.size,1,none⟩=some (.int .i64 o.2):=lo.cell 1
   have hSl:wr.heap.size<(wr.alloc (.cells #[.int .i64 o.1,.int .i64 o.2] 81)).heap.size:=lo.lt
   generalize (wr.alloc (.cells #[.int .i64 o.1,.int .i64 o.2] 81))=wb at *
   have hSr':w.heap.size<wb.heap.size:=Nat.lt_trans hSr hSl
   have hNE:Nonempty (Gr wb):=⟨⟨wb,Below.refl _ _⟩⟩
   replace t0:=Gr.cell hSr' t0
   replace t1:=Gr.cell hSr' t1
   replace t8:=Gr.cell hSr' t8
   replace y0:=Gr.cell hSl y0
   replace y1:=Gr.cell hSl y1
   rcases Nat.eq_zero_or_pos k with hz | hpos
   ·have HY:=hide (zaa HJ (by rw [HE2,decide_eq_true hz];rfl))
    have dz3:¬ 0<k:=by omega
    have dz4:decide (0<k)=false:=by simp;omega
    clear HP HE2 HCB HJ HNK hz
    refine zaC (by kernel_rfl) (by kernel_rfl) ?_
    repeat (go_big_quiet_step (fail))
    refine wpQuiet_nil ?_
    rintro _ ⟨p,rfl⟩
    have hB3:=zad hBb p.h
    clear t0 t1 t8 y0 y1
    go_wp2_with fail
    go_roundw
    case rel=>exact⟨k+1,by omega,by go_num,zaa HY,hB3⟩
    case measure=>simp [intOf];omega
   ·obtain⟨j,ej⟩:∃j,k=j+1:=⟨k-1,by omega⟩
    have dz3:0<k:=hpos
    have dz4:decide (0<k)=true:=by simp;omega
    have hj1:(k:Int)-1=(j:Int):=by omega
    have hj0:(0:Int)≤(j:Int):=by omega
    have hjl:(j:Int)<(l.length:Int):=by omega
    obtain⟨q,eq,i1,i2⟩:=zaa HP j ej
    have HE3:okk=zam q.1 q.2 o.1 o.2:=by rw [HE2,eq,decide_eq_false (by omega),Bool.false_or]
    have i1:=zaa HCB _ _ g4' i1
    have i2:=zaa HCB _ _ g4' i2
    replace i1:=Gr.cell (Nat.lt_trans g4' hSl) i1
    replace i2:=Gr.cell (Nat.lt_trans g4' hSl) i2
    have HLL:=hide (fun W=>ziF W q.1 q.2 o.1 o.2)
    clear HE2 HP HCB eq hpos
    generalize zam q.1 q.2 o.1 o.2=lb at *
    subst HE3
    clear ej
    refine zaC (by kernel_rfl) (by kernel_rfl) ?_
    repeat (go_big_quiet_step ((rename_i p;exact zbT (zaa HLL _))))
    refine wpQuiet_nil ?_
    rintro _ ⟨p,rfl⟩
    have hB3:=zad hBb p.h
    clear t0 t1 t8 y0 y1 i1 i2
    cases okk with
    | true=>
     go_wp2_with fail
     go_roundw
     case rel=>exact⟨k+1,by omega,by go_num,zaa HJ rfl,hB3⟩
     case measure=>simp [intOf];omega
    | false=>
     have HF:=hide (zaa HNK rfl)
     clear HNK
     go_wp2_with fail
     go_ret
     exact⟨by rw [zaa HF];rfl,zad hA hB3⟩
  ·have HY:=hide (zaa HG (fun j hj=>hok j (by omega)))
   clear g5
   go_wp2_with fail
   go_ret
   exact⟨by rw [zaa HY];rfl,hAB⟩
set_option maxHeartbeats 6400000 in
theorem zpq (n:Nat) (w:World) (a b c d e vo vu:Value) (r:RepV n) (h:RdRep n w a b c d e vo vu r) (hsz:szT (n+1) r.first≤2097152) :
  Calls Tryz.prog 21 #[zaO r a b c d e vo vu] w fun e w'=>e=.returned (.bool (repB r))∧Below w.heap.size w w':=by
 obtain⟨z,ab,nb,cb,ac,nc,cc,ad,nd,cd,ae,ne,ce,rfl,rfl,rfl,rfl,rfl⟩:=rd5 h.1
 obtain⟨ao,co,rfl,_,_⟩:=Elems.shape h.2.1
 obtain⟨au,cu,rfl,_,_⟩:=Elems.shape h.2.2
 have HS:=hide (fun W (hW:Below w.heap.size w W)=>znj n W r.id _ _ _ _ _ r.first (h.1.keep hW) hsz)
 have HO:=hide (fun W (hW:Below w.heap.size w W)=>zjF W _ r.ops (h.2.1.keep hW))
 have HT:=hide (fun W (hW:Below w.heap.size w W)=>zpB n W _ _ _ _ _ _ _ r (h.keep hW))
 have HU:=hide (fun W (hW:Below w.heap.size w W)=>zqk n W _ _ _ _ _ _ _ r (h.keep hW))
 unfold zaO at HT HU ⊢
 unfold repB
 clear h
 generalize zfM n r.id r.first=sb at *
 generalize opsB r.ops=ob at *
 generalize zcm r.ops r.clock=tb at *
 generalize undB r.und r.id r.clock=ub at *
 generalize r.ops.length=no at *
 generalize r.und.length=nu at *
 have hA:=(Below.refl w.heap.size w).alloc (Nat.le_refl _) (.cells #[.int .i64 r.id,.int .i64 r.clock,.int .i64 z,.slice ab nb cb,.slice ac nc cc,.slice ad nd cd,.slice ae ne ce,.slice ao no co,.slice au nu cu,.bool r.lost] 41)
 have l0:=Loc.made w #[.int .i64 r.id,.int .i64 r.clock,.int .i64 z,.slice ab nb cb,.slice ac nc cc,.slice ad nd cd,.slice ae ne ce,.slice ao no co,.slice au nu cu,.bool r.lost] 41
 go_enter Tryz.func21,Tryz.ntmps21
 go_wp2_with fail
 generalize (w.alloc (.cells #[.int .i64 r.id,.int .i64 r.clock,.int .i64 z,.slice ab nb cb,.slice ac nc cc,.slice ad nd cd,.slice ae ne ce,.slice ao no co,.slice au nu cu,.bool r.lost] 41))=wa at *
 refine (zaa HS _ hA).mono ?_
 rintro e w1 ⟨rfl,hB⟩
 have hA1:=zad hA hB
 replace l0:=l0.all hB
 clear hA hB HS
 obtain⟨x0,x1,x2,x3,x4,x5,x6,x7,x8,x9⟩:=l0.ten
 cases hs:sb with
 | false=>
  go_wp2_with fail
  go_ret
  exact⟨by rw [hs];rfl,hA1⟩
 | true=>
 by_cases q1:0≤r.clock
 case neg=>
  have d1:decide (0≤r.clock)=false:=by simpa using q1
  go_wp2_with fail
  go_ret
  exact⟨by rw [hs,d1];rfl,hA1⟩
 have d1:decide (0≤r.clock)=true:=by simpa using q1
 by_cases q2:r.clock≤1000000
 case neg=>
  have d2:decide (r.clock≤1000000)=false:=by simpa using q2
  go_wp2_with fail
  go_ret
  exact⟨by rw [hs,d1,d2];rfl,hA1⟩
 have d2:decide (r.clock≤1000000)=true:=by simpa using q2
 go_wp2_with fail
 clear x0 x1 x2 x3 x4 x5 x6 x7 x8 x9
 refine (zaa HO _ hA1).mono ?_
 rintro e w2 ⟨rfl,hB⟩
 have hA2:=zad hA1 hB
 replace l0:=l0.all hB
 clear hA1 hB HO
 obtain⟨x0,x1,x2,x3,x4,x5,x6,x7,x8,x9⟩:=l0.ten
 cases ho:ob with
 | false=>
  go_wp2_with fail
  go_ret
  exact⟨by rw [hs,d1,d2,ho];rfl,hA2⟩
 | true=>
 go_wp2_with fail
 clear x0 x1 x2 x3 x4 x5 x6 x7 x8 x9
 refine (zaa HT _ hA2).mono ?_
 rintro e w3 ⟨rfl,hB⟩
 have hA3:=zad hA2 hB
 replace l0:=l0.all hB
 clear hA2 hB HT
 obtain⟨x0,x1,x2,x3,x4,x5,x6,x7,x8,x9⟩:=l0.ten
 cases ht:tb with
 | false=>
  go_wp2_with fail
  go_ret
  exact⟨by rw [hs,d1,d2,ho,ht];rfl,hA3⟩
 | true=>
 go_wp2_with fail
 clear x0 x1 x2 x3 x4 x5 x6 x7 x8 x9
 refine (zaa HU _ hA3).mono ?_
 rintro e w4 ⟨rfl,hB⟩
 have hA4:=zad hA3 hB
 go_wp2_with fail
 go_ret
 exact⟨by rw [hs,d1,d2,ho,ht];rfl,hA4⟩
theorem zqI {n:Nat} {w:World} {a b c d e:Value} {t:Tr n} (h:RdNode n w [a,b,c,d,e] t):∃z ab nb cb ac nc cc ad nd cd ae ne ce,a=.int .i64 z∧b=.slice ab nb cb∧c=.slice ac nc cc∧d=.slice ad nd cd∧e=.slice ae ne ce:=by
 cases n with
 | zero=>exact absurd h (by unfold RdNode;exact id)
 | succ n=>
  obtain⟨_,_,_,_,e0,k1,k2,hb,hc,hd,he⟩:=h
  simp only [List.cons.injEq,and_true]at e0
  obtain⟨rfl,rfl,rfl,rfl,rfl⟩:=e0
  obtain⟨ab,cb,rfl,_,_⟩:=hb.shape
  obtain⟨ac,cc,rfl,_,_⟩:=hc.shape
  obtain⟨ad,cd,rfl,_,_⟩:=Elems.shape hd
  obtain⟨ae,ce,rfl,_,_⟩:=Elems.shape he
  exact⟨_,_,_,_,_,_,_,_,_,_,_,_,_,rfl,rfl,rfl,rfl,rfl⟩
theorem zcL (w:World) (u v:Value) (a:List Int) (hu:Byt w u a) (hv:Byt w v a):Calls Tryz.prog 8 #[u,v] w fun e w'=>e=.returned (.bool true)∧Below w.heap.size w w':=by
 refine (zlR w u v a a hu hv).mono ?_
 rintro e w' ⟨rfl,h⟩
 exact⟨by simp,h⟩
set_option maxHeartbeats 1600000 in
theorem zmI (w:World) (a b c d:Value) (x:List Int×List Int) (ha:Byt w a x.1) (hb:Byt w b x.2) (hc:Byt w c x.1) (hd:Byt w d x.2) :
  Calls Tryz.prog 100 #[.agg #[a,b],.agg #[c,d]] w fun e w'=>e=.returned (.bool true)∧Below w.heap.size w w':=by
 obtain⟨a1,k1,rfl,_,_⟩:=ha.shape
 obtain⟨a2,k2,rfl,_,_⟩:=hb.shape
 obtain⟨a3,k3,rfl,_,_⟩:=hc.shape
 obtain⟨a4,k4,rfl,_,_⟩:=hd.shape
 have hA:Below w.heap.size w ((w.alloc (.cells #[.slice a1 x.1.length k1,.slice a2 x.2.length k2] 144)).alloc (.cells #[.slice a3 x.1.length k3,.slice a4 x.2.length k4] 144)):=((Below.refl _ _).alloc (Nat.le_refl _) _).alloc (by simp) _
 go_enter Tryz.func100,Tryz.ntmps100
 go_wp2_with fail
 refine (zcL _ _ _ x.1 (ha.keep hA) (hc.keep hA)).mono ?_
 rintro e w1 ⟨rfl,hB1⟩
 have hA1:=zad hA hB1
 have e1:=cell_later hB1 (show ((w.alloc (.cells #[.slice a1 x.1.length k1,.slice a2 x.2.length k2] 144)).alloc (.cells #[.slice a3 x.1.length k3,.slice a4 x.2.length k4] 144)).cell? ⟨w.heap.size,1,none⟩=some (.slice a2 x.2.length k2) by simp)
 have e2:=cell_later hB1 (show ((w.alloc (.cells #[.slice a1 x.1.length k1,.slice a2 x.2.length k2] 144)).alloc (.cells #[.slice a3 x.1.length k3,.slice a4 x.2.length k4] 144)).cell? ⟨w.heap.size+1,1,none⟩=some (.slice a4 x.2.length k4) by simp)
 clear hB1 hA
 go_wp2_with fail
 refine (zcL _ _ _ x.2 (hb.keep hA1) (hd.keep hA1)).mono ?_
 rintro e w2 ⟨rfl,hB2⟩
 have hA2:=zad hA1 hB2
 clear hB2 hA1 e1 e2
 go_wp2
 go_ret
 exact⟨rfl,hA2⟩
set_option maxHeartbeats 1600000 in
theorem zlr (w:World) (u v:Value) (l:List (List Int×List Int)) (hu:RdAttrs w u l) (hv:RdAttrs w v l) :
  Calls Tryz.prog 64 #[u,v] w fun e w'=>e=.returned (.bool true)∧Below w.heap.size w w':=by
 have hm:=hu.1
 unfold maxLen at hm
 by_cases h0:l=[]
 ·obtain⟨a1,c1,rfl,_⟩:=Elems.shape hu
  obtain⟨a2,c2,rfl,_⟩:=Elems.shape hv
  subst h0
  go_enter Tryz.func64,Tryz.ntmps64
  go_wp2
  refine wp_loop_rounds 1 ?_
  rw [rounds_succ]
  go_wp2
  go_ret
  exact⟨rfl,Below.refl _ _⟩
 obtain⟨_,⟨_,e⟩ | ⟨_,_,_,_,e⟩ | ⟨b,off,cap,rfl,g1,g2,g3,g4,g5⟩⟩:=hu
 ·exact absurd e h0
 ·exact absurd e h0
 obtain⟨_,⟨_,e⟩ | ⟨_,_,_,_,e⟩ | ⟨b',off',cap',rfl,f1,f2,f3,f4,f5⟩⟩:=hv
 ·exact absurd e h0
 ·exact absurd e h0
 go_enter Tryz.func64,Tryz.ntmps64
 go_wp2
 go_loopw [5] (fun i wr=>∃k:Nat,k≤l.length∧i=.int .i64 k∧Below w.heap.size w wr) (fun i _=>l.length-(intOf i).toNat)
 case atStart=>exact⟨0,Nat.zero_le _,rfl,Below.refl _ _⟩
 case round=>
  obtain⟨k,hk,rfl,hB⟩:=hrel
  by_cases hlt:k<l.length
  ·obtain⟨C,hC,hcell,c0,c1,rfl,hc0,hc1⟩:=g5 k hlt
   obtain⟨D,hD,hdell,d0,d1,rfl,hd0,hd1⟩:=f5 k hlt
   have e0:=(hB.cell (p:=⟨b,off+k*2,none⟩) g4).trans (hcell 0 (by omega))
   have e1:=(hB.cell (p:=⟨b,off+k*2+1,none⟩) g4).trans (hcell 1 (by omega))
   have e2:=(hB.cell (p:=⟨b',off' + k*2,none⟩) f4).trans (hdell 0 (by omega))
   have e3:=(hB.cell (p:=⟨b',off' + k*2+1,none⟩) f4).trans (hdell 1 (by omega))
   simp only [List.getElem?_cons_zero,List.getElem?_cons_succ]at e0 e1 e2 e3
   have hk0:(0:Int)≤(k:Int):=by omega
   have hlt':(k:Int)<(l.length:Int):=by omega
   clear hcell hdell g5 f5 hC hD
   go_wp2
   go_region_held3 (fun w'=>w'.cell? ⟨b,off+k*2,none⟩=some c0∧w'.cell? ⟨b,off+k*2+1,none⟩=some c1∧w'.cell? ⟨b',off' + k*2,none⟩=some d0∧w'.cell? ⟨b',off' + k*2+1,none⟩=some d1) (first | exact⟨by assumption,by assumption,by assumption,by assumption⟩ | simp [*])
    ((go_at_call 100;refine (zmI _ c0 c1 d0 d1 l[k] (by exact (hc0.keep hB).keep ((Below.refl _ _).drew)) (by exact (hc1.keep hB).keep ((Below.refl _ _).drew)) (by exact (hd0.keep hB).keep ((Below.refl _ _).drew)) (by exact (hd1.keep hB).keep ((Below.refl _ _).drew))).mono ?_;rintro e w2 ⟨rfl,hB2⟩;have s0:=cell_later hB2 e0;have s1:=cell_later hB2 e1;have s2:=cell_later hB2 e2;have s3:=cell_later hB2 e3))
   have hB3:=hB.trans ((Below.drew (Below.refl wr.heap.size wr)).trans hB2 |>.mono hB.size)
   clear e0 e1 e2 e3 s0 s1 s2 s3 hB2
   go_wp2
   go_roundw
   case rel=>exact⟨k+1,by omega,by go_num,hB3⟩
   case measure=>simp [intOf];omega
  ·clear g5 f5
   go_wp2
   go_ret
   exact⟨rfl,hB⟩
def zdU (n:Nat):Prop:=∀(w:World) (a b c d e a' b' c' d' e':Value) (t:Tr n),RdNode n w [a,b,c,d,e] t→RdNode n w [a',b',c',d',e'] t→
  Calls Tryz.prog 25 #[.agg #[a,b,c,d,e],.agg #[a',b',c',d',e']] w fun e w'=>e=.returned (.bool true)∧Below w.heap.size w w'
set_option maxHeartbeats 3200000 in
theorem zlv (n:Nat) (H:zdU n) (w:World) (u v:Value) (l:List (Tr n)) (hu:RdKids n w u l) (hv:RdKids n w v l) :
  Calls Tryz.prog 65 #[u,v] w fun e w'=>e=.returned (.bool true)∧Below w.heap.size w w':=by
 have hm:=hu.1
 unfold maxLen at hm
 by_cases h0:l=[]
 ·obtain⟨a1,c1,rfl,_⟩:=Elems.shape hu
  obtain⟨a2,c2,rfl,_⟩:=Elems.shape hv
  subst h0
  go_enter Tryz.func65,Tryz.ntmps65
  go_wp2_with fail
  refine wp_loop_rounds 1 ?_
  rw [rounds_succ]
  go_wp2_with fail
  go_ret
  exact⟨rfl,Below.refl _ _⟩
 obtain⟨_,⟨_,e⟩ | ⟨_,_,_,_,e⟩ | ⟨b,off,cap,rfl,g1,g2,g3,g4,g5⟩⟩:=hu
 ·exact absurd e h0
 ·exact absurd e h0
 obtain⟨_,⟨_,e⟩ | ⟨_,_,_,_,e⟩ | ⟨b',off',cap',rfl,f1,f2,f3,f4,f5⟩⟩:=hv
 ·exact absurd e h0
 ·exact absurd e h0
 go_enter Tryz.func65,Tryz.ntmps65
 go_wp2_with fail
 go_loopw [5] (fun i wr=>∃k:Nat,k≤l.length∧i=.int .i64 k∧Below w.heap.size w wr) (fun i _=>l.length-(intOf i).toNat)
 case atStart=>exact⟨0,Nat.zero_le _,rfl,Below.refl _ _⟩
 case round=>
  obtain⟨k,hk,rfl,hB⟩:=hrel
  by_cases hlt:k<l.length
  ·obtain⟨c0,c1,c2,c3,c4,e0,e1,e2,e3,e4,hc⟩:=zeL (g5 k hlt)
   obtain⟨d0,d1,d2,d3,d4,i0,i1,i2,i3,i4,hd⟩:=zeL (f5 k hlt)
   replace e0:=(hB.cell (p:=⟨b,off+k*5,none⟩) g4).trans e0
   replace e1:=(hB.cell (p:=⟨b,off+k*5+1,none⟩) g4).trans e1
   replace e2:=(hB.cell (p:=⟨b,off+k*5+2,none⟩) g4).trans e2
   replace e3:=(hB.cell (p:=⟨b,off+k*5+3,none⟩) g4).trans e3
   replace e4:=(hB.cell (p:=⟨b,off+k*5+4,none⟩) g4).trans e4
   replace i0:=(hB.cell (p:=⟨b',off' + k*5,none⟩) f4).trans i0
   replace i1:=(hB.cell (p:=⟨b',off' + k*5+1,none⟩) f4).trans i1
   replace i2:=(hB.cell (p:=⟨b',off' + k*5+2,none⟩) f4).trans i2
   replace i3:=(hB.cell (p:=⟨b',off' + k*5+3,none⟩) f4).trans i3
   replace i4:=(hB.cell (p:=⟨b',off' + k*5+4,none⟩) f4).trans i4
   have hk0:(0:Int)≤(k:Int):=by omega
   have hlt':(k:Int)<(l.length:Int):=by omega
   clear g5 f5
   go_wp2_with fail
   go_region_held3 (fun w'=>w'.cell? ⟨b,off+k*5,none⟩=some c0∧w'.cell? ⟨b,off+k*5+1,none⟩=some c1∧w'.cell? ⟨b,off+k*5+2,none⟩=some c2∧w'.cell? ⟨b,off+k*5+3,none⟩=some c3∧w'.cell? ⟨b,off+k*5+4,none⟩=some c4∧w'.cell? ⟨b',off' + k*5,none⟩=some d0∧w'.cell? ⟨b',off' + k*5+1,none⟩=some d1∧w'.cell? ⟨b',off' + k*5+2,none⟩=some d2∧w'.cell? ⟨b',off' + k*5+3,none⟩=some d3∧w'.cell? ⟨b',off' + k*5+4,none⟩=some d4) (first | exact⟨by assumption,by assumption,by assumption,by assumption,by assumption,by assumption,by assumption,by assumption,by assumption,by assumption⟩ | simp [*])
    ((go_at_call 25;refine (H _ c0 c1 c2 c3 c4 d0 d1 d2 d3 d4 l[k] (by exact (hc.keep hB).keep ((Below.refl _ _).drew)) (by exact (hd.keep hB).keep ((Below.refl _ _).drew))).mono ?_;rintro e w2 ⟨rfl,hB2⟩;have s0:=cell_later hB2 e0;have s1:=cell_later hB2 e1;have s2:=cell_later hB2 e2;have s3:=cell_later hB2 e3;have s4:=cell_later hB2 e4;have r0:=cell_later hB2 i0;have r1:=cell_later hB2 i1;have r2:=cell_later hB2 i2;have r3:=cell_later hB2 i3;have r4:=cell_later hB2 i4))
   have hB3:=hB.trans ((Below.drew (Below.refl wr.heap.size wr)).trans hB2 |>.mono hB.size)
   clear e0 e1 e2 e3 e4 i0 i1 i2 i3 i4 s0 s1 s2 s3 s4 r0 r1 r2 r3 r4 hB2 hc hd
   go_wp2_with fail
   go_roundw
   case rel=>exact⟨k+1,by omega,by go_num,hB3⟩
   case measure=>simp [intOf];omega
  ·clear g5 f5
   go_wp2_with fail
   go_ret
   exact⟨rfl,hB⟩
set_option maxHeartbeats 3200000 in
theorem zkV (n:Nat) (H:zdU n):zdU (n+1):=by
 intro w a b c d e a' b' c' d' e' t hr hr'
 obtain⟨_,_,_,_,e0,k1,k2,hb,hc,hd,he⟩:=hr
 obtain⟨_,_,_,_,e1,_,_,hb',hc',hd',he'⟩:=hr'
 simp only [List.cons.injEq,and_true]at e0 e1
 obtain⟨rfl,rfl,rfl,rfl,rfl⟩:=e0
 obtain⟨rfl,rfl,rfl,rfl,rfl⟩:=e1
 obtain⟨ab,cb,rfl,_,_⟩:=hb.shape
 obtain⟨ac,cc,rfl,_,_⟩:=hc.shape
 obtain⟨ad,cd,rfl,_,_⟩:=Elems.shape hd
 obtain⟨ae,ce,rfl,_,_⟩:=Elems.shape he
 obtain⟨ab',cb',rfl,_,_⟩:=hb'.shape
 obtain⟨ac',cc',rfl,_,_⟩:=hc'.shape
 obtain⟨ad',cd',rfl,_,_⟩:=Elems.shape hd'
 obtain⟨ae',ce',rfl,_,_⟩:=Elems.shape he'
 generalize hO:(Obj.cells #[.int .i64 t.kind,.slice ab t.name.length cb,.slice ac t.text.length cc,.slice ad t.attrs.length cd,.slice ae t.kids.length ce] 37)=O
 generalize hO':(Obj.cells #[.int .i64 t.kind,.slice ab' t.name.length cb',.slice ac' t.text.length cc',.slice ad' t.attrs.length cd',.slice ae' t.kids.length ce'] 37)=O'
 have hA:Below w.heap.size w ((w.alloc O).alloc O'):=((Below.refl _ _).alloc (Nat.le_refl _) _).alloc (by simp) _
 have p2:((w.alloc O).alloc O').cell? ⟨w.heap.size,2,none⟩=some (.slice ac t.text.length cc):=by rw [←hO,←hO'];simp
 have q2:((w.alloc O).alloc O').cell? ⟨w.heap.size+1,2,none⟩=some (.slice ac' t.text.length cc'):=by rw [←hO,←hO'];simp
 have p3:((w.alloc O).alloc O').cell? ⟨w.heap.size,3,none⟩=some (.slice ad t.attrs.length cd):=by rw [←hO,←hO'];simp
 have q3:((w.alloc O).alloc O').cell? ⟨w.heap.size+1,3,none⟩=some (.slice ad' t.attrs.length cd'):=by rw [←hO,←hO'];simp
 have p4:((w.alloc O).alloc O').cell? ⟨w.heap.size,4,none⟩=some (.slice ae t.kids.length ce):=by rw [←hO,←hO'];simp
 have q4:((w.alloc O).alloc O').cell? ⟨w.heap.size+1,4,none⟩=some (.slice ae' t.kids.length ce'):=by rw [←hO,←hO'];simp
 have P:=hide (And.intro p2 (And.intro q2 (And.intro p3 (And.intro q3 (And.intro p4 q4)))))
 clear p2 q2 p3 q3 p4 q4
 subst hO hO'
 have HA:=hide hA
 clear hA
 have hkk:(t.kind != t.kind)=false:=by simp
 go_enter Tryz.func25,Tryz.ntmps25
 go_wp2_with fail
 refine (zcL _ _ _ t.name (hb.keep (zaa HA)) (hb'.keep (zaa HA))).mono ?_
 rintro e w1 ⟨rfl,hB1⟩
 have hA1:=zad (zaa HA) hB1
 have p2:=cell_later hB1 (zaa P).1
 have q2:=cell_later hB1 (zaa P).2.1
 have p3:=cell_later hB1 (zaa P).2.2.1
 have q3:=cell_later hB1 (zaa P).2.2.2.1
 have p4:=cell_later hB1 (zaa P).2.2.2.2.1
 have q4:=cell_later hB1 (zaa P).2.2.2.2.2
 clear hB1 P HA
 go_wp2_with fail
 refine (zcL _ _ _ t.text (hc.keep hA1) (hc'.keep hA1)).mono ?_
 rintro e w2 ⟨rfl,hB2⟩
 have hA2:=zad hA1 hB2
 replace p3:=cell_later hB2 p3
 replace q3:=cell_later hB2 q3
 replace p4:=cell_later hB2 p4
 replace q4:=cell_later hB2 q4
 clear hB2 hA1 p2 q2
 go_wp2_with fail
 refine (zlr _ _ _ t.attrs (hd.keep hA2) (hd'.keep hA2)).mono ?_
 rintro e w3 ⟨rfl,hB3⟩
 have hA3:=zad hA2 hB3
 replace p4:=cell_later hB3 p4
 replace q4:=cell_later hB3 q4
 clear hB3 hA2 p3 q3
 go_wp2_with fail
 refine (zlv n H _ _ _ t.kids (RdKids.keep he hA3) (RdKids.keep he' hA3)).mono ?_
 rintro e w4 ⟨rfl,hB4⟩
 have hA4:=zad hA3 hB4
 clear hB4 hA3 p4 q4
 go_wp2_with fail
 go_ret
 exact⟨rfl,hA4⟩
theorem zng (n:Nat):zdU n:=by
 induction n with
 | zero=>exact fun _ _ _ _ _ _ _ _ _ _ _ t=>t.elim
 | succ n ih=>exact zkV n ih
def zdI (n:Nat):Prop:=∀(w:World) (a b c d e:Value) (t:Tr n),RdNode n w [a,b,c,d,e] t→szT n t≤2097152→
  Calls Tryz.prog 18 #[.agg #[a,b,c,d,e]] w fun e w'=>∃(kd:Int) (a1:Option Addr) (n1 c1:Nat) (a2:Option Addr) (n2 c2:Nat) (a3:Option Addr) (n3 c3:Nat) (a4:Option Addr) (n4 c4:Nat),
   e=.returned (.agg #[.int .i64 kd,.slice a1 n1 c1,.slice a2 n2 c2,.slice a3 n3 c3,.slice a4 n4 c4])∧∃F,OwNode n w' [.int .i64 kd,.slice a1 n1 c1,.slice a2 n2 c2,.slice a3 n3 c3,.slice a4 n4 c4] t F∧F.Nodup∧Rng F w.heap.size w'.heap.size∧Below w.heap.size w w'
set_option maxHeartbeats 3200000 in
theorem zkX (n:Nat) (H:zdI n) (w:World) (v:Value) (l:List (Tr n)) (h:RdKids n w v l) (hs:szK n l≤2097152) :
  Calls Tryz.prog 44 #[v] w fun e w'=>∃a c,e=.returned (.slice a l.length c)∧∃F,OwKids n w' (.slice a l.length c) l F∧F.Nodup∧Rng F w.heap.size w'.heap.size∧Below w.heap.size w w':=by
 obtain⟨i0,hi,hz0,hz1,hz2⟩:=info_parts Tryz.info37
 have hm:=h.1
 have hlen:l.length≤2097152:=by unfold szK at hs;omega
 by_cases h0:l=[]
 ·obtain⟨a,cap,rfl,_⟩:=Elems.shape h
  subst h0
  go_enter Tryz.func44,Tryz.ntmps44
  go_wp2_with (at_make;refine wpList_make_full _ rfl _ _ 35 rfl w.heap.size 37 i0 _ 5 Tryz.underlying35 hi hz0 hz1 .i64 .i64 _ _ 0 rfl rfl rfl rfl ?c1 ?c2 ?c3 ?_)
  case c1=>rw [hz2];omega
  case c2=>exact Nat.zero_le _
  case c3=>exact Nat.le_refl _
  intro w1 hown hgrow
  have hB1:=Below.ofGrown hgrow
  have hH:=(Half.start (α:=Tr n) (l:=[]) (R:=OwNode n w1) (w.heap.size+1) (zbk hown 0 (Nat.zero_le _))).whole rfl (by omega)
  have HH:=hide hH
  clear hown hgrow hH
  go_wp2_with fail
  refine wp_loop_rounds 1 ?_
  rw [rounds_succ]
  go_wp2_with fail
  go_ret
  obtain⟨F,hF,hnd,hr⟩:=zaa HH
  exact⟨_,_,rfl,F,hF,hnd,hr,hB1⟩
 obtain⟨_,⟨_,e⟩ | ⟨_,_,_,_,e⟩ | ⟨b,off,cap,rfl,g1,g2,g3,g4,g5⟩⟩:=h
 ·exact absurd e h0
 ·exact absurd e h0
 go_enter Tryz.func44,Tryz.ntmps44
 go_wp2_with (at_make;refine wpList_make_full _ rfl _ _ 35 rfl w.heap.size 37 i0 _ 5 Tryz.underlying35 hi hz0 hz1 .i64 .i64 _ _ l.length rfl rfl rfl rfl ?c1 ?c2 ?c3 ?_)
 case c1=>rw [hz2];omega
 case c2=>exact hm
 case c3=>exact Nat.le_refl _
 intro w1 hown hgrow
 have hB1:=Below.ofGrown hgrow
 have hH:=Half.start (α:=Tr n) (l:=l) (R:=OwNode n w1) (w.heap.size+1) (zbk hown 0 (Nat.zero_le _))
 have hlt1:=(hown.lt w.heap.size rfl).2
 clear hown hgrow
 go_wp2_with fail
 go_loopw [4] (fun i wr=>∃k:Nat,k≤l.length∧i=.int .i64 k∧Half wr 37 5 w.heap.size l.length l (OwNode n wr) (w.heap.size+1) k∧Below w.heap.size w wr∧w.heap.size+1≤wr.heap.size) (fun i _=>l.length-(intOf i).toNat)
 case atStart=>exact⟨0,Nat.zero_le _,rfl,hH,hB1,by omega⟩
 case round=>
  obtain⟨k,hk,rfl,hr,hB,hsz⟩:=hrel
  clear hH hB1 hlt1
  by_cases hlt:k<l.length
  ·obtain⟨c0,c1,c2,c3,c4,e0,e1,e2,e3,e4,hc⟩:=zeL (g5 k hlt)
   replace e0:=(hB.cell (p:=⟨b,off+k*5,none⟩) g4).trans e0
   replace e1:=(hB.cell (p:=⟨b,off+k*5+1,none⟩) g4).trans e1
   replace e2:=(hB.cell (p:=⟨b,off+k*5+2,none⟩) g4).trans e2
   replace e3:=(hB.cell (p:=⟨b,off+k*5+3,none⟩) g4).trans e3
   replace e4:=(hB.cell (p:=⟨b,off+k*5+4,none⟩) g4).trans e4
   have hlt':(k:Int)<(l.length:Int):=by omega
   clear g5
   go_wp2_with fail
   refine (H wr _ _ _ _ _ l[k] (hc.keep hB) (by have:=zrB hlt;omega)).mono ?_
   rintro e w2 ⟨kd,a1,n1,k1,a2,n2,k2,a3,n3,k3,a4,n4,k4,rfl,G,hO,hnd,hrg,hB2⟩
   have hrow:∃xs:List Value,w2.ownsRow 0 37 5 (.slice (some ⟨w.heap.size,0,none⟩) l.length l.length) l.length xs:=by
    obtain⟨_,_,xs,_,_,_,h4,_⟩:=hr.laid
    exact⟨xs,zah h4 (Frm.ofBelow hB2 []) (fun _ _=>by simp)⟩
   obtain⟨xs,hx⟩:=hrow
   have hxl:=hx.1
   have hcell:∀j,j<5→∃y,w2.cell? ⟨w.heap.size,k*5+j,none⟩=some y:=fun j hj=>⟨xs[k*5+j]'(by omega),by rw [hx.cellAt (k*5+j) (by omega),List.getElem?_eq_getElem (by omega)]⟩
   obtain⟨y0,q0⟩:=hcell 0 (by omega)
   obtain⟨y1,q1⟩:=hcell 1 (by omega)
   obtain⟨y2,q2⟩:=hcell 2 (by omega)
   obtain⟨y3,q3⟩:=hcell 3 (by omega)
   obtain⟨y4,q4⟩:=hcell 4 (by omega)
   rw [Nat.add_zero]at q0
   have f0:=hx.frozenAt (k*5)
   have f1:=hx.frozenAt (k*5+1)
   have f2:=hx.frozenAt (k*5+2)
   have f3:=hx.frozenAt (k*5+3)
   have f4:=hx.frozenAt (k*5+4)
   obtain⟨W,hW⟩:∃W,W=((((w2.setCell ⟨w.heap.size,k*5,none⟩ (.int .i64 kd)).setCell ⟨w.heap.size,k*5+1,none⟩ (.slice a1 n1 k1)).setCell ⟨w.heap.size,k*5+2,none⟩ (.slice a2 n2 k2)).setCell ⟨w.heap.size,k*5+3,none⟩ (.slice a3 n3 k3)).setCell ⟨w.heap.size,k*5+4,none⟩ (.slice a4 n4 k4):=⟨_,rfl⟩
   have hf:Frm w2 W [w.heap.size]:=by rw [hW];exact ((((zab w2 _ _ _).trans (zab _ _ _ _)).trans (zab _ _ _ _)).trans (zab _ _ _ _)).trans (zab _ _ _ _)
   have hstep:Half W 37 5 w.heap.size l.length l (OwNode n W) (w.heap.size+1) (k+1):=by
    refine hr.step hlt (by omega) hsz hB2 [.int .i64 kd,.slice a1 n1 k1,.slice a2 n2 k2,.slice a3 n3 k3,.slice a4 n4 k4] G rfl ?_ hnd hrg ?_ hf ?_
    ·exact hO.frm hf (fun g hg=>by have:=hrg g hg;simp;omega)
    ·intro C x G' hx' hne
     exact OwNode.frm hx' ((Frm.ofBelow hB2 [w.heap.size]).trans hf) (fun g hg=>by have:=hne g hg;simp;omega)
    ·intro zs hz
     have hzl:=hz.1
     have t1:=(hz.stored (k*5) (.int .i64 kd)).1
     have t2:=(t1.stored (k*5+1) (.slice a1 n1 k1)).1
     have t3:=(t2.stored (k*5+2) (.slice a2 n2 k2)).1
     have t4:=(t3.stored (k*5+3) (.slice a3 n3 k3)).1
     have t5:=(t4.stored (k*5+4) (.slice a4 n4 k4)).1
     rw [hW]
     exact⟨_,t5,zoh zs (k*5) _ _ _ _ _ (by omega)⟩
   have HB0:=hB.trans ((hB2.mono hB.size).trans (hf.below (by have:=hB2.size;have:=hB.size;omega) (fun g hg=>by simp at hg;omega)))
   have hs2:w.heap.size+1≤W.heap.size:=by have:=hf.size;have:=hB2.size;omega
   subst hW
   have HS:=hide hstep
   have HB:=hide HB0
   have HS2:=hide hs2
   clear hstep hf hx hO hr hB2 hB HB0 hs2 e0 e1 e2 e3 e4 hc hrg hnd hcell
   go_wp2_with fail
   go_roundw
   case rel=>exact⟨k+1,by omega,by go_num,zaa HS,zaa HB,zaa HS2⟩
   case measure=>simp [intOf];omega
  ·have e:k=l.length:=by omega
   subst e
   have HW:=hide (hr.whole rfl (by omega))
   clear hr g5
   go_wp2_with fail
   go_ret
   obtain⟨F,hF,hnd,hrg⟩:=zaa HW
   exact⟨_,_,rfl,F,hF,hnd,hrg,hB⟩
theorem zqD (w:World) (A Z Y:Array Value) (TA T:TypeId):Loc (((w.alloc (.cells A TA)).alloc (.cells Z T)).alloc (.cells Y T)) w.heap.size A TA∧Loc (((w.alloc (.cells A TA)).alloc (.cells Z T)).alloc (.cells Y T)) (w.heap.size+1) Z T∧
  Loc (((w.alloc (.cells A TA)).alloc (.cells Z T)).alloc (.cells Y T)) (w.heap.size+1+1) Y T∧Below w.heap.size w (((w.alloc (.cells A TA)).alloc (.cells Z T)).alloc (.cells Y T))∧(((w.alloc (.cells A TA)).alloc (.cells Z T)).alloc (.cells Y T)).heap.size=w.heap.size+3:=by
 have l0:=((Loc.made w A TA).alloc (.cells Z T)).alloc (.cells Y T)
 have l1:=(Loc.made (w.alloc (.cells A TA)) Z T).alloc (.cells Y T)
 have l2:=Loc.made ((w.alloc (.cells A TA)).alloc (.cells Z T)) Y T
 simp only [World.size_alloc]at l1 l2
 exact⟨l0,l1,l2,(((Below.refl _ _).alloc (Nat.le_refl _) _).alloc (by simp) _).alloc (by simp;omega) _,by simp⟩
theorem Loc3.store {w:World} {S:Nat} {A Z Y:Array Value} {TA T:TypeId} (h0:Loc w S A TA) (h1:Loc w (S+1) Z T) (h2:Loc w (S+1+1) Y T) (j:Nat) (v:Value) :
  Loc (w.setCell ⟨S+1+1,j,none⟩ v) S A TA∧Loc (w.setCell ⟨S+1+1,j,none⟩ v) (S+1) Z T∧Loc (w.setCell ⟨S+1+1,j,none⟩ v) (S+1+1) (Y.setIfInBounds j v) T:=
 ⟨h0.other _ _ _ (by omega),h1.other _ _ _ (by omega),h2.set j v⟩
set_option maxHeartbeats 3200000 in
theorem zls (n:Nat) (H:zdI n):zdI (n+1):=by
 intro w a b c d e t hr hs
 obtain⟨_,_,_,_,e0,k1,k2,hb,hc,hd,he⟩:=hr
 simp only [List.cons.injEq,and_true]at e0
 obtain⟨rfl,rfl,rfl,rfl,rfl⟩:=e0
 obtain⟨ab,cb,rfl,_,_⟩:=hb.shape
 obtain⟨ac,cc,rfl,_,_⟩:=hc.shape
 obtain⟨ad,cd,rfl,_,_⟩:=Elems.shape hd
 obtain⟨ae,ce,rfl,_,_⟩:=Elems.shape he
 have hz:t.name.length+t.text.length+szA t.attrs+szK n t.kids≤2097152:=hs
 clear hs
 go_enter Tryz.func18,Tryz.ntmps18
 go_wp2_with fail
 obtain⟨l0,l1,l2,hA,hWs⟩:=zqD w #[.int .i64 t.kind,.slice ab t.name.length cb,.slice ac t.text.length cc,.slice ad t.attrs.length cd,.slice ae t.kids.length ce] #[.int .i64 0,.slice none 0 0,.slice none 0 0,.slice none 0 0,.slice none 0 0] #[.int .i64 t.kind,.slice none 0 0,.slice none 0 0,.slice none 0 0,.slice none 0 0] 26 37
 generalize hW:(((w.alloc (.cells #[.int .i64 t.kind,.slice ab t.name.length cb,.slice ac t.text.length cc,.slice ad t.attrs.length cd,.slice ae t.kids.length ce] 26)).alloc (.cells #[.int .i64 0,.slice none 0 0,.slice none 0 0,.slice none 0 0,.slice none 0 0] 37)).alloc (.cells #[.int .i64 t.kind,.slice none 0 0,.slice none 0 0,.slice none 0 0,.slice none 0 0] 37))=W at *
 have HWs:=hide hWs
 clear hW hWs
 refine (zea W _ t.name (hb.keep hA) (by omega)).mono ?_
 rintro e w1 ⟨v1,rfl,ho1,_,hB1⟩
 obtain⟨a1,c1,hv1,_,_⟩:=ho1.byt.shape
 subst hv1
 have r1:=ho1.rng
 have hA1:=zad hA hB1
 replace l0:=l0.all hB1
 replace l1:=l1.all hB1
 replace l2:=l2.all hB1
 have p:=l0.cell 2
 have q:=l2.cell 1
 have f:=l2.frozen 1
 simp at p q
 have s1:=hB1.size
 have M:=hide (And.intro (Loc3.store l0 l1 l2 1 (.slice a1 t.name.length c1)) (And.intro (ho1.frm (zab w1 (w.heap.size+1+1) 1 (.slice a1 t.name.length c1)) (fun g hg=>by have:=r1 g hg;have:=zaa HWs;simp;omega)) (hA1.setCell (p:=⟨w.heap.size+1+1,1,none⟩) (by simp;omega) (.slice a1 t.name.length c1))))
 clear l0 l1 l2 ho1 hA hA1 hB1
 go_wp2_with fail
 obtain⟨⟨l0,l1,l2⟩,ho1,hA1⟩:=zaa M
 clear M
 refine (zea _ _ t.text (hc.keep hA1) (by omega)).mono ?_
 rintro e w2 ⟨v2,rfl,ho2,_,hB2⟩
 obtain⟨a2,c2,hv2,_,_⟩:=ho2.byt.shape
 subst hv2
 have r2:=ho2.rng
 have hA2:=zad hA1 hB2
 replace l0:=l0.all hB2
 replace l1:=l1.all hB2
 replace l2:=l2.all hB2
 replace ho1:=ho1.keep hB2
 have s2:=hB2.size
 simp only [World.size_setCell]at s2 r2 ho2
 replace p:=l0.cell 3
 replace q:=l2.cell 2
 replace f:=l2.frozen 2
 simp at p q
 have M:=hide (And.intro (Loc3.store l0 l1 l2 2 (.slice a2 t.text.length c2)) (And.intro (And.intro (ho1.frm (zab w2 (w.heap.size+1+1) 2 (.slice a2 t.text.length c2)) (fun g hg=>by have:=r1 g hg;have:=zaa HWs;simp;omega)) (ho2.frm (zab w2 (w.heap.size+1+1) 2 (.slice a2 t.text.length c2)) (fun g hg=>by have:=r2 g hg;have:=zaa HWs;simp;omega))) (hA2.setCell (p:=⟨w.heap.size+1+1,2,none⟩) (by simp;omega) (.slice a2 t.text.length c2))))
 clear l0 l1 l2 ho1 ho2 hA1 hA2 hB2
 go_wp2_with fail
 obtain⟨⟨l0,l1,l2⟩,⟨ho1,ho2⟩,hA2⟩:=zaa M
 clear M
 refine (zlc _ _ t.attrs (hd.keep hA2) (by omega)).mono ?_
 rintro e w3 ⟨a3,c3,rfl,F3,ho3,nd3,r3,hB3⟩
 have hA3:=zad hA2 hB3
 replace l0:=l0.all hB3
 replace l1:=l1.all hB3
 replace l2:=l2.all hB3
 replace ho1:=ho1.keep hB3
 replace ho2:=ho2.keep hB3
 have s3:=hB3.size
 simp only [World.size_setCell]at s3 r3
 replace p:=l0.cell 4
 replace q:=l2.cell 3
 replace f:=l2.frozen 3
 simp at p q
 have M:=hide (And.intro (Loc3.store l0 l1 l2 3 (.slice a3 t.attrs.length c3)) (And.intro (And.intro (ho1.frm (zab w3 (w.heap.size+1+1) 3 (.slice a3 t.attrs.length c3)) (fun g hg=>by have:=r1 g hg;have:=zaa HWs;simp;omega)) (And.intro (ho2.frm (zab w3 (w.heap.size+1+1) 3 (.slice a3 t.attrs.length c3)) (fun g hg=>by have:=r2 g hg;have:=zaa HWs;simp;omega)) (ho3.frm (zab w3 (w.heap.size+1+1) 3 (.slice a3 t.attrs.length c3)) (fun g hg=>by have:=r3 g hg;have:=zaa HWs;simp;omega)))) (hA3.setCell (p:=⟨w.heap.size+1+1,3,none⟩) (by simp;omega) (.slice a3 t.attrs.length c3))))
 clear l0 l1 l2 ho1 ho2 ho3 hA2 hA3 hB3
 go_wp2_with fail
 obtain⟨⟨l0,l1,l2⟩,⟨ho1,ho2,ho3⟩,hA3⟩:=zaa M
 clear M
 refine (zkX n H _ _ t.kids (RdKids.keep he hA3) (by omega)).mono ?_
 rintro e w4 ⟨a4,c4,rfl,F4,ho4,nd4,r4,hB4⟩
 have hA4:=zad hA3 hB4
 replace l0:=l0.all hB4
 replace l1:=l1.all hB4
 replace l2:=l2.all hB4
 replace ho1:=ho1.keep hB4
 replace ho2:=ho2.keep hB4
 replace ho3:=ho3.frm (Frm.ofBelow hB4 []) (fun _ _=>by simp)
 have s4:=hB4.size
 simp only [World.size_setCell]at s4 r4
 have g0:=l1.cell 0
 have g1:=l1.cell 1
 have g2:=l1.cell 2
 have g3:=l1.cell 3
 have g4:=l1.cell 4
 have b0:=l1.frozen 0
 have b1:=l1.frozen 1
 have b2:=l1.frozen 2
 have b3:=l1.frozen 3
 have b4:=l1.frozen 4
 have d0:=l2.cell 0
 have d1:=l2.cell 1
 have d2:=l2.cell 2
 have d3:=l2.cell 3
 have d4:=l2.cell 4
 have i4:=l2.frozen 4
 simp at g0 g1 g2 g3 g4 d0 d1 d2 d3 d4
 have hsz:=zaa HWs
 obtain⟨X,hX⟩:∃X,X=(((((w4.setCell ⟨w.heap.size+1+1,4,none⟩ (.slice a4 t.kids.length c4)).setCell ⟨w.heap.size+1,0,none⟩ (.int .i64 t.kind)).setCell ⟨w.heap.size+1,1,none⟩ (.slice a1 t.name.length c1)).setCell ⟨w.heap.size+1,2,none⟩ (.slice a2 t.text.length c2)).setCell ⟨w.heap.size+1,3,none⟩ (.slice a3 t.attrs.length c3)).setCell ⟨w.heap.size+1,4,none⟩ (.slice a4 t.kids.length c4):=⟨_,rfl⟩
 have hf:Frm w4 X [w.heap.size+1+1,w.heap.size+1]:=by
  rw [hX]
  exact ((((((zab w4 _ _ _).mono (by simp)).trans ((zab _ _ _ _).mono (by simp))).trans ((zab _ _ _ _).mono (by simp))).trans ((zab _ _ _ _).mono (by simp))).trans ((zab _ _ _ _).mono (by simp))).trans ((zab _ _ _ _).mono (by simp))
 have fin:OwNode (n+1) X [.int .i64 t.kind,.slice a1 t.name.length c1,.slice a2 t.text.length c2,.slice a3 t.attrs.length c3,.slice a4 t.kids.length c4] t (FB (.slice a1 t.name.length c1)++FB (.slice a2 t.text.length c2)++F3++F4):=
  ⟨_,_,_,_,F3,F4,rfl,k1,k2,(ho1.frm hf (fun g hg=>by have:=r1 g hg;simp;omega)).mono (Nat.zero_le _),(ho2.frm hf (fun g hg=>by have:=r2 g hg;simp;omega)).mono (Nat.zero_le _),
   ho3.frm hf (fun g hg=>by have:=r3 g hg;simp;omega),OwKids.frm ho4 hf (fun g hg=>by have:=r4 g hg;simp;omega),rfl⟩
 have nd:(FB (.slice a1 t.name.length c1)++FB (.slice a2 t.text.length c2)++F3++F4).Nodup:=
  zbS (zbS (zbS (zaE _) (zaE _) r1 r2) nd3 ((r1.mono (Nat.le_refl _) (by omega)).app (r2.mono (by omega) (Nat.le_refl _))) r3) nd4 (((r1.mono (Nat.le_refl _) (by omega)).app (r2.mono (by omega) (by omega))).app (r3.mono (by omega) (Nat.le_refl _))) r4
 have rg:Rng (FB (.slice a1 t.name.length c1)++FB (.slice a2 t.text.length c2)++F3++F4) w.heap.size X.heap.size:=by
  have:=hf.size
  exact (((r1.mono (by omega) (by omega)).app (r2.mono (by omega) (by omega))).app (r3.mono (by omega) (by omega))).app (r4.mono (by omega) (by omega))
 have bel:=hA4.trans (hf.below hA4.size (fun g hg=>by simp at hg;omega))
 subst hX
 have HP:=hide (And.intro fin (And.intro nd (And.intro rg bel)))
 clear fin nd rg bel hf l0 l1 l2 ho1 ho2 ho3 ho4 hA3 hA4 hB4 r1 r2 r3 r4 nd3 nd4 hsz
 go_wp2_with fail
 obtain⟨fin,nd,rg,bel⟩:=zaa HP
 exact bodyPost_ret (v:=.agg #[.int .i64 t.kind,.slice a1 t.name.length c1,.slice a2 t.text.length c2,.slice a3 t.attrs.length c3,.slice a4 t.kids.length c4]) (by simp [results,Tryz.results18,go_sem,g0,g1,g2,g3,g4]) rfl ⟨t.kind,a1,_,c1,a2,_,c2,a3,_,c3,a4,_,c4,rfl,_,fin,nd,rg,bel⟩
theorem zmr (n:Nat):zdI n:=by
 induction n with
 | zero=>exact fun _ _ _ _ _ _ t=>t.elim
 | succ n ih=>exact zls n ih
theorem zkJ {α:Type} (f g:α→Nat) (H:∀x,f x≤g x):∀l:List α,cntL f l≤l.length+(l.map g).sum
 | []=>by simp [cntL]
 | x::l=>by
  have h1:=zkJ f g H l
  have h2:=H x
  simp only [cntL,List.map_cons,List.length_cons,List.sum_cons]
  omega
theorem zjV:∀l:List (List Int×List Int),cntA l≤szA l
 | []=>by simp [cntA,szA]
 | x::l=>by
  have h1:=zjV l
  unfold szA at h1 ⊢
  simp only [cntA,List.map_cons,List.length_cons,List.sum_cons]
  omega
theorem zlX:∀(n:Nat) (t:Tr n),cntT n t≤szT n t
 | 0,t=>t.elim
 | n+1,t=>by
  have h1:=zjV t.attrs
  have h2:=zkJ (cntT n) (szT n) (zlX n) t.kids
  have h4:szT (n+1) t=t.name.length+t.text.length+szA t.attrs+(t.kids.length+(t.kids.map (szT n)).sum):=rfl
  rw [zfH,h4]
  omega
def zhk (n:Nat) (t:Tr (n+1)):List Int:=if okN n t=true then mkup (n+1) t else []
def zoG:Prop:=∀(n:Nat) (w:World) (a b c d e:Value) (t:Tr (n+1)) (F:List Nat),OwNode (n+1) w [a,b,c,d,e] t F→szT (n+1) t≤2097152→
  Calls Tryz.prog 24 #[.agg #[a,b,c,d,e]] w fun e w'=>∃v,e=.returned v∧Own w' w.heap.size v (zhk n t)∧Below w.heap.size w w'
end Go.Proofs.YtlpnibbdmkeklaaGreatDoor
