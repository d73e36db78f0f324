/- Own texts joined: MarkI, St10, L5pj, RepS, SDc, IDc, HeldA, HeldN, HeldT, MarkZ, MarkOsM, MarkOs, EqOs, HeldOs, MkIs, HdIs, MarkR, EqIs, EqR, ToOs, ToIs, ToR, SzOs, SzIs, SzR. -/
import Derived.Test.YtlpnibbdmkeklaaGreatDoorJa
import Derived.Test.YtlpnibbdmkeklaaGreatDoorJb
import Derived.Test.YtlpnibbdmkeklaaGreatDoorJc
import Derived.Test.YtlpnibbdmkeklaaGreatDoorJd
import Derived.Test.YtlpnibbdmkeklaaGreatDoorJe
import Derived.Test.YtlpnibbdmkeklaaGreatDoorJf
import Derived.Test.YtlpnibbdmkeklaaGreatDoorJg
import Derived.Test.YtlpnibbdmkeklaaGreatDoorJh
import Derived.Test.YtlpnibbdmkeklaaGreatDoorJi
import Derived.Test.YtlpnibbdmkeklaaGreatDoorJj
import Derived.Test.YtlpnibbdmkeklaaGreatDoorJk
import Derived.Test.YtlpnibbdmkeklaaGreatDoorJl
import Derived.Test.YtlpnibbdmkeklaaGreatDoorJm
import Derived.Test.YtlpnibbdmkeklaaGreatDoorChecked
import Derived.Deep.RegionHeld3
namespace Go.Proofs.YtlpnibbdmkeklaaGreatDoor
open Go.RowKit
set_option linter.unusedVariables false
set_option maxRecDepth 100000
set_option maxHeartbeats 3200000 in
theorem zlb:zoG:=by
 intro n w a b c d e t F ho hsz
 have h:=ho.rd
 have hlen:(mkup (n+1) t).length≤100000000:=by have:=zgY (n+1) t;omega
 clear ho
 have hB1:Below w.heap.size w (w.alloc (.cells #[a,b,c,d,e] 37)):=(Below.refl _ _).alloc (Nat.le_refl _) _
 have l1:=Loc.made w #[a,b,c,d,e] 37
 have c1:=zfS n _ a b c d e t (h.keep hB1) hsz
 obtain⟨z,ab,nb,cb,ac,nc,cc,ad,nd,cd,ae,ne,ce,rfl,rfl,rfl,rfl,rfl⟩:=zqI h
 obtain⟨x0,x1,x2,x3,x4⟩:=l1.five
 unfold zhk
 by_cases hk:okN n t=true
 ·rw [hk]at c1
  simp only [hk,if_true]
  clear hk
  go_enter Tryz.func24,Tryz.ntmps24
  go_wp2_with fail
  refine c1.mono ?_
  rintro e w1 ⟨rfl,hb⟩
  have hb':=hB1.trans (hb.mono hB1.size)
  have l2:=l1.all hb
  have hB2:Below w1.heap.size w1 (w1.alloc (.cells (ws0 (.slice none 0 0)) 127)):=(Below.refl _ _).alloc (Nat.le_refl _) _
  have g2:=Loc.made w1 (ws0 (.slice none 0 0)) 127
  have hb2:=zad hb' hB2
  have l3:=l2.all hB2
  obtain⟨y0,y1,y2,y3,y4⟩:=l3.five
  have hwr:Wr w.heap.size (w1.alloc (.cells (ws0 (.slice none 0 0)) 127)) w1.heap.size []:=⟨.slice none 0 0,⟨zbJ,World.ownsRow_nil _ _ _ _⟩,.inl g2⟩
  have HP:=hide (putN_any (n+1) w _ w.heap.size w1.heap.size [] _ _ _ _ _ t h hb2 (Nat.le_refl _) hb'.size hb2.size hwr (by simpa using hlen))
  clear x0 x1 x2 x3 x4 hwr g2 l1 l2 hlen
  unfold ws0 at *
  go_wp2_with fail
  refine (zaa HP).mono ?_
  clear HP
  rintro e w3 ⟨rfl,⟨o,ho3,hs3⟩,F3⟩
  rw [List.nil_append]at ho3
  obtain⟨cs,_,_,c0,_⟩:=hs3.loc
  have hb3:=hb2.trans (FrpW.toBelow F3 hb2.size (Nat.le_refl _) hb'.size)
  obtain⟨a2,c2,hv2,_,_⟩:=ho3.byt.shape
  subst hv2
  go_wp2_with fail
  go_ret
  exact⟨_,rfl,ho3,hb3⟩
 ·have hk':okN n t=false:=by simpa using hk
  rw [hk']at c1
  simp only [hk',Bool.false_eq_true,if_false]
  clear hk hk'
  go_enter Tryz.func24,Tryz.ntmps24
  go_wp2_with fail
  refine c1.mono ?_
  rintro e w1 ⟨rfl,hb⟩
  have hb':=hB1.trans (hb.mono hB1.size)
  go_wp2_with fail
  go_ret
  exact⟨_,rfl,⟨zbJ,World.ownsRow_nil _ _ _ _⟩,hb'⟩
set_option maxHeartbeats 3200000 in
theorem zjl (w:World) (sb:Nat) (a:Option Addr) (c:Nat) (l:List PlV) (F:List Nat) (h:StR w sb a c l F) (hu:(l.map PlV.id).Nodup) (hl:l.length≤100000) (h2:2≤l.length) (hK:∀p∈l,-9223372036854775808≤p.kind∧p.kind≤9223372036854775807) :
  Calls Tryz.prog 41 #[.pointer (some ⟨sb,0,none⟩)] w fun e w'=>∃(kd:Int) (a1:Option Addr) (n1 c1:Nat) (a2:Option Addr) (n2 c2:Nat) (a3:Option Addr) (n3 c3:Nat) (a4:Option Addr) (n4 c4:Nat),e=.returned (.agg #[.int .i64 kd,.slice a1 n1 c1,.slice a2 n2 c2,.slice a3 n3 c3,.slice a4 n4 c4])∧RdNode 20 w' [.int .i64 kd,.slice a1 n1 c1,.slice a2 n2 c2,.slice a3 n3 c3,.slice a4 n4 c4] (prj l 19 0 120).1∧Below w.heap.size w w':=by
 refine zaf ?_
 intro Q HQ
 have lr:=(Loc.made w #[.int .i64 0,.slice none 0 0,.slice none 0 0,.slice none 0 0,.slice none 0 0] 37).alloc (.cells #[.int .i64 120] 3)
 have lb:=Loc.made (w.alloc (.cells #[.int .i64 0,.slice none 0 0,.slice none 0 0,.slice none 0 0,.slice none 0 0] 37)) #[.int .i64 120] 3
 have hA:Below w.heap.size w ((w.alloc (.cells #[.int .i64 0,.slice none 0 0,.slice none 0 0,.slice none 0 0,.slice none 0 0] 37)).alloc (.cells #[.int .i64 120] 3)):=((Below.refl _ _).alloc (Nat.le_refl _) _).alloc (by simp) _
 simp only [World.size_alloc]at lb
 have HC:=hide (zhC 19 w _ sb a c l F 0 120 1 (w.heap.size+1) h hA (by omega) lb hu hl hK (by omega) (by omega) (by omega) (by decide) (by omega))
 have HX:=hide (And.intro lr hA)
 clear lr lb hA h hu hK
 go_enter Tryz.func41,Tryz.ntmps41
 go_wp2_with fail
 refine (zaa HC).mono ?_
 rintro e w2 ⟨kd,a1,n1,c1,a2,n2,c2,a3,n3,c3,a4,n4,c4,rfl,G,hG,-,rG,-,hf⟩
 obtain⟨lr,hA⟩:=zaa HX
 have lr2:=lr.frm hf (by simp)
 have hA2:=hA.trans (hf.below hA.size (fun q hq=>by simp at hq;omega))
 have hrd:=hG.rd hA2
 obtain⟨z0,z1,z2,z3,z4⟩:=lr2.five
 have i0_:=lr2.frozen 0
 have i1_:=lr2.frozen 1
 have i2_:=lr2.frozen 2
 have i3_:=lr2.frozen 3
 have i4_:=lr2.frozen 4
 obtain⟨lX,fX⟩:=zby lr2 (.int .i64 kd) (.slice a1 n1 c1) (.slice a2 n2 c2) (.slice a3 n3 c3) (.slice a4 n4 c4)
 have hGX:=hG.frm fX (fun q hq=>by have:=(rG q hq).1;simp at this ⊢;omega)
 have hAX:=hA2.trans (fX.below hA2.size (fun q hq=>by simp at hq;omega))
 have HE:=hide (zaa HQ _ _ ⟨kd,a1,n1,c1,a2,n2,c2,a3,n3,c3,a4,n4,c4,rfl,hGX.rd hAX,hAX⟩)
 clear lX fX hGX hAX hrd lr2 hA2 hf rG hG lr hA HX HC HQ
 go_wp2_with fail
 exact bodyPost_ret (v:=.agg #[.int .i64 kd,.slice a1 n1 c1,.slice a2 n2 c2,.slice a3 n3 c3,.slice a4 n4 c4]) (by simp [results,Tryz.results41,go_sem,z0,z1,z2,z3,z4]) rfl (zaa HE)
theorem zpj (w:World) (v:Value) (l:List Int) (h:Byt w v l):Calls Tryz.prog 36 #[v] w fun e w'=>e=.returned (.bool (zar l))∧w'=w:=by
 cases hv:zar l with
 | true=>exact zdw w v l h ((zaT l).1 hv)
 | false=>exact zeQ w v l h (fun hh=>by rw [(zaT l).2 hh]at hv;cases hv)
set_option maxHeartbeats 20000000 in
theorem zpI (n:Nat) (w:World) (a b c d e vo vu:Value) (r:RepV n) (h:RdRep n w a b c d e vo vu r) :
  Calls Tryz.prog 16 #[zaO r a b c d e vo vu] w fun e w'=>e=.returned (.bool (repB r))∧Below w.heap.size w w':=by
 obtain⟨z,ab,nb,cb,ac,nc,cc,ad,nd,cd,ae,ne,ce,rfl,rfl,rfl,rfl,rfl⟩:=rd5 h.1
 obtain⟨ao,co,rfl,_,_⟩:=Elems.shape h.2.1
 obtain⟨au,cu,rfl,_,_⟩:=Elems.shape h.2.2
 have HN:=hide (fun W (hW:Below w.heap.size w W)=>zoz n W _ _ _ _ _ r.first (h.1.keep hW))
 have HV:=hide (fun W (hW:Below w.heap.size w W)=>(show Calls Tryz.prog 36 #[.slice ab nb cb] W fun e w'=>e=.returned (.bool (zar r.first.name))∧w'=W from by
  have hnm:Byt w (.slice ab nb cb) r.first.name:=by
   obtain⟨_,_,_,_,e0,_,_,hb,_⟩:=h.1
   simp only [List.cons.injEq,and_true]at e0
   obtain⟨_,rfl,_⟩:=e0
   exact hb
  exact zpj W _ _ (hnm.keep hW)))
 have HO:=hide (fun W (hW:Below w.heap.size w W)=>zpt W _ r.ops (h.2.1.keep hW))
 have hmo:=h.2.1.1
 have hmu:=h.2.2.1
 unfold maxLen at hmo hmu
 have HAT:=hide (fun W (hW:Below w.heap.size w W) j (hj:j<r.ops.length)=>(show ∃b off cap,(Value.slice ao r.ops.length co)=.slice (some ⟨b,off,none⟩) r.ops.length cap∧b<W.heap.size∧W.cell? ⟨b,off+j*12+1,none⟩=some (.int .i64 r.ops[j].atN) by
  rcases h.2.1.cases with ⟨e,_⟩ | ⟨b,off,cap,e,_,g4,g5⟩
  ·rw [e]at hj;simp at hj
  ·obtain⟨_,_,_,_,_,_,_,e1,_⟩:=zcv hW g4 (g5 j hj)
   exact⟨b,off,cap,e,Nat.lt_of_lt_of_le g4 hW.size,e1⟩))
 have HAU:=hide (fun W (hW:Below w.heap.size w W) (hp:0<r.und.length)=>(show ∃b off cap,(Value.slice au r.und.length cu)=.slice (some ⟨b,off,none⟩) r.und.length cap∧b<W.heap.size∧∀j (hj:j<r.und.length),W.cell? ⟨b,off+j*2,none⟩=some (.int .i64 r.und[j].1)∧W.cell? ⟨b,off+j*2+1,none⟩=some (.int .i64 r.und[j].2) by
  rcases h.2.2.cases with ⟨e,_⟩ | ⟨b,off,cap,e,_,g4,g5⟩
  ·rw [e]at hp;simp at hp
  ·exact⟨b,off,cap,e,Nat.lt_of_lt_of_le g4 hW.size,fun j hj=>⟨(hW.cell (p:=⟨b,off+j*2,none⟩) g4).trans (g5 j hj).1,(hW.cell (p:=⟨b,off+j*2+1,none⟩) g4).trans (g5 j hj).2⟩⟩))
 unfold zaO
 have HRB:=hide (show ∀res,res=repB r→(res=(decide (0≤r.id) && decide (r.id<8) && (okN n r.first && !zar r.first.name) && decide (0≤r.clock) && decide (r.clock≤1000000) && opsB r.ops && zcm r.ops r.clock && undB r.und r.id r.clock)) from fun res e=>e)
 obtain⟨res,hres⟩:∃res,res=repB r:=⟨_,rfl⟩
 rw [←hres]
 replace HRB:=hide (zaa HRB res hres)
 clear hres
 have HG1:=hide (fun hh=>zfT (l:=r.ops) (c:=r.clock) hh)
 have HN1:=hide (fun k hk hh=>zgR (l:=r.ops) (c:=r.clock) (k:=k) hk hh)
 have HLG:=hide (fun hh=>ziy (l:=r.und) (id:=r.id) (clk:=r.clock) hh)
 have HG2:=hide (fun hn hh=>zit (l:=r.und) (id:=r.id) (clk:=r.clock) hn hh)
 have HN2:=hide (fun k hk hh=>zjS (l:=r.und) (id:=r.id) (clk:=r.clock) (k:=k) hk hh)
 have HE:=hide (fun k hk=>zkF (l:=r.und) (id:=r.id) (clk:=r.clock) (k:=k) hk)
 generalize okN n r.first=nb' at *
 generalize zar r.first.name=vb at *
 generalize opsB r.ops=ob at *
 generalize zcm r.ops r.clock=tb at *
 generalize undB r.und r.id r.clock=ub at *
 generalize hol:r.ops=l at *
 generalize hul:r.und=m at *
 clear hol hul h
 have hA:=(Below.refl w.heap.size w).alloc (Nat.le_refl _) (.cells #[.int .i64 r.id,.int .i64 r.clock,.int .i64 z,.slice ab nb cb,.slice ac nc cc,.slice ad nd cd,.slice ae ne ce,.slice ao l.length co,.slice au m.length cu,.bool r.lost] 41)
 have l0:=Loc.made w #[.int .i64 r.id,.int .i64 r.clock,.int .i64 z,.slice ab nb cb,.slice ac nc cc,.slice ad nd cd,.slice ae ne ce,.slice ao l.length co,.slice au m.length cu,.bool r.lost] 41
 by_cases q1:0≤r.id
 case neg=>
  have p1:r.id<0:=by omega
  have HF:=hide (show res=false by rw [zaa HRB,decide_eq_false q1];rfl)
  go_enter Tryz.func16,Tryz.ntmps16
  go_wp2_with fail
  go_ret
  exact⟨by rw [zaa HF];rfl,hA⟩
 have p1:¬ r.id<0:=by omega
 by_cases q2:r.id<8
 case neg=>
  have p2:8≤r.id:=by omega
  have HF:=hide (show res=false by rw [zaa HRB,decide_eq_false q2,Bool.and_false];rfl)
  go_enter Tryz.func16,Tryz.ntmps16
  go_wp2_with fail
  go_ret
  exact⟨by rw [zaa HF];rfl,hA⟩
 have p2:¬ 8≤r.id:=by omega
 by_cases q3:0≤r.clock
 case neg=>
  have p3:r.clock<0:=by omega
  have HF:=hide (show res=false by rw [zaa HRB,decide_eq_false q3,Bool.and_false];rfl)
  go_enter Tryz.func16,Tryz.ntmps16
  go_wp2_with fail
  go_ret
  exact⟨by rw [zaa HF];rfl,hA⟩
 have p3:¬ r.clock<0:=by omega
 by_cases q4:r.clock≤1000000
 case neg=>
  have p4:1000000<r.clock:=by omega
  have HF:=hide (show res=false by rw [zaa HRB,decide_eq_false q4,Bool.and_false];rfl)
  go_enter Tryz.func16,Tryz.ntmps16
  go_wp2_with fail
  go_ret
  exact⟨by rw [zaa HF];rfl,hA⟩
 have p4:¬ 1000000<r.clock:=by omega
 rw [decide_eq_true q1,decide_eq_true q2,decide_eq_true q3,decide_eq_true q4,Bool.and_self,Bool.true_and,Bool.and_true,Bool.and_true]at HRB
 go_enter Tryz.func16,Tryz.ntmps16
 go_wp2_with fail
 generalize (w.alloc (.cells #[.int .i64 r.id,.int .i64 r.clock,.int .i64 z,.slice ab nb cb,.slice ac nc cc,.slice ad nd cd,.slice ae ne ce,.slice ao l.length co,.slice au m.length cu,.bool r.lost] 41))=wa at *
 refine (zaa HN _ hA).mono ?_
 rintro e w1 ⟨rfl,hB⟩
 have hA1:=zad hA hB
 replace l0:=l0.all hB
 clear hA hB HN
 obtain⟨x0,x1,x2,x3,x4,x5,x6,x7,x8,x9⟩:=l0.ten
 cases hs:nb' with
 | false=>
  have HF:=hide (show res=false by rw [zaa HRB,hs];rfl)
  go_wp2_with fail
  go_ret
  exact⟨by rw [zaa HF];rfl,hA1⟩
 | true=>
 rw [hs,Bool.true_and]at HRB
 go_wp2_with fail
 refine (zaa HV _ hA1).mono ?_
 rintro e w1 ⟨rfl,rfl⟩
 cases hv:vb with
 | true=>
  have HF:=hide (show res=false by rw [zaa HRB,hv];rfl)
  go_wp2_with fail
  go_ret
  exact⟨by rw [zaa HF];rfl,hA1⟩
 | false=>
 rw [hv,Bool.not_false,Bool.true_and]at HRB
 go_wp2_with fail
 clear x0 x1 x2 x3 x4 x5 x6 x7 x8 x9
 refine (zaa HO _ hA1).mono ?_
 rintro e w2 ⟨rfl,hB⟩
 have hA2:=zad hA1 hB
 replace l0:=l0.all hB
 clear hA1 hB HO
 obtain⟨x0,x1,x2,x3,x4,x5,x6,x7,x8,x9⟩:=l0.ten
 cases ho:ob with
 | false=>
  have HF:=hide (show res=false by rw [zaa HRB,ho];rfl)
  go_wp2_with fail
  go_ret
  exact⟨by rw [zaa HF];rfl,hA2⟩
 | true=>
 rw [ho,Bool.true_and]at HRB
 by_cases hlong:150<m.length
 case pos=>
  have hd:(150:Int)<(m.length:Int):=by omega
  have HF:=hide (show res=false by rw [zaa HRB,zaa HLG hlong,Bool.and_false])
  go_wp2_with fail
  go_ret
  exact⟨by rw [zaa HF];rfl,hA2⟩
 have hd:¬ (150:Int)<(m.length:Int):=by omega
 go_wp2_with fail
 clear x0 x1 x2 x3 x4 x5 x6 x7 x8 x9
 have hSl:w.heap.size<w2.heap.size:=l0.lt
 go_loopw [3] (fun i wr=>∃k:Nat,k≤l.length∧i=.int .i64 k∧(∀j (hj:j<l.length),j<k→l[j].atN≤r.clock)∧Below w2.heap.size w2 wr) (fun i _=>l.length-(intOf i).toNat)
 case atStart=>exact⟨0,Nat.zero_le _,rfl,fun j _ hj=>by omega,Below.refl _ _⟩
 case round=>
  obtain⟨k,hk,rfl,hok,hB⟩:=hrel
  have hAB:=zad hA2 hB
  obtain⟨x0,x1,_,_,_,_,_,x7,x8,_⟩:=(l0.all hB).ten
  by_cases hlt:k<l.length
  ·obtain⟨pb,poff,pcap,epv,hpl,e1⟩:=zaa HAT wr hAB k hlt
   cases epv
   have hlt':(k:Int)<(l.length:Int):=by omega
   have hk0:(0:Int)≤(k:Int):=by omega
   have hSr:w.heap.size<wr.heap.size:=Nat.lt_of_lt_of_le hSl hB.size
   have hNE:Nonempty (Gr wr):=⟨⟨wr,Below.refl _ _⟩⟩
   have HJ:=hide (fun (hh:l[k].atN≤r.clock) j (hj:j<l.length) (hjk:j<k+1)=>(show l[j].atN≤r.clock by rcases Nat.lt_succ_iff_lt_or_eq.1 hjk with h1 | rfl;exact hok j hj h1;exact hh))
   have HNK:=hide (fun (hh:r.clock<l[k].atN)=>(show res=false by rw [zaa HRB,zaa HN1 k hlt hh];rfl))
   generalize l[k].atN=oN at *
   clear HAT HAU HG1 HN1 HLG HG2 HN2 HE HRB hok
   go_wp2_with fail
   replace x1:=Gr.cell hSr x1
   replace x7:=Gr.cell hSr x7
   replace e1:=Gr.cell hpl e1
   by_cases hq:r.clock<oN
   ·have HF:=hide (zaa HNK hq)
    clear HNK HJ
    refine zaC (by kernel_rfl) (by kernel_rfl) ?_
    repeat (go_big_quiet_step (fail))
    refine wpQuiet_nil ?_
    rintro _ ⟨p,rfl⟩
    have hB3:=zad hAB p.h
    clear x0 x1 x7 x8 e1
    go_wp2_with fail
    go_ret
    exact⟨by rw [zaa HF];rfl,hB3⟩
   ·have HJ':=hide (zaa HJ (by omega))
    clear HNK HJ
    refine zaC (by kernel_rfl) (by kernel_rfl) ?_
    repeat (go_big_quiet_step (fail))
    refine wpQuiet_nil ?_
    rintro _ ⟨p,rfl⟩
    have hB3:=zad hB p.h
    clear x0 x1 x7 x8 e1
    go_wp2_with fail
    go_roundw
    case rel=>exact⟨k+1,by omega,by go_num,zaa HJ',hB3⟩
    case measure=>simp [intOf];omega
  ·have htb:=zaa HG1 (fun j hj=>hok j hj (by omega))
   rw [htb,Bool.true_and]at HRB
   have e:k=l.length:=by omega
   subst e
   replace l0:=l0.all hB
   clear HAT HG1 HN1 HLG hok htb hSl hA2 hB hlt hk
   go_wp2_with fail
   clear x0 x1 x7 x8
   generalize wr=wq at *
   have hSl:w.heap.size<wq.heap.size:=l0.lt
   go_loopw [4] (fun i wr=>∃k:Nat,k≤m.length∧i=.int .i64 k∧(∀j,j<k→zce m r.id r.clock j=true)∧Below wq.heap.size wq wr) (fun i _=>m.length-(intOf i).toNat)
   case atStart=>exact⟨0,Nat.zero_le _,rfl,fun j hj=>by omega,Below.refl _ _⟩
   case round=>
    obtain⟨k,hk,rfl,hok,hB⟩:=hrel
    have hABv:=zad hAB hB
    obtain⟨x0,x1,_,_,_,_,_,x7,x8,_⟩:=(l0.all hB).ten
    by_cases hlt:k<m.length
    ·obtain⟨pb,poff,pcap,epv,hpl,hel⟩:=zaa HAU wr hABv (by omega)
     cases epv
     obtain⟨e0,e1⟩:=hel k hlt
     have hlt':(k:Int)<(m.length:Int):=by omega
     have hk0:(0:Int)≤(k:Int):=by omega
     have hSr:w.heap.size<wr.heap.size:=Nat.lt_of_lt_of_le hSl hB.size
     have hNE:Nonempty (Gr wr):=⟨⟨wr,Below.refl _ _⟩⟩
     have HE':=hide (zaa HE k hlt)
     have HJ:=hide (fun (hh:zce m r.id r.clock k=true) j (hj:j<k+1)=>(show zce m r.id r.clock j=true by rcases Nat.lt_succ_iff_lt_or_eq.1 hj with h1 | rfl;exact hok j h1;exact hh))
     have HNK:=hide (fun (hh:zce m r.id r.clock k=false)=>(show res=false by rw [zaa HRB,zaa HN2 k hlt hh]))
     have HP:=hide (fun j (ej:k=j+1)=>(show ∃q:Int×Int,m[k-1]'(by omega)=q∧wr.cell? ⟨pb,poff+j*2,none⟩=some (.int .i64 q.1)∧wr.cell? ⟨pb,poff+j*2+1,none⟩=some (.int .i64 q.2) by
      obtain⟨p0,p1⟩:=hel j (by omega)
      exact⟨m[j],by subst ej;rfl,p0,p1⟩))
     generalize zce m r.id r.clock k=okk at *
     generalize hoo:m[k]=o at *
     clear hoo hel HAU HG2 HN2 HE HRB hok
     go_wp2_with fail
     replace x0:=Gr.cell hSr x0
     replace x1:=Gr.cell hSr x1
     replace x8:=Gr.cell hSr x8
     replace e0:=Gr.cell hpl e0
     replace e1:=Gr.cell hpl e1
     by_cases hq:o.2=r.id∧1≤o.1∧o.1≤r.clock
     case neg=>
      have HF:=hide (zaa HNK (by
       rw [zaa HE']
       have:(decide (o.2=r.id) && decide (1≤o.1) && decide (o.1≤r.clock))=false:=by
        rw [Bool.and_eq_false_iff,Bool.and_eq_false_iff]
        simp only [decide_eq_false_iff_not]
        omega
       rw [this,Bool.false_and]))
      clear HE' HJ HNK HP
      by_cases q1:o.2=r.id
      ·by_cases q2:1≤o.1
       ·have q3:r.clock<o.1:=by omega
        have d1:(o.2 != r.id)=false:=by simpa using q1
        have d2:¬ o.1<1:=by omega
        clear q1 hq
        refine zaC (by kernel_rfl) (by kernel_rfl) ?_
        repeat (go_big_quiet_step (fail))
        refine wpQuiet_nil ?_
        rintro _ ⟨p,rfl⟩
        have hB3:=zad hABv p.h
        clear x0 x1 x7 x8 e0 e1
        go_wp2_with fail
        go_ret
        exact⟨by rw [zaa HF];rfl,hB3⟩
       ·have q2':o.1<1:=by omega
        have d1:(o.2 != r.id)=false:=by simpa using q1
        clear q1 hq
        refine zaC (by kernel_rfl) (by kernel_rfl) ?_
        repeat (go_big_quiet_step (fail))
        refine wpQuiet_nil ?_
        rintro _ ⟨p,rfl⟩
        have hB3:=zad hABv p.h
        clear x0 x1 x7 x8 e0 e1
        go_wp2_with fail
        go_ret
        exact⟨by rw [zaa HF];rfl,hB3⟩
      ·have d1:(o.2 != r.id)=true:=by simpa using q1
       clear hq
       refine zaC (by kernel_rfl) (by kernel_rfl) ?_
       repeat (go_big_quiet_step (fail))
       refine wpQuiet_nil ?_
       rintro _ ⟨p,rfl⟩
       have hB3:=zad hABv p.h
       clear x0 x1 x7 x8 e0 e1
       go_wp2_with fail
       go_ret
       exact⟨by rw [zaa HF];rfl,hB3⟩
     obtain⟨q1,q2,q3⟩:=hq
     have HE2:okk=(decide (k=0) || zam (m[k-1]'(by omega)).1 (m[k-1]'(by omega)).2 o.1 o.2):=by
      rw [zaa HE',decide_eq_true q1,decide_eq_true q2,decide_eq_true q3];rfl
     have d1:(o.2 != r.id)=false:=by simpa using q1
     have d2:¬ o.1<1:=by omega
     have d3:¬ r.clock<o.1:=by omega
     clear q1 HE'
     rcases Nat.eq_zero_or_pos k with hz | hpos
     ·have HY:=hide (zaa HJ (by rw [HE2,decide_eq_true hz];rfl))
      have dz3:¬ 0<k:=by omega
      have dz4:decide (0<k)=false:=by simp;omega
      clear HP HE2 HJ HNK hz
      refine zaC (by kernel_rfl) (by kernel_rfl) ?_
      repeat (go_big_quiet_step (fail))
      refine wpQuiet_nil ?_
      rintro _ ⟨p,rfl⟩
      have hB3:=zad hB p.h
      clear x0 x1 x7 x8 e0 e1
      go_wp2_with fail
      go_roundw
      case rel=>exact⟨k+1,by omega,by go_num,zaa HY,hB3⟩
      case measure=>simp [intOf];omega
     ·obtain⟨j,ej⟩:∃j,k=j+1:=⟨k-1,by omega⟩
      have dz3:0<k:=hpos
      have dz4:decide (0<k)=true:=by simp;omega
      have hj1:(k:Int)-1=(j:Int):=by omega
      have hj0:(0:Int)≤(j:Int):=by omega
      have hjl:(j:Int)<(m.length:Int):=by omega
      obtain⟨q,eq,i1,i2⟩:=zaa HP j ej
      have HE3:okk=zam q.1 q.2 o.1 o.2:=by rw [HE2,eq,decide_eq_false (by omega),Bool.false_or]
      replace i1:=Gr.cell hpl i1
      replace i2:=Gr.cell hpl i2
      have HLL:=hide (fun W=>zfE W q.1 q.2 o.1 o.2)
      clear HE2 HP eq hpos
      generalize zam q.1 q.2 o.1 o.2=lb at *
      subst HE3
      clear ej
      refine zaC (by kernel_rfl) (by kernel_rfl) ?_
      repeat (go_big_quiet_step ((rename_i p;exact zbT (zaa HLL _))))
      refine wpQuiet_nil ?_
      rintro _ ⟨p,rfl⟩
      have hB3:=zad hB p.h
      have hB4:=zad hABv p.h
      clear x0 x1 x7 x8 e0 e1 i1 i2
      cases okk with
      | true=>
       go_wp2_with fail
       go_roundw
       case rel=>exact⟨k+1,by omega,by go_num,zaa HJ rfl,hB3⟩
       case measure=>simp [intOf];omega
      | false=>
       have HF:=hide (zaa HNK rfl)
       clear HNK
       go_wp2_with fail
       go_ret
       exact⟨by rw [zaa HF];rfl,hB4⟩
    ·have HY:=hide (show res=true by rw [zaa HRB,zaa HG2 (by omega) (fun j hj=>hok j (by omega))])
     clear HAU
     go_wp2_with fail
     go_ret
     exact⟨by rw [zaa HY];rfl,hABv⟩
theorem zeG {n:Nat} {w:World} {a b c d e:Value} {t:Tr (n+1)} (h:RdNode (n+1) w [a,b,c,d,e] t):∃p1 q1 p2 q2 p3 q3 p4 q4,a=.int .i64 t.kind∧b=.slice p1 t.name.length q1∧c=.slice p2 t.text.length q2∧d=.slice p3 t.attrs.length q3∧e=.slice p4 t.kids.length q4:=by
 obtain⟨_,_,_,_,e0,k1,k2,hb,hc,hd,he⟩:=h
 simp only [List.cons.injEq,and_true]at e0
 obtain⟨rfl,rfl,rfl,rfl,rfl⟩:=e0
 obtain⟨ab,cb,rfl,_,_⟩:=hb.shape
 obtain⟨ac,cc,rfl,_,_⟩:=hc.shape
 obtain⟨ad,cd,rfl,_,_⟩:=Elems.shape hd
 obtain⟨ae,ce,rfl,_,_⟩:=Elems.shape he
 exact⟨_,_,_,_,_,_,_,_,rfl,rfl,rfl,rfl,rfl⟩
set_option maxHeartbeats 6400000 in
theorem zpd (n:Nat) (w:World) (a b c d e vo vu:Value) (r:RepV n) (h:RdRep n w a b c d e vo vu r) (hb:repB r=true) :
  Calls Tryz.prog 17 #[zaO r a b c d e vo vu] w fun e w'=>∃v,e=.returned v∧Own w' w.heap.size v (mkup 20 (docT r.first r.ops))∧Below w.heap.size w w':=by
 refine zaf ?_
 intro Q HQ
 obtain⟨h1,h2,h3⟩:=h
 obtain⟨p1,q1,p2,q2,p3,q3,p4,q4,rfl,rfl,rfl,rfl,rfl⟩:=zeG h1
 obtain⟨p5,q5,rfl,_,_⟩:=Elems.shape h2
 obtain⟨p6,q6,rfl,_,_⟩:=Elems.shape h3
 have hst:=zem hb
 have hlen:=zlH hb
 obtain⟨hn,hv,ho⟩:=zfO hb
 have hkinds:=fun p hp=>(zjL hst p hp).1
 have hFr:=(zhq hst).1
 have hl272:=(zhq hst).2
 have ha4:r.first.attrs.length≤4:=by
  obtain⟨_,ho2⟩:=Bool.and_eq_true_iff.1 (show (decide (r.first.kind=0) && (okT (n+1) 1 r.first 120).1)=true from hn)
  exact (zcq ho2).1
 obtain⟨s1,s2⟩:=zlL hn [⟨0,0,0,0,[],0,r.first.name,[],r.first.attrs⟩,zaM] (fun p hp=>by simp at hp;rcases hp with rfl | rfl;exact ha4;simp [zaM])
 simp only [List.length_cons,List.length_nil]at s1
 have hol:=(zcW ho).1
 generalize hte:r.first=t at *
 generalize hoe:r.ops=ops at *
 generalize hue:r.und.length=nu at *
 have hA:=(Below.refl w.heap.size w).alloc (Nat.le_refl _) (.cells #[.int .i64 r.id,.int .i64 r.clock,.int .i64 t.kind,.slice p1 t.name.length q1,.slice p2 t.text.length q2,.slice p3 t.attrs.length q3,.slice p4 t.kids.length q4,.slice p5 ops.length q5,.slice p6 nu q6,.bool r.lost] 41)
 have l0:=Loc.made w #[.int .i64 r.id,.int .i64 r.clock,.int .i64 t.kind,.slice p1 t.name.length q1,.slice p2 t.text.length q2,.slice p3 t.attrs.length q3,.slice p4 t.kids.length q4,.slice p5 ops.length q5,.slice p6 nu q6,.bool r.lost] 41
 have hb1:Byt w (.slice p1 t.name.length q1) t.name:=by obtain⟨_,_,_,_,e,_,_,h,_⟩:=h1;cases e;exact h
 have hb3:RdAttrs w (.slice p3 t.attrs.length q3) t.attrs:=by obtain⟨_,_,_,_,e,_,_,_,_,h,_⟩:=h1;cases e;exact h
 have hb4:RdKids n w (.slice p4 t.kids.length q4) t.kids:=by obtain⟨_,_,_,_,e,_,_,_,_,_,h⟩:=h1;cases e;exact h
 have HF:=hide (zlx n _ t p1 p2 p3 p4 p5 q1 q2 q3 q4 q5 ops (hb1.keep hA) (hb3.keep hA) (RdKids.keep hb4 hA) (RdOps.keep h2 hA) (by omega) (fun p hp=>by have:=s2 p hp;omega))
 obtain⟨x0,x1,x2,x3,x4,x5,x6,x7,x8,x9⟩:=l0.ten
 have HX:=hide hA
 have HY:=hide (And.intro hst (And.intro hFr (And.intro hkinds hlen)))
 unfold zaO
 try rw [hte,hoe,hue]
 clear hA l0 h1 h2 h3 hb1 hb3 hb4 s1 s2 ha4 hn hv ho hb hst hFr hkinds hlen hol
 unfold docT at HQ
 go_enter Tryz.func17,Tryz.ntmps17
 go_wp2_with fail
 refine (zaa HF).mono ?_
 rintro e w2 ⟨a9,c9,F9,rfl,hpl,hb2⟩
 have hA:=zaa HX
 have hA2:=zad hA hb2
 have lS:=Loc.made w2 #[.slice a9 (zaJ t ops).length c9] 58
 have hA3:Below w2.heap.size w2 (w2.alloc (.cells #[.slice a9 (zaJ t ops).length c9] 58)):=(Below.refl _ _).alloc (Nat.le_refl _) _
 obtain⟨hst,hFr,hkinds,hlen⟩:=zaa HY
 have HP:=hide (zjl _ w2.heap.size a9 c9 (zaJ t ops) F9 ⟨lS,hpl.keep hA3⟩ hFr.uniq (by omega) hFr.two hkinds)
 have HB:=hide (zad hA2 hA3)
 clear hA hA2 hA3 lS hpl hb2 HF HX HY hst hFr hkinds x0 x1 x2 x3 x4 x5 x6 x7 x8 x9
 have HL:=hide hlen
 clear hlen
 go_wp2_with fail
 refine (zaa HP).mono ?_
 rintro e w4 ⟨kd,a1,n1,c1,a2,n2,c2,a3,n3,c3,a4,n4,c4,rfl,hrd,hb4⟩
 have hA4:=zad (zaa HB) hb4
 have HM:=hide (zob 20 w4 w4 w4.heap.size _ [] _ _ _ _ _ _ hrd (Below.refl _ _) (Nat.le_refl _) (Nat.le_refl _) ⟨zbJ,World.ownsRow_nil _ _ _ _⟩ (by have:=zaa HL;unfold docT at this;simp;omega))
 have HA4:=hide hA4
 clear hrd hb4 hA4 HP HB
 generalize (prj (zaJ t ops) 19 0 120).1=tt at *
 go_wp2_with fail
 refine (zaa HM).mono ?_
 rintro e w5 ⟨v5,rfl,ho5,F5⟩
 rw [List.nil_append]at ho5
 obtain⟨a5,c5,hv5,_,_⟩:=ho5.byt.shape
 subst hv5
 have hA4:=zaa HA4
 have HE:=hide (zaa HQ _ w5 ⟨_,rfl,ho5.mono hA4.size,hA4.trans ((F5.toBelow (Nat.le_refl _)).mono hA4.size)⟩)
 clear ho5 F5 hA4 HM
 go_wp2_with fail
 exact zaa HE
set_option maxHeartbeats 3200000 in
theorem zqd (n:Nat) (w:World) (a b c d e vo vu:Value) (r:RepV n) (h:RdRep n w a b c d e vo vu r) :
  Calls Tryz.prog 5 #[zaO r a b c d e vo vu] w fun e w'=>∃v,e=.returned (.tuple #[v,.bool (repB r)])∧Own w' w.heap.size v (docV r)∧Below w.heap.size w w':=by
 refine zaf ?_
 intro Q HQ
 have hrep:=h
 obtain⟨h1,h2,h3⟩:=h
 obtain⟨p1,q1,p2,q2,p3,q3,p4,q4,rfl,rfl,rfl,rfl,rfl⟩:=zeG h1
 obtain⟨p5,q5,rfl,_,_⟩:=Elems.shape h2
 obtain⟨p6,q6,rfl,_,_⟩:=Elems.shape h3
 have hA:=(Below.refl w.heap.size w).alloc (Nat.le_refl _) (.cells #[.int .i64 r.id,.int .i64 r.clock,.int .i64 r.first.kind,.slice p1 r.first.name.length q1,.slice p2 r.first.text.length q2,.slice p3 r.first.attrs.length q3,.slice p4 r.first.kids.length q4,.slice p5 r.ops.length q5,.slice p6 r.und.length q6,.bool r.lost] 41)
 have l0:=Loc.made w #[.int .i64 r.id,.int .i64 r.clock,.int .i64 r.first.kind,.slice p1 r.first.name.length q1,.slice p2 r.first.text.length q2,.slice p3 r.first.attrs.length q3,.slice p4 r.first.kids.length q4,.slice p5 r.ops.length q5,.slice p6 r.und.length q6,.bool r.lost] 41
 have HR:=hide (zpI n _ _ _ _ _ _ _ _ r (hrep.keep hA))
 have HD:=hide (fun (hb:repB r=true) W (hW:Below w.heap.size w W)=>zpd n W _ _ _ _ _ _ _ r (hrep.keep hW) hb)
 have HDV:=hide (show (repB r=true→docV r=mkup 20 (docT r.first r.ops))∧(repB r=false→docV r=[]) from ⟨fun h=>if_pos h,fun h=>if_neg (by rw [h];simp)⟩)
 obtain⟨x0,x1,x2,x3,x4,x5,x6,x7,x8,x9⟩:=l0.ten
 have HX:=hide (And.intro hA l0)
 unfold zaO at *
 clear hA l0 h1 h2 h3 hrep
 generalize mkup 20 (docT r.first r.ops)=dv at *
 generalize docV r=dd at *
 generalize repB r=rb at *
 generalize r.first.kind=zk at *
 generalize r.first.name.length=z1 at *
 generalize r.first.text.length=z2 at *
 generalize r.first.attrs.length=z3 at *
 generalize r.first.kids.length=z4 at *
 generalize r.ops.length=z5 at *
 generalize r.und.length=z6 at *
 generalize r.id=z7 at *
 generalize r.clock=z8 at *
 generalize r.lost=z9 at *
 go_enter Tryz.func5,Tryz.ntmps5
 go_wp2_with fail
 clear x0 x1 x2 x3 x4 x5 x6 x7 x8 x9
 refine (zaa HR).mono ?_
 rintro e w2 ⟨rfl,hb2⟩
 obtain⟨hA,l0⟩:=zaa HX
 have hA2:=zad hA hb2
 have l2:=l0.all hb2
 clear HR HX hA l0 hb2
 cases rb with
 | false=>
  have HE:=hide (zaa HQ (.returned (.tuple #[.slice none 0 0,.bool false])) w2 ⟨_,rfl,by rw [(zaa HDV).2 (by first | rfl | trivial)];exact zft _ _,hA2⟩)
  clear hA2 l2 HQ HD
  go_wp2_with fail
  exact zaa HE
 | true=>
  obtain⟨x0,x1,x2,x3,x4,x5,x6,x7,x8,x9⟩:=l2.ten
  have HB:=hide hA2
  clear hA2 l2
  go_wp2_with fail
  refine (zaa HD (by first | rfl | trivial) w2 (zaa HB)).mono ?_
  rintro e w3 ⟨v,rfl,ho,hb3⟩
  have hA2:=zaa HB
  obtain⟨a5,c5,hv5,_,_⟩:=ho.byt.shape
  subst hv5
  have HE:=hide (zaa HQ (.returned (.tuple #[.slice a5 dv.length c5,.bool true])) w3 ⟨_,rfl,by rw [(zaa HDV).1 (by first | rfl | trivial)];exact ho.mono hA2.size,zad hA2 hb3⟩)
  clear ho hb3 hA2 HD HB x0 x1 x2 x3 x4 x5 x6 x7 x8 x9
  go_wp2_with fail
  exact zaa HE
set_option maxHeartbeats 6400000 in
theorem zpn (n:Nat) (w:World) (a b c d e vo vu:Value) (r:RepV n) (h:RdRep n w a b c d e vo vu r) (hsz:szT (n+1) r.first≤2097152) (hG:Glo w) :
  Calls Tryz.prog 7 #[zaO r a b c d e vo vu] w fun e w'=>∃v,e=.returned (.tuple #[v,.bool (repB r)])∧Own w' w.heap.size v (docV r)∧Below w.heap.size w w':=by
 refine zaf ?_
 intro Q HQ
 have hrep:=h
 obtain⟨h1,h2,h3⟩:=h
 obtain⟨p1,q1,p2,q2,p3,q3,p4,q4,rfl,rfl,rfl,rfl,rfl⟩:=zeG h1
 obtain⟨p5,q5,rfl,_,_⟩:=Elems.shape h2
 obtain⟨p6,q6,rfl,_,_⟩:=Elems.shape h3
 have hA:=(Below.refl w.heap.size w).alloc (Nat.le_refl _) (.cells #[.int .i64 r.id,.int .i64 r.clock,.int .i64 r.first.kind,.slice p1 r.first.name.length q1,.slice p2 r.first.text.length q2,.slice p3 r.first.attrs.length q3,.slice p4 r.first.kids.length q4,.slice p5 r.ops.length q5,.slice p6 r.und.length q6,.bool r.lost] 41)
 have l0:=Loc.made w #[.int .i64 r.id,.int .i64 r.clock,.int .i64 r.first.kind,.slice p1 r.first.name.length q1,.slice p2 r.first.text.length q2,.slice p3 r.first.attrs.length q3,.slice p4 r.first.kids.length q4,.slice p5 r.ops.length q5,.slice p6 r.und.length q6,.bool r.lost] 41
 have HR:=hide (zpq n _ _ _ _ _ _ _ _ r (hrep.keep hA) hsz)
 have HF:=hide (fun (hb:repB r=true) W (hW:Below w.heap.size w W)=>(show Calls Tryz.prog 22 #[.agg #[.int .i64 r.first.kind,.slice p1 r.first.name.length q1,.slice p2 r.first.text.length q2,.slice p3 r.first.attrs.length q3,.slice p4 r.first.kids.length q4],.slice p5 r.ops.length q5] W fun e w'=>FoRM W true (zaJ r.first r.ops) e w' by
  obtain⟨g1,g2,g3⟩:=zfO hb
  have hB:zdn r.first r.ops=true:=by unfold zdn;rw [g1,g2,g3];rfl
  have hR:zdO r.first r.ops=zaJ r.first r.ops:=by unfold zdO;rw [if_pos hB]
  have hc:=zor n W r.first p1 p2 p3 p4 p5 q1 q2 q3 q4 q5 r.ops (h1.keep hW) (RdOps.keep h2 hW) hsz (hG.keep hW)
  rw [hB,hR]at hc
  exact hc))
 have HP:=hide (fun (hb:repB r=true) W a c F (ho:OwPlsM W (.slice a (zaJ r.first r.ops).length c) (zaJ r.first r.ops) F) (hW:Below w.heap.size w W)=>zrr W a c (zaJ r.first r.ops) (OwPlsM.rd ho) (fun p hp=>(zjL (zem hb) p hp).1) (fun p hp=>(zjL (zem hb) p hp).2) (hG.keep hW))
 have HST:=hide (fun (hb:repB r=true)=>zem hb)
 have HMK:=hide (fun (hb:repB r=true)=>(show zhk 19 (docT r.first r.ops)=mkup 20 (docT r.first r.ops) from if_pos (zrO hb)))
 have HSZ:=hide (fun (hb:repB r=true)=>znK hb)
 have HPR:=hide (fun (hb:repB r=true)=>(show pjR (zaJ r.first r.ops)=docT r.first r.ops from zgq (zem hb)))
 have HDV:=hide (show (repB r=true→docV r=mkup 20 (docT r.first r.ops))∧(repB r=false→docV r=[]) from ⟨fun h=>if_pos h,fun h=>if_neg (by rw [h];simp)⟩)
 obtain⟨x0,x1,x2,x3,x4,x5,x6,x7,x8,x9⟩:=l0.ten
 have HX:=hide (And.intro hA l0)
 unfold zaO at *
 clear hA l0 h1 h2 h3 hrep hsz hG
 generalize docT r.first r.ops=tt at *
 generalize zaJ r.first r.ops=fl at *
 generalize docV r=dd at *
 generalize repB r=rb at *
 generalize r.first.kind=zk at *
 generalize r.first.name.length=z1 at *
 generalize r.first.text.length=z2 at *
 generalize r.first.attrs.length=z3 at *
 generalize r.first.kids.length=z4 at *
 generalize r.ops.length=z5 at *
 generalize r.und.length=z6 at *
 generalize r.id=z7 at *
 generalize r.clock=z8 at *
 generalize r.lost=z9 at *
 go_enter Tryz.func7,Tryz.ntmps7
 go_wp2_with fail
 clear x0 x1 x2 x3 x4 x5 x6 x7 x8 x9
 refine (zaa HR).mono ?_
 rintro e w2 ⟨rfl,hb2⟩
 obtain⟨hA,l0⟩:=zaa HX
 have hA2:=zad hA hb2
 have l2:=l0.all hb2
 clear HR HX hA l0 hb2
 cases rb with
 | false=>
  have HE:=hide (zaa HQ (.returned (.tuple #[.slice none 0 0,.bool false])) w2 ⟨_,rfl,by rw [(zaa HDV).2 (by first | rfl | trivial)];exact zft _ _,hA2⟩)
  clear hA2 l2 HQ
  go_wp2_with fail
  exact zaa HE
 | true=>
  obtain⟨x0,x1,x2,x3,x4,x5,x6,x7,x8,x9⟩:=l2.ten
  have HB:=hide hA2
  clear hA2 l2
  go_wp2_with fail
  refine (zaa HF (by first | rfl | trivial) w2 (zaa HB)).mono ?_
  rintro e w3 ⟨a3,c3,F3,rfl,o3,-,-,hb3⟩
  have hA3:=zad (zaa HB) hb3
  have lS:=Loc.made w3 #[.slice a3 fl.length c3] 58
  have hB4:Below w3.heap.size w3 (w3.alloc (.cells #[.slice a3 fl.length c3] 58)):=(Below.refl _ _).alloc (Nat.le_refl _) _
  have hA4:=zad hA3 hB4
  have o4:=OwPlsM.frm o3 (Frm.ofBelow hB4 []) (fun _ _=>by simp)
  have xs:=lS.cell 0
  simp only [List.getElem?_toArray,List.getElem?_cons_zero]at xs
  have HC:=hide (zaa HP (by first | rfl | trivial) _ a3 c3 F3 o4 hA4)
  have HB4:=hide hA4
  clear hA3 lS hB4 hA4 o3 o4 hb3 HF HP HB x0 x1 x2 x3 x4 x5 x6 x7 x8 x9
  go_wp2_with fail
  clear xs
  refine (zaa HC).mono ?_
  rintro e w5 ⟨kd,a1,n1,c1,a2,n2,c2,a3',n3,c3',a4,n4,c4,rfl,G,hGn,ndG,rG,hb5⟩
  rw [zaa HPR (by first | rfl | trivial)]at hGn
  rw [zaa HST (by first | rfl | trivial)]
  have hA5:=zad (zaa HB4) hb5
  have lN:=Loc.made w5 #[.int .i64 kd,.slice a1 n1 c1,.slice a2 n2 c2,.slice a3' n3 c3',.slice a4 n4 c4] 37
  have hB6:Below w5.heap.size w5 (w5.alloc (.cells #[.int .i64 kd,.slice a1 n1 c1,.slice a2 n2 c2,.slice a3' n3 c3',.slice a4 n4 c4] 37)):=(Below.refl _ _).alloc (Nat.le_refl _) _
  have hA6:=zad hA5 hB6
  have o6:=OwNode.keep hGn hB6
  obtain⟨y0,y1,y2,y3,y4⟩:=lN.five
  have HM:=hide (zlb 19 _ _ _ _ _ _ tt G o6 (Nat.le_trans (zaa HSZ (by first | rfl | trivial)) (by omega)))
  have HB6:=hide hA6
  clear hA5 lN hB6 hA6 hGn o6 ndG rG hb5 HC HB4
  go_wp2_with fail
  clear y0 y1 y2 y3 y4
  refine (zaa HM).mono ?_
  rintro e w7 ⟨v,rfl,ho,hb7⟩
  rw [zaa HMK (by first | rfl | trivial),←(zaa HDV).1 (by first | rfl | trivial)]at ho
  have hA7:=zaa HB6
  obtain⟨a5,c5,hv5,_,_⟩:=ho.byt.shape
  subst hv5
  have HE:=hide (zaa HQ (.returned (.tuple #[.slice a5 dd.length c5,.bool true])) w7 ⟨_,rfl,ho.mono hA7.size,zad hA7 hb7⟩)
  clear ho hb7 hA7 HM HB6
  go_wp2_with fail
  exact zaa HE
def zbW (k:Int) (n:Nat):List Int:=(List.range n).map fun i:Nat=>k+(i:Int)
theorem zfy (k:Int) (n:Nat):(zbW k n).length=n:=by simp [zbW]
theorem zkj (k:Int) (n:Nat) (h0:0≤k) (h1:k+(n:Int)≤9223372036854775807):okZ (zbW k n):=fun x hx=>by
 obtain⟨i,hi,rfl⟩:=List.mem_map.1 hx
 have:=List.mem_range.1 hi
 omega
theorem zmH (k:Int) (l:List Int) (j:Nat) (h:j<l.length):(valz (zbW k j++l.drop j)).set j (.int .i64 (k+(j:Int)))=valz (zbW k (j+1)++l.drop (j+1)):=by
 have e:zbW k (j+1)=zbW k j++[k+(j:Int)]:=by simp [zbW,List.range_succ]
 have hl:(valz (zbW k j)).length=j:=by simp [valz,zfy]
 rw [zfd,List.set_append_right _ _ (by omega),hl,Nat.sub_self,e,List.drop_eq_getElem_cons h,zfd,zfd,List.append_assoc]
 rfl
theorem znC (w:World) (a:Option Addr) (cap:Nat) (k:Int) :
  Calls Tryz.prog 70 #[.slice a 0 cap,.int .i64 k] w fun e w'=>e=.returned (.int .i64 k)∧w'=w:=by
 go_enter Tryz.func70,Tryz.ntmps70
 go_wp2
 refine wp_loop_rounds 1 ?_
 rw [rounds_succ]
 go_wp2
 go_ret
 exact⟨rfl,rfl⟩
set_option maxHeartbeats 1600000 in
set_option maxRecDepth 1000000 in
theorem zoq (w:World) (base g cap:Nat) (l:List Int) (k:Int) (hw:w.ownsRow base 3 1 (.slice (some ⟨g,0,none⟩) l.length cap) l.length (valz l)) (hs:l.length≤16777216) (h0:0≤k) (h1:k≤1000000000) :
  Calls Tryz.prog 70 #[.slice (some ⟨g,0,none⟩) l.length cap,.int .i64 k] w fun e w'=>e=.returned (.int .i64 (k+l.length))∧
   w'.ownsRow base 3 1 (.slice (some ⟨g,0,none⟩) l.length cap) l.length (valz (zbW k l.length))∧w.grownBy w' (some g):=by
 generalize hn:l.length=n at *
 have HN:=hide hn
 clear hn
 go_enter Tryz.func70,Tryz.ntmps70
 go_wp2
 go_loopw [1,5] (fun c i wr=>∃j:Nat,j≤n∧i=.int .i64 j∧c=.int .i64 (k+(j:Int))∧wr.ownsRow base 3 1 (.slice (some ⟨g,0,none⟩) n cap) n (valz (zbW k j++l.drop j))∧w.grownBy wr (some g)) (fun _ i _=>n-(intOf i).toNat)
 case atStart=>exact⟨0,Nat.zero_le _,rfl,by simp,by simpa [zbW]using hw,World.grownBy.refl _ _⟩
 case round=>
  obtain⟨j,hj,rfl,rfl,hr,hg⟩:=hrel
  by_cases hlt:j<n
  ·have hlen:=zaa HN
   have hjl:j<l.length:=by omega
   obtain⟨y,hy⟩:∃y,wr.cell? ⟨g,j,none⟩=some (.int .i64 y):=⟨(zbW k j++l.drop j).getD j 0,by rw [hr.cellAt j (by omega),zeM (by simp [zfy];omega)]⟩
   have hfr:=hr.frozenAt j
   have hst:=hr.stored j (.int .i64 (k+(j:Int)))
   rw [zmH k l j hjl]at hst
   have HS:=hide hst
   clear hst hr hlen
   have hlt':(j:Int)<(n:Int):=by omega
   go_wp2
   have R:=zaa HS
   go_roundw
   case rel=>exact⟨j+1,by omega,by go_num,by go_num,R.1,zgx hg R.2⟩
   case measure=>simp [intOf];omega
  ·have e:j=n:=by omega
   subst e
   have hr':wr.ownsRow base 3 1 (.slice (some ⟨g,0,none⟩) j cap) j (valz (zbW k j)):=by
    have:=zaa HN
    rw [List.drop_of_length_le (by omega),List.append_nil]at hr
    exact hr
   clear hr
   go_wp2
   go_ret
   exact⟨rfl,hr',hg⟩
theorem zox (w:World) (base:Nat) (v:Value) (l:List Int) (k:Int) (h:OwnZ w base v l) (hs:l.length≤16777216) (h0:0≤k) (h1:k≤1000000000) :
  Calls Tryz.prog 70 #[v,.int .i64 k] w fun e w'=>e=.returned (.int .i64 (k+l.length))∧OwnZ w' base v (zbW k l.length)∧w.grownBy w' v.ownBlock:=by
 obtain⟨hok,hlen,⟨rfl,hz⟩ | ⟨g,cap,cur,rfl,hr⟩⟩:=h
 ·have e:l=[]:=List.eq_nil_of_length_eq_zero hz
  subst e
  refine (znC w none 0 k).mono ?_
  rintro e w' ⟨rfl,rfl⟩
  exact⟨by simp,⟨zkj _ _ h0 (by first | omega | (simp;omega)),World.ownsRow_nil _ _ _ _⟩,World.grownBy.refl _ _⟩
 ·refine (zoq w base g cap l k ⟨hlen,.inr ⟨g,cap,cur,rfl,hr⟩⟩ hs h0 h1).mono ?_
  rintro e w' ⟨rfl,ho,hg⟩
  refine⟨rfl,⟨zkj _ _ h0 (by first | omega | (simp;omega)),?_⟩,hg⟩
  rw [zfy]
  exact ho
def mkO (o:OpV) (k:Int):OpV where
 kind:=k
 atN:=k+1
 atR:=k+1+1
 nodeN:=k+1+1+1
 nodeR:=k+1+1+1+1
 parN:=k+1+1+1+1+1
 parR:=k+1+1+1+1+1+1
 key:=zbW (k+1+1+1+1+1+1+1) o.key.length
 elem:=k+1+1+1+1+1+1+1+(o.key.length:Int)
 name:=zaV (k+1+1+1+1+1+1+1+(o.key.length:Int)+1) o.name.length
 text:=zaV (k+1+1+1+1+1+1+1+(o.key.length:Int)+1+(o.name.length:Int)) o.text.length
 gone:=((k+1+1+1+1+1+1+1+(o.key.length:Int)+1+(o.name.length:Int)+(o.text.length:Int)) % 3 == 0)
def zaL:List OpV→Nat
 | []=>0
 | x::r=>9+szO x+zaL r
def mkOs:List OpV→Int→List OpV
 | [],_=>[]
 | x::r,k=>mkO x k::mkOs r (k+((9+szO x:Nat):Int))
theorem zcf:∀(l:List OpV) (k:Int),(mkOs l k).length=l.length
 | [],_=>rfl
 | x::r,k=>by simp [mkOs,zcf r]
theorem zkM:∀(a b:List OpV) (k:Int),mkOs (a++b) k=mkOs a k++mkOs b (k+(zaL a:Nat))
 | [],b,k=>by simp [mkOs,zaL]
 | x::r,b,k=>by
  simp only [List.cons_append,mkOs,zkM r b,zaL,List.cons.injEq,true_and]
  congr 2
  omega
theorem zfN:∀(a b:List OpV),zaL (a++b)=zaL a+zaL b
 | [],b=>by simp [zaL]
 | x::r,b=>by simp only [List.cons_append,zaL,zfN r b];omega
theorem zmT (l:List OpV) (j:Nat) (h:j<l.length):zaL (l.take (j+1))=zaL (l.take j)+(9+szO l[j]):=by
 rw [List.take_succ_eq_append_getElem h,zfN]
 simp [zaL]
theorem zpZ (l:List OpV) (j:Nat):zaL (l.take j)≤zaL l:=by
 have:=zfN (l.take j) (l.drop j)
 rw [List.take_append_drop]at this
 omega
theorem zqY (l:List OpV) (k:Int) (j:Nat) (h:j<l.length) (h':j<(mkOs l k).length):(mkOs l k)[j]=mkO l[j] (k+(zaL (l.take j):Nat)):=by
 have e:mkOs l k=mkOs (l.take j) k++mkOs (l.drop j) (k+(zaL (l.take j):Nat)):=by rw [←zkM,List.take_append_drop]
 have e2:l.drop j=l[j]::l.drop (j+1):=List.drop_eq_getElem_cons h
 have hl:(mkOs (l.take j) k).length=j:=by rw [zcf];simp;omega
 have:(mkOs l k)[j]? = some (mkO l[j] (k+(zaL (l.take j):Nat))):=by
  rw [e,List.getElem?_append_right (by omega),hl,Nat.sub_self,e2,mkOs]
  rfl
 rw [List.getElem?_eq_getElem h']at this
 exact Option.some.inj this
theorem OwOpC.len {w:World} {C:List Value} {o:OpV} {F:List Nat} (h:OwOpC w C o F):C.length=12:=by
 obtain⟨k,n,t,rfl,_⟩:=h;rfl
theorem zrQ {a b c:List Nat} (h:(a++b++c).Nodup):(∀g∈a,g∉b∧g∉c)∧(∀g∈b,g∉c):=by
 have h1:=List.nodup_append.1 h
 have h2:=List.nodup_append.1 h1.1
 exact⟨fun g ha=>⟨fun hb=>h2.2.2 g ha g hb rfl,fun hc=>h1.2.2 g (List.mem_append_left _ ha) g hc rfl⟩,fun g hb hc=>h1.2.2 g (List.mem_append_right _ hb) g hc rfl⟩
set_option maxHeartbeats 20000000 in
theorem znr (w:World) (v:Value) (l:List OpV) (F:List Nat) (k:Int) (h:OwOps w v l F) (hF:F.Nodup) (hs:zaL l≤16777216) (h0:0≤k) (h1:k≤900000000) :
  Calls Tryz.prog 29 #[v,.int .i64 k] w fun e w'=>e=.returned (.int .i64 (k+(zaL l:Nat)))∧OwOps w' v (mkOs l k) F∧Frm w w' F:=by
 have hml:=OwElems.len h
 unfold maxLen at hml
 obtain⟨Cs,Fs,hCl,hFl,hR,hrow,rfl⟩:=h
 have hFv:=zcX hF
 have hFn:=(List.nodup_append.1 hF).2.1
 by_cases hl0:l=[]
 ·subst hl0
  obtain⟨a,cap,rfl⟩:=zbx hrow
  have HW:=hide (show OwOps w (.slice a ([]:List OpV).length cap) (mkOs [] k) _ from ⟨Cs,Fs,hCl,hFl,hR,hrow,rfl⟩)
  clear hrow hR
  go_enter Tryz.func29,Tryz.ntmps29
  go_wp2_with fail
  refine wp_loop_rounds 1 ?_
  rw [rounds_succ]
  go_wp2_with fail
  go_ret
  exact⟨by simp [zaL],zaa HW,Frm.refl _ _⟩
 have hv:∃g cap,v=.slice (some ⟨g,0,none⟩) l.length cap:=by
  rcases hrow.2 with ⟨_,h⟩ | ⟨g,cap,cur,rfl,_⟩
  ·exact absurd (List.eq_nil_of_length_eq_zero h) hl0
  ·exact⟨g,cap,rfl⟩
 obtain⟨g,cap,rfl⟩:=hv
 have hgF:∀i,g∉Fs.getD i []:=fun i hi=>hFv g (by simp [FB,Value.ownBlock]) (zau hi)
 have hFB:FB (.slice (some ⟨g,0,none⟩) l.length cap)=[g]:=rfl
 rw [hFB]at hF hFv ⊢
 have HR:=hide hR
 have HROW:=hide hrow
 have hm':(l.length:Int)≤9223372036854775807:=by omega
 clear hR hrow hFB
 go_enter Tryz.func29,Tryz.ntmps29
 go_wp2_with fail
 go_loopw [1,5] (fun c i wr=>∃j:Nat,j≤l.length∧i=.int .i64 j∧c=.int .i64 (k+(zaL (l.take j):Nat))∧∃Ds:List (List Value),Ds.length=l.length∧wr.ownsRow 0 83 12 (.slice (some ⟨g,0,none⟩) l.length cap) l.length Ds.flatten∧
   (∀i (hi:i<(mkOs l k).length),i<j→OwOpC wr (Ds.getD i []) (mkOs l k)[i] (Fs.getD i []))∧(∀i (hi:i<l.length),j≤i→OwOpC wr (Ds.getD i []) l[i] (Fs.getD i []))∧Frm w wr ([g]++Fs.flatten)) (fun _ i _=>l.length-(intOf i).toNat)
 case atStart=>exact⟨0,Nat.zero_le _,rfl,by simp [zaL],Cs,hCl,zaa HROW,fun i hi hj=>by omega,fun i hi _=>(zaa HR i hi).2,Frm.refl _ _⟩
 case round=>
  obtain⟨j,hj,rfl,rfl,Ds,hDl,hr,hdone,htodo,hf⟩:=hrel
  have hD:∀i,i<Ds.length→(Ds.getD i []).length=12:=fun i hi=>by
   by_cases hij:i<j
   ·exact (hdone i (by rw [zcf];omega) hij).len
   ·exact (htodo i (by omega) (by omega)).len
  by_cases hjl:j<l.length
  ·obtain⟨kv,nv,tv,hab,hk,hn,ht,hFj⟩:=htodo j hjl (Nat.le_refl _)
   have hct:=zmT l j hjl
   have hcl:=zpZ l (j+1)
   unfold szO at hct
   have hat:=zqY l k j hjl (by rw [zcf];exact hjl)
   obtain⟨x,hx⟩:∃x,x=l[j]:=⟨_,rfl⟩
   rw [←hx]at hk hn ht hct hat hab
   obtain⟨q,hq⟩:∃q:Int,q=k+(zaL (l.take j):Nat):=⟨_,rfl⟩
   rw [←hq]at hat ⊢
   have hq0:0≤q:=by omega
   have hq1:q≤917000000:=by omega
   obtain⟨pk,ck,rfl,_,_⟩:=hk.ints.shape
   obtain⟨pn,cn,rfl,_,_⟩:=hn.byt.shape
   obtain⟨pt,ct,rfl,_,_⟩:=ht.byt.shape
   have hFjn:=zdf (i:=j) hFn
   rw [hFj]at hFjn
   obtain⟨na,nb'⟩:=zrQ hFjn
   have R0:=RowJ.start hDl hD j hjl hr
   rw [hab]at R0
   have c0:=R0.cell 0 (by omega)
   have f0:=R0.frozen (j*12)
   have c1:=R0.cell 1 (by omega)
   have f1:=R0.frozen (j*12+1)
   have c2:=R0.cell 2 (by omega)
   have f2:=R0.frozen (j*12+2)
   have c3:=R0.cell 3 (by omega)
   have f3:=R0.frozen (j*12+3)
   have c4:=R0.cell 4 (by omega)
   have f4:=R0.frozen (j*12+4)
   have c5:=R0.cell 5 (by omega)
   have f5:=R0.frozen (j*12+5)
   have c6:=R0.cell 6 (by omega)
   have f6:=R0.frozen (j*12+6)
   simp only [List.getElem?_cons_zero,List.getElem?_cons_succ,Nat.add_zero]at c0 c1 c2 c3 c4 c5 c6
   have R1:=(((((((R0.put 0 (by omega) (.int .i64 q)).put 1 (by omega) (.int .i64 (q+1))).put 2 (by omega) (.int .i64 (q+1+1))).put 3 (by omega) (.int .i64 (q+1+1+1))).put 4 (by omega) (.int .i64 (q+1+1+1+1))).put 5 (by omega) (.int .i64 (q+1+1+1+1+1))).put 6 (by omega) (.int .i64 (q+1+1+1+1+1+1)))
   simp only [Nat.add_zero,List.set_cons_zero,List.set_cons_succ]at R1
   have F1:Frm wr (((((((wr.setCell ⟨g,j*12,none⟩ (.int .i64 q)).setCell ⟨g,j*12+1,none⟩ (.int .i64 (q+1))).setCell ⟨g,j*12+2,none⟩ (.int .i64 (q+1+1))).setCell ⟨g,j*12+3,none⟩ (.int .i64 (q+1+1+1))).setCell ⟨g,j*12+4,none⟩ (.int .i64 (q+1+1+1+1))).setCell ⟨g,j*12+5,none⟩ (.int .i64 (q+1+1+1+1+1))).setCell ⟨g,j*12+6,none⟩ (.int .i64 (q+1+1+1+1+1+1))) [g]:=(((((((zab wr g (j*12) (.int .i64 q)).trans (zab _ g (j*12+1) (.int .i64 (q+1)))).trans (zab _ g (j*12+2) (.int .i64 (q+1+1)))).trans (zab _ g (j*12+3) (.int .i64 (q+1+1+1)))).trans (zab _ g (j*12+4) (.int .i64 (q+1+1+1+1)))).trans (zab _ g (j*12+5) (.int .i64 (q+1+1+1+1+1)))).trans (zab _ g (j*12+6) (.int .i64 (q+1+1+1+1+1+1))))
   have c7:=R1.cell 7 (by omega)
   simp only [List.getElem?_cons_zero,List.getElem?_cons_succ]at c7
   have HX:=hide hx
   have HQ:=hide hq
   have HT:=hide hat
   have HCT:=hide hct
   have HFJ:=hide hFj
   have HDN:=hide hdone
   have HTD:=hide htodo
   have hx0:x.key.length≤16777216:=by omega
   have hx1:x.name.length≤16777216:=by omega
   have hx2:x.text.length≤16777216:=by omega
   have hjl':(j:Int)<(l.length:Int):=by omega
   have hgn:g∉Fs.getD j []:=hgF j
   rw [zaa HFJ]at hgn
   simp only [List.mem_append,not_or]at hgn
   obtain⟨⟨hgk,hgnn⟩,hgt⟩:=hgn
   have hk1:=hk.frm F1 (fun p hp hp'=>by simp at hp';subst hp';exact hgk hp)
   have hn1:=hn.frm F1 (fun p hp hp'=>by simp at hp';subst hp';exact hgnn hp)
   have ht1:=ht.frm F1 (fun p hp hp'=>by simp at hp';subst hp';exact hgt hp)
   clear hx hq hat hct hFj hdone htodo hcl hr hab hk hn ht hFjn R0
   go_wp2_with fail
   generalize (((((((wr.setCell ⟨g,j*12,none⟩ (.int .i64 q)).setCell ⟨g,j*12+1,none⟩ (.int .i64 (q+1))).setCell ⟨g,j*12+2,none⟩ (.int .i64 (q+1+1))).setCell ⟨g,j*12+3,none⟩ (.int .i64 (q+1+1+1))).setCell ⟨g,j*12+4,none⟩ (.int .i64 (q+1+1+1+1))).setCell ⟨g,j*12+5,none⟩ (.int .i64 (q+1+1+1+1+1))).setCell ⟨g,j*12+6,none⟩ (.int .i64 (q+1+1+1+1+1+1)))=w1 at *
   clear c0 c1 c2 c3 c4 c5 c6 f0 f1 f2 f3 f4 f5 f6 c7
   refine (zox w1 0 _ x.key (q+1+1+1+1+1+1+1) hk1 hx0 (by omega) (by omega)).mono ?_
   rintro e w2 ⟨rfl,hk2,hg2⟩
   have F2:=Frm.ofGrown hg2
   have R2:=R1.frm F2 hgk
   have hn2:=hn1.frm F2 (fun p hp hp'=>(na p hp').1 hp)
   have ht2:=ht1.frm F2 (fun p hp hp'=>(na p hp').2 hp)
   have c8:=R2.cell 8 (by omega)
   have f8:=R2.frozen (j*12+8)
   have R3:=R2.put 8 (by omega) (.int .i64 (q+1+1+1+1+1+1+1+(x.key.length:Int)))
   have F3:=zab w2 g (j*12+8) (.int .i64 (q+1+1+1+1+1+1+1+(x.key.length:Int)))
   have c9:=R3.cell 9 (by omega)
   simp only [List.set_cons_zero,List.set_cons_succ,List.getElem?_cons_zero,List.getElem?_cons_succ]at c8 c9 R3
   have hk3:=hk2.frm F3 (fun p hp hp'=>by simp at hp';subst hp';exact hgk hp)
   have hn3:=hn2.frm F3 (fun p hp hp'=>by simp at hp';subst hp';exact hgnn hp)
   have ht3:=ht2.frm F3 (fun p hp hp'=>by simp at hp';subst hp';exact hgt hp)
   clear R1 R2 hk1 hn1 ht1 hk2 hn2 ht2 hg2
   go_wp2_with fail
   generalize (w2.setCell ⟨g,j*12+8,none⟩ (.int .i64 (q+1+1+1+1+1+1+1+(x.key.length:Int))))=w3 at *
   clear c8 f8 c9
   refine (zbP w3 0 _ x.name (q+1+1+1+1+1+1+1+(x.key.length:Int)+1) hn3 hx1 (by omega) (by omega)).mono ?_
   rintro e w4 ⟨rfl,hn4,hg4⟩
   have F4:=Frm.ofGrown hg4
   have R4:=R3.frm F4 hgnn
   have hk4:=hk3.frm F4 (fun p hp hp'=>(na p hp).1 hp')
   have ht4:=ht3.frm F4 (fun p hp hp'=>nb' p hp' hp)
   have c10:=R4.cell 10 (by omega)
   simp only [List.getElem?_cons_zero,List.getElem?_cons_succ]at c10
   clear R3 hk3 hn3 ht3 hg4
   go_wp2_with fail
   clear c10
   refine (zbP w4 0 _ x.text (q+1+1+1+1+1+1+1+(x.key.length:Int)+1+(x.name.length:Int)) ht4 hx2 (by omega) (by omega)).mono ?_
   rintro e w5 ⟨rfl,ht5,hg5⟩
   have F5:=Frm.ofGrown hg5
   have R5:=R4.frm F5 hgt
   have hk5:=hk4.frm F5 (fun p hp hp'=>(na p hp).2 hp')
   have hn5:=hn4.frm F5 (fun p hp hp'=>nb' p hp hp')
   have c11:=R5.cell 11 (by omega)
   have f11:=R5.frozen (j*12+11)
   have R6:=R5.put 11 (by omega) (.bool ((q+1+1+1+1+1+1+1+(x.key.length:Int)+1+(x.name.length:Int)+(x.text.length:Int)) % 3 == 0))
   have F6:=zab w5 g (j*12+11) (.bool ((q+1+1+1+1+1+1+1+(x.key.length:Int)+1+(x.name.length:Int)+(x.text.length:Int)) % 3 == 0))
   simp only [List.set_cons_zero,List.set_cons_succ,List.getElem?_cons_zero,List.getElem?_cons_succ]at c11 R6
   have hk6:=hk5.frm F6 (fun p hp hp'=>by simp at hp';subst hp';exact hgk hp)
   have hn6:=hn5.frm F6 (fun p hp hp'=>by simp at hp';subst hp';exact hgnn hp)
   have ht6:=ht5.frm F6 (fun p hp hp'=>by simp at hp';subst hp';exact hgt hp)
   have FJ:Frm wr (w5.setCell ⟨g,j*12+11,none⟩ (.bool ((q+1+1+1+1+1+1+1+(x.key.length:Int)+1+(x.name.length:Int)+(x.text.length:Int)) % 3 == 0))) ([g]++Fs.getD j []):=by
    have m0:∀p,p∈[g]→p∈[g]++Fs.getD j []:=fun p hp=>List.mem_append_left _ hp
    have m1:∀p,p∈(Value.slice pk x.key.length ck).ownBlock.toList→p∈[g]++Fs.getD j []:=fun p hp=>by rw [zaa HFJ];simp [FB,hp]
    have m2:∀p,p∈(Value.slice pn x.name.length cn).ownBlock.toList→p∈[g]++Fs.getD j []:=fun p hp=>by rw [zaa HFJ];simp [FB,hp]
    have m3:∀p,p∈(Value.slice pt x.text.length ct).ownBlock.toList→p∈[g]++Fs.getD j []:=fun p hp=>by rw [zaa HFJ];simp [FB,hp]
    exact (((((F1.mono m0).trans (F2.mono m1)).trans (F3.mono m0)).trans (F4.mono m2)).trans (F5.mono m3)).trans (F6.mono m0)
   clear R4 R5 hk4 hn4 ht4 hk5 hn5 ht5 hg5 F1 F2 F3 F4 F5 F6
   go_wp2_with fail
   go_roundw
   case rel=>
    refine⟨j+1,by omega,by go_num,?_,Ds.set j _,by rw [List.length_set];exact hDl,R6.row,fun i hi hij=> ?_,fun i hi hij=> ?_,hf.trans (FJ.mono (fun p hp=> ?_))⟩
    ·rw [zaa HCT,zaa HQ];go_num
    ·by_cases e:i=j
     ·subst e
      rw [zaa HT,zbD _ _ _ (by omega)]
      exact⟨_,_,_,by simp only [mkO],hk6,hn6,ht6,zaa HFJ⟩
     ·rw [zbt _ _ _ _ e]
      exact (zaa HDN i hi (by omega)).frm FJ (fun p hp hp'=>by
       rcases List.mem_append.1 hp' with h | h
       ·simp at h;subst h;exact hgF i hp
       ·exact zbQ hFn e p hp h)
    ·rw [zbt _ _ _ _ (by omega)]
     exact (zaa HTD i hi (by omega)).frm FJ (fun p hp hp'=>by
      rcases List.mem_append.1 hp' with h | h
      ·simp at h;subst h;exact hgF i hp
      ·exact zbQ hFn (by omega) p hp h)
    ·rcases List.mem_append.1 hp with h | h
     ·exact List.mem_append_left _ h
     ·exact List.mem_append_right _ (zau h)
   case measure=>simp [intOf];omega
  ·have e:j=l.length:=by omega
   subst e
   have HW:=hide (show OwOps wr (.slice (some ⟨g,0,none⟩) l.length cap) (mkOs l k) ([g]++Fs.flatten) from
    ⟨Ds,Fs,by rw [zcf];exact hDl,by rw [zcf];exact hFl,fun i hi=>⟨hD i (by rw [zcf]at hi;omega),hdone i hi (by rw [zcf]at hi;exact hi)⟩,by rw [zcf];exact hr,rfl⟩)
   clear hdone htodo hr hD
   go_wp2_with fail
   go_ret
   exact⟨by first | rfl | (rw [List.take_length];rfl),zaa HW,hf⟩
set_option maxHeartbeats 3200000 in
theorem zmo (w:World) (u v:Value) (l:List OpV) (hu:RdOps w u l) (hv:RdOps w v l) :
  Calls Tryz.prog 26 #[u,v] w fun e w'=>e=.returned (.bool true)∧Below w.heap.size w w':=by
 have hm:=hu.1
 unfold maxLen at hm
 obtain⟨rfl,a,cap,rfl⟩ | ⟨b,off,cap,rfl,hnil,g4,g5⟩:=hu.cases
 ·obtain⟨a',cap',rfl,_,_⟩:=Elems.shape hv
  go_enter Tryz.func26,Tryz.ntmps26
  go_wp2_with fail
  refine wp_loop_rounds 1 ?_
  rw [rounds_succ]
  go_wp2_with fail
  go_ret
  exact⟨rfl,Below.refl _ _⟩
 obtain⟨rfl,_⟩ | ⟨b',off',cap',rfl,_,f4,f5⟩:=hv.cases
 ·exact absurd rfl hnil
 go_enter Tryz.func26,Tryz.ntmps26
 go_wp2_with fail
 go_loopw [5] (fun i wr=>∃k:Nat,k≤l.length∧i=.int .i64 k∧Below w.heap.size w wr) (fun i _=>l.length-(intOf i).toNat)
 case atStart=>exact⟨0,Nat.zero_le _,rfl,Below.refl _ _⟩
 case round=>
  obtain⟨k,hk,rfl,hB⟩:=hrel
  by_cases hlt:k<l.length
  ·have HE:=hide (fun W u v (hu:RdOp W u l[k]) (hv:RdOp W v l[k])=>zoO W u v l[k] hu hv)
   obtain⟨a1,c1,a2,c2,a3,c3,e0,e1,e2,e3,e4,e5,e6,e7,e8,e9,e10,e11,hr⟩:=zcv hB g4 (g5 k hlt)
   obtain⟨a1',c1',a2',c2',a3',c3',i0,i1,i2,i3,i4,i5,i6,i7,i8,i9,i10,i11,hr'⟩:=zcv hB f4 (f5 k hlt)
   have hlt':(k:Int)<(l.length:Int):=by omega
   have hk0:(0:Int)≤(k:Int):=by omega
   have HR:=hide hr
   have HR':=hide hr'
   unfold zaU at HR HR'
   generalize l[k]=o at *
   generalize o.key.length=nK at *
   generalize o.name.length=nN at *
   generalize o.text.length=nT at *
   clear g5 f5 hr hr' hnil
   go_wp2_with fail
   go_region_held3 (fun w'=>w'.cell? ⟨b,off+k*12,none⟩=some (.int .i64 o.kind)∧w'.cell? ⟨b,off+k*12+1,none⟩=some (.int .i64 o.atN)∧w'.cell? ⟨b,off+k*12+2,none⟩=some (.int .i64 o.atR)∧w'.cell? ⟨b,off+k*12+3,none⟩=some (.int .i64 o.nodeN)∧w'.cell? ⟨b,off+k*12+4,none⟩=some (.int .i64 o.nodeR)∧w'.cell? ⟨b,off+k*12+5,none⟩=some (.int .i64 o.parN)∧w'.cell? ⟨b,off+k*12+6,none⟩=some (.int .i64 o.parR)∧w'.cell? ⟨b,off+k*12+7,none⟩=some (.slice a1 nK c1)∧w'.cell? ⟨b,off+k*12+8,none⟩=some (.int .i64 o.elem)∧w'.cell? ⟨b,off+k*12+9,none⟩=some (.slice a2 nN c2)∧w'.cell? ⟨b,off+k*12+10,none⟩=some (.slice a3 nT c3)∧w'.cell? ⟨b,off+k*12+11,none⟩=some (.bool o.gone)∧w'.cell? ⟨b',off' + k*12,none⟩=some (.int .i64 o.kind)∧w'.cell? ⟨b',off' + k*12+1,none⟩=some (.int .i64 o.atN)∧w'.cell? ⟨b',off' + k*12+2,none⟩=some (.int .i64 o.atR)∧w'.cell? ⟨b',off' + k*12+3,none⟩=some (.int .i64 o.nodeN)∧w'.cell? ⟨b',off' + k*12+4,none⟩=some (.int .i64 o.nodeR)∧w'.cell? ⟨b',off' + k*12+5,none⟩=some (.int .i64 o.parN)∧w'.cell? ⟨b',off' + k*12+6,none⟩=some (.int .i64 o.parR)∧w'.cell? ⟨b',off' + k*12+7,none⟩=some (.slice a1' nK c1')∧w'.cell? ⟨b',off' + k*12+8,none⟩=some (.int .i64 o.elem)∧w'.cell? ⟨b',off' + k*12+9,none⟩=some (.slice a2' nN c2')∧w'.cell? ⟨b',off' + k*12+10,none⟩=some (.slice a3' nT c3')∧w'.cell? ⟨b',off' + k*12+11,none⟩=some (.bool o.gone)) (first | exact⟨by assumption,by assumption,by assumption,by assumption,by assumption,by assumption,by assumption,by assumption,by assumption,by assumption,by assumption,by assumption,by assumption,by assumption,by assumption,by assumption,by assumption,by assumption,by assumption,by assumption,by assumption,by assumption,by assumption,by assumption⟩ | simp [*])
    ((go_at_call 66;refine (zaa HE _ _ _ ((zaa HR).keep ((Below.refl _ _).drew)) ((zaa HR').keep ((Below.refl _ _).drew))).mono ?_;rintro e w2 ⟨rfl,hB2⟩;have s0:=cell_later hB2 e0;have s1:=cell_later hB2 e1;have s2:=cell_later hB2 e2;have s3:=cell_later hB2 e3;have s4:=cell_later hB2 e4;have s5:=cell_later hB2 e5;have s6:=cell_later hB2 e6;have s7:=cell_later hB2 e7;have s8:=cell_later hB2 e8;have s9:=cell_later hB2 e9;have s10:=cell_later hB2 e10;have s11:=cell_later hB2 e11;have r0:=cell_later hB2 i0;have r1:=cell_later hB2 i1;have r2:=cell_later hB2 i2;have r3:=cell_later hB2 i3;have r4:=cell_later hB2 i4;have r5:=cell_later hB2 i5;have r6:=cell_later hB2 i6;have r7:=cell_later hB2 i7;have r8:=cell_later hB2 i8;have r9:=cell_later hB2 i9;have r10:=cell_later hB2 i10;have r11:=cell_later hB2 i11))
   have hB3:=hB.trans ((Below.drew (Below.refl wr.heap.size wr)).trans hB2 |>.mono hB.size)
   clear e0 e1 e2 e3 e4 e5 e6 e7 e8 e9 e10 e11 i0 i1 i2 i3 i4 i5 i6 i7 i8 i9 i10 i11 s0 s1 s2 s3 s4 s5 s6 s7 s8 s9 s10 s11 r0 r1 r2 r3 r4 r5 r6 r7 r8 r9 r10 r11 hB2 HR HR'
   go_wp2_with fail
   go_roundw
   case rel=>exact⟨k+1,by omega,by go_num,hB3⟩
   case measure=>simp [intOf];omega
  ·clear g5 f5
   go_wp2_with fail
   go_ret
   exact⟨rfl,hB⟩
def mkIs:List (Int×Int)→Int→List (Int×Int)
 | [],_=>[]
 | x::r,k=>(k,k+1)::mkIs r (k+2)
theorem zcp:∀(l:List (Int×Int)) (k:Int),(mkIs l k).length=l.length
 | [],_=>rfl
 | x::r,k=>by simp [mkIs,zcp r]
theorem zlQ:∀(l:List (Int×Int)) (k:Int) (j:Nat) (h:j<(mkIs l k).length),(mkIs l k)[j]=(k+2*j,k+2*j+1)
 | [],_,_,h=>by simp [mkIs]at h
 | x::r,k,0,_=>by simp [mkIs]
 | x::r,k,j+1,h=>by
  have:=zlQ r (k+2) j (by simpa [mkIs]using h)
  simp only [mkIs,List.getElem_cons_succ,this]
  congr 1<;>omega
theorem OwIdC.len {C:List Value} {x:Int×Int} {F:List Nat} (h:OwIdC C x F):C.length=2:=by rw [h.1];rfl
set_option maxHeartbeats 6400000 in
theorem zmM (w:World) (v:Value) (l:List (Int×Int)) (F:List Nat) (k:Int) (h:OwIds w v l F) (hF:F.Nodup) (hs:l.length≤4194304) (h0:0≤k) (h1:k≤900000000) :
  Calls Tryz.prog 30 #[v,.int .i64 k] w fun e w'=>e=.returned (.int .i64 (k+2*(l.length:Nat)))∧OwIds w' v (mkIs l k) F∧Frm w w' F:=by
 obtain⟨Cs,Fs,hCl,hFl,hR,hrow,rfl⟩:=h
 by_cases hl0:l=[]
 ·subst hl0
  obtain⟨a,cap,rfl⟩:=zbx hrow
  have HW:=hide (show OwIds w (.slice a ([]:List (Int×Int)).length cap) (mkIs [] k) _ from ⟨Cs,Fs,hCl,hFl,hR,hrow,rfl⟩)
  clear hrow hR
  go_enter Tryz.func30,Tryz.ntmps30
  go_wp2_with fail
  refine wp_loop_rounds 1 ?_
  rw [rounds_succ]
  go_wp2_with fail
  go_ret
  exact⟨by simp,zaa HW,Frm.refl _ _⟩
 have hv:∃g cap,v=.slice (some ⟨g,0,none⟩) l.length cap:=by
  rcases hrow.2 with ⟨_,h⟩ | ⟨g,cap,cur,rfl,_⟩
  ·exact absurd (List.eq_nil_of_length_eq_zero h) hl0
  ·exact⟨g,cap,rfl⟩
 obtain⟨g,cap,rfl⟩:=hv
 have hFB:FB (.slice (some ⟨g,0,none⟩) l.length cap)=[g]:=rfl
 rw [hFB]at hF ⊢
 have HR:=hide hR
 have HROW:=hide hrow
 clear hR hrow hFB
 go_enter Tryz.func30,Tryz.ntmps30
 go_wp2_with fail
 go_loopw [1,5] (fun c i wr=>∃j:Nat,j≤l.length∧i=.int .i64 j∧c=.int .i64 (k+2*(j:Nat))∧∃Ds:List (List Value),Ds.length=l.length∧wr.ownsRow 0 81 2 (.slice (some ⟨g,0,none⟩) l.length cap) l.length Ds.flatten∧
   (∀i (hi:i<(mkIs l k).length),i<j→OwIdC (Ds.getD i []) (mkIs l k)[i] (Fs.getD i []))∧(∀i (hi:i<l.length),j≤i→OwIdC (Ds.getD i []) l[i] (Fs.getD i []))∧Frm w wr ([g]++Fs.flatten)) (fun _ i _=>l.length-(intOf i).toNat)
 case atStart=>exact⟨0,Nat.zero_le _,rfl,by simp,Cs,hCl,zaa HROW,fun i hi hj=>by omega,fun i hi _=>(zaa HR i hi).2,Frm.refl _ _⟩
 case round=>
  obtain⟨j,hj,rfl,rfl,Ds,hDl,hr,hdone,htodo,hf⟩:=hrel
  have hD:∀i,i<Ds.length→(Ds.getD i []).length=2:=fun i hi=>by
   by_cases hij:i<j
   ·exact (hdone i (by rw [zcp];omega) hij).len
   ·exact (htodo i (by omega) (by omega)).len
  by_cases hjl:j<l.length
  ·obtain⟨hab,hFj⟩:=htodo j hjl (Nat.le_refl _)
   have hat:=zlQ l k j (by rw [zcp];exact hjl)
   obtain⟨q,hq⟩:∃q:Int,q=k+2*(j:Nat):=⟨_,rfl⟩
   rw [←hq]at hat ⊢
   have hq0:0≤q:=by omega
   have hq1:q≤917000000:=by omega
   have R0:=RowJ.start hDl hD j hjl hr
   rw [hab]at R0
   have c0:=R0.cell 0 (by omega)
   have c1:=R0.cell 1 (by omega)
   have f0:=R0.frozen (j*2)
   have f1:=R0.frozen (j*2+1)
   simp only [List.getElem?_cons_zero,List.getElem?_cons_succ,Nat.add_zero]at c0 c1
   have R1:=(R0.put 0 (by omega) (.int .i64 q)).put 1 (by omega) (.int .i64 (q+1))
   simp only [Nat.add_zero,List.set_cons_zero,List.set_cons_succ]at R1
   have F1:Frm wr ((wr.setCell ⟨g,j*2,none⟩ (.int .i64 q)).setCell ⟨g,j*2+1,none⟩ (.int .i64 (q+1))) [g]:=(zab wr g (j*2) (.int .i64 q)).trans (zab _ g (j*2+1) (.int .i64 (q+1)))
   have HQ:=hide hq
   have HT:=hide hat
   have HDN:=hide hdone
   have HTD:=hide htodo
   have HFJ:=hide hFj
   have hjl':(j:Int)<(l.length:Int):=by omega
   have HROW2:=hide R1.row
   have HFr:=hide (hf.trans (F1.mono (fun p hp=>List.mem_append_left _ hp)))
   clear hq hat hdone htodo hr hab R0 R1 F1 hf hFj hD
   go_wp2_with fail
   go_roundw
   case rel=>
    refine⟨j+1,by omega,by go_num,?_,Ds.set j _,by rw [List.length_set];exact hDl,zaa HROW2,fun i hi hij=> ?_,fun i hi hij=> ?_,zaa HFr⟩
    ·rw [zaa HQ];go_num
    ·by_cases e:i=j
     ·subst e
      rw [zaa HT,zbD _ _ _ (by omega)]
      exact⟨rfl,zaa HFJ⟩
     ·rw [zbt _ _ _ _ e]
      exact zaa HDN i hi (by omega)
    ·rw [zbt _ _ _ _ (by omega)]
     exact zaa HTD i hi (by omega)
   case measure=>simp [intOf];omega
  ·have e:j=l.length:=by omega
   subst e
   have HW:=hide (show OwIds wr (.slice (some ⟨g,0,none⟩) l.length cap) (mkIs l k) ([g]++Fs.flatten) from
    ⟨Ds,Fs,by rw [zcp];exact hDl,by rw [zcp];exact hFl,fun i hi=>⟨hD i (by rw [zcp]at hi;omega),hdone i hi (by rw [zcp]at hi;exact hi)⟩,by rw [zcp];exact hr,rfl⟩)
   clear hdone htodo hr hD
   go_wp2_with fail
   go_ret
   exact⟨rfl,zaa HW,hf⟩
def zgt {n:Nat} (r:RepV n):Nat:=cntT (n+1) r.first+zaL r.ops+2*r.und.length
def mkR {n:Nat} (r:RepV n) (k:Int):RepV n where
 id:=r.id
 clock:=r.clock
 first:=mkT' (n+1) r.first k
 ops:=mkOs r.ops (k+(cntT (n+1) r.first:Nat))
 und:=mkIs r.und (k+(cntT (n+1) r.first:Nat)+(zaL r.ops:Nat))
 lost:=r.lost
theorem rd5v {n:Nat} {w:World} {a b c d e vo vu:Value} {r:RepV n} (h:RdRep n w a b c d e vo vu r):∃z ab nb cb ac nc cc ad nd cd ae ne ce ao no co au nu cu,a=.int .i64 z∧b=.slice ab nb cb∧c=.slice ac nc cc∧d=.slice ad nd cd∧e=.slice ae ne ce∧vo=.slice ao no co∧vu=.slice au nu cu:=by
 obtain⟨z,ab,nb,cb,ac,nc,cc,ad,nd,cd,ae,ne,ce,rfl,rfl,rfl,rfl,rfl⟩:=rd5 h.1
 obtain⟨ao,co,rfl,_,_⟩:=Elems.shape h.2.1
 obtain⟨au,cu,rfl,_,_⟩:=Elems.shape h.2.2
 exact⟨_,_,_,_,_,_,_,_,_,_,_,_,_,_,_,_,_,_,_,rfl,rfl,rfl,rfl,rfl,rfl,rfl⟩
set_option maxHeartbeats 6400000 in
theorem zlt (n:Nat) (w:World) (a b c d e vo vu:Value) (r:RepV n) (F:List Nat) (k:Int) (h:OwRep n w a b c d e vo vu r F) (hF:F.Nodup) (hlt:∀g∈F,g<w.heap.size) (hs1:cntT (n+1) r.first≤4194304) (hs2:zaL r.ops≤16777216) (hs3:r.und.length≤4194304) (h0:0≤k) (h1:k≤100000000) :
  Calls Tryz.prog 10 #[zaO r a b c d e vo vu,.int .i64 k] w fun e' w'=>e'=.returned (.int .i64 (k+(zgt r:Nat)))∧OwRep n w' a b c d e vo vu (mkR r k) F∧Frm w w' F:=by
 obtain⟨z,ab,nb,cb,ac,nc,cc,ad,nd,cd,ae,ne,ce,ao,no,co,au,nu,cu,rfl,rfl,rfl,rfl,rfl,rfl,rfl⟩:=rd5v h.rd
 obtain⟨F1,F2,F3,o1,o2,o3,rfl⟩:=h
 have n12:=List.nodup_append.1 hF
 have n1:=List.nodup_append.1 n12.1
 have d12:∀g∈F1,g∉F2:=fun g h1 h2=>n1.2.2 g h1 g h2 rfl
 have d13:∀g∈F1,g∉F3:=fun g h1 h3=>n12.2.2 g (List.mem_append_left _ h1) g h3 rfl
 have d23:∀g∈F2,g∉F3:=fun g h2 h3=>n12.2.2 g (List.mem_append_right _ h2) g h3 rfl
 have HR:=hide (show k+(cntT (n+1) r.first:Nat)+(zaL r.ops:Nat)+2*(r.und.length:Nat)=k+(zgt r:Nat) by unfold zgt;omega)
 have HM:=hide (fun w' (q1:OwNode (n+1) w' [.int .i64 z,.slice ab nb cb,.slice ac nc cc,.slice ad nd cd,.slice ae ne ce] (mkT' (n+1) r.first k) F1) (q2:OwOps w' (.slice ao no co) (mkOs r.ops (k+(cntT (n+1) r.first:Nat))) F2) (q3:OwIds w' (.slice au nu cu) (mkIs r.und (k+(cntT (n+1) r.first:Nat)+(zaL r.ops:Nat))) F3)=>(show OwRep n w' (.int .i64 z) (.slice ab nb cb) (.slice ac nc cc) (.slice ad nd cd) (.slice ae ne ce) (.slice ao no co) (.slice au nu cu) (mkR r k) (F1++F2++F3) from ⟨F1,F2,F3,q1,q2,q3,rfl⟩))
 generalize zgt r=cr at *
 generalize mkR r k=mr at *
 have hA:=(Below.refl w.heap.size w).alloc (Nat.le_refl _) (.cells #[.int .i64 r.id,.int .i64 r.clock,.int .i64 z,.slice ab nb cb,.slice ac nc cc,.slice ad nd cd,.slice ae ne ce,.slice ao no co,.slice au nu cu,.bool r.lost] 41)
 have l0:=Loc.made w #[.int .i64 r.id,.int .i64 r.clock,.int .i64 z,.slice ab nb cb,.slice ac nc cc,.slice ad nd cd,.slice ae ne ce,.slice ao no co,.slice au nu cu,.bool r.lost] 41
 have o1a:=o1.keep hA
 have o2a:OwOps (w.alloc (.cells #[.int .i64 r.id,.int .i64 r.clock,.int .i64 z,.slice ab nb cb,.slice ac nc cc,.slice ad nd cd,.slice ae ne ce,.slice ao no co,.slice au nu cu,.bool r.lost] 41)) (.slice ao no co) r.ops F2:=OwOps.frm o2 (Frm.ofBelow hA []) (fun _ _=>by simp)
 have o3a:OwIds (w.alloc (.cells #[.int .i64 r.id,.int .i64 r.clock,.int .i64 z,.slice ab nb cb,.slice ac nc cc,.slice ad nd cd,.slice ae ne ce,.slice ao no co,.slice au nu cu,.bool r.lost] 41)) (.slice au nu cu) r.und F3:=OwIds.frm o3 (Frm.ofBelow hA []) (fun _ _=>by simp)
 have hSF:w.heap.size∉F1++F2++F3:=fun hq=>by have:=hlt _ hq;omega
 simp only [List.mem_append,not_or]at hSF
 obtain⟨⟨hS1,hS2⟩,hS3⟩:=hSF
 unfold zaO
 clear o1 o2 o3
 go_enter Tryz.func10,Tryz.ntmps10
 go_wp2_with fail
 have fA:=Frm.ofBelow hA (F1++F2++F3)
 generalize (w.alloc (.cells #[.int .i64 r.id,.int .i64 r.clock,.int .i64 z,.slice ab nb cb,.slice ac nc cc,.slice ad nd cd,.slice ae ne ce,.slice ao no co,.slice au nu cu,.bool r.lost] 41))=wa at *
 refine (zoB n wa _ _ _ _ _ r.first F1 k o1a n1.1 hs1 h0 (by omega)).mono ?_
 rintro e w1 ⟨rfl,q1,f1⟩
 replace l0:=l0.frm f1 hS1
 have o2b:=OwOps.frm o2a f1 (fun g hg hg'=>d12 g hg' hg)
 have o3b:=OwIds.frm o3a f1 (fun g hg hg'=>d13 g hg' hg)
 have fB:=fA.trans (f1.mono (fun g hg=>List.mem_append_left _ (List.mem_append_left _ hg)))
 clear o1a o2a o3a fA hA
 obtain⟨x0,x1,x2,x3,x4,x5,x6,x7,x8,x9⟩:=l0.ten
 go_wp2_with fail
 clear x0 x1 x2 x3 x4 x5 x6 x7 x8 x9
 refine (znr w1 _ r.ops F2 (k+(cntT (n+1) r.first:Nat)) o2b n1.2.1 hs2 (by omega) (by omega)).mono ?_
 rintro e w2 ⟨rfl,q2,f2⟩
 replace l0:=l0.frm f2 hS2
 have o3c:=OwIds.frm o3b f2 (fun g hg hg'=>d23 g hg' hg)
 have q1b:=q1.frm f2 (fun g hg hg'=>d12 g hg hg')
 have fC:=fB.trans (f2.mono (fun g hg=>List.mem_append_left _ (List.mem_append_right _ hg)))
 clear o2b o3b fB q1 f1 f2
 obtain⟨x0,x1,x2,x3,x4,x5,x6,x7,x8,x9⟩:=l0.ten
 go_wp2_with fail
 clear x0 x1 x2 x3 x4 x5 x6 x7 x8 x9
 refine (zmM w2 _ r.und F3 (k+(cntT (n+1) r.first:Nat)+(zaL r.ops:Nat)) o3c n12.2.1 hs3 (by omega) (by omega)).mono ?_
 rintro e w3 ⟨rfl,q3,f3⟩
 have q1c:=q1b.frm f3 (fun g hg hg'=>d13 g hg hg')
 have q2c:=OwOps.frm q2 f3 (fun g hg hg'=>d23 g hg hg')
 have fD:=fC.trans (f3.mono (fun g hg=>List.mem_append_right _ hg))
 rw [zaa HR]
 have HP:=hide (zaa HM w3 q1c q2c q3)
 clear q1b q1c q2 q2c q3 fC f3 o3c l0
 go_wp2_with fail
 go_ret
 exact⟨rfl,zaa HP,fD⟩
theorem zmG (n r:Int):zdV n r n r=true:=by simp [zdV]
set_option maxHeartbeats 3200000 in
theorem zmY (w:World) (u v:Value) (l:List (Int×Int)) (hu:RdIds w u l) (hv:RdIds w v l) :
  Calls Tryz.prog 27 #[u,v] w fun e w'=>e=.returned (.bool true)∧Below w.heap.size w w':=by
 have hm:=hu.1
 unfold maxLen at hm
 obtain⟨rfl,a,cap,rfl⟩ | ⟨b,off,cap,rfl,hnil,g4,g5⟩:=hu.cases
 ·obtain⟨a',cap',rfl,_,_⟩:=Elems.shape hv
  go_enter Tryz.func27,Tryz.ntmps27
  go_wp2_with fail
  refine wp_loop_rounds 1 ?_
  rw [rounds_succ]
  go_wp2_with fail
  go_ret
  exact⟨rfl,Below.refl _ _⟩
 obtain⟨rfl,_⟩ | ⟨b',off',cap',rfl,_,f4,f5⟩:=hv.cases
 ·exact absurd rfl hnil
 go_enter Tryz.func27,Tryz.ntmps27
 go_wp2_with fail
 go_loopw [5] (fun i wr=>∃k:Nat,k≤l.length∧i=.int .i64 k∧Below w.heap.size w wr) (fun i _=>l.length-(intOf i).toNat)
 case atStart=>exact⟨0,Nat.zero_le _,rfl,Below.refl _ _⟩
 case round=>
  obtain⟨k,hk,rfl,hB⟩:=hrel
  by_cases hlt:k<l.length
  ·have HE:=hide (fun W=>zke W l[k].1 l[k].2 l[k].1 l[k].2)
   rw [zmG]at HE
   obtain⟨c0,c1⟩:=g5 k hlt
   obtain⟨d0,d1⟩:=f5 k hlt
   have e0:=(hB.cell (p:=⟨b,off+k*2,none⟩) g4).trans c0
   have e1:=(hB.cell (p:=⟨b,off+k*2+1,none⟩) g4).trans c1
   have i0:=(hB.cell (p:=⟨b',off' + k*2,none⟩) f4).trans d0
   have i1:=(hB.cell (p:=⟨b',off' + k*2+1,none⟩) f4).trans d1
   have hlt':(k:Int)<(l.length:Int):=by omega
   have hk0:(0:Int)≤(k:Int):=by omega
   generalize l[k]=o at *
   clear g5 f5 c0 c1 d0 d1 hnil
   go_wp2_with fail
   go_region_held3 (fun w'=>w'.cell? ⟨b,off+k*2,none⟩=some (.int .i64 o.1)∧w'.cell? ⟨b,off+k*2+1,none⟩=some (.int .i64 o.2)∧w'.cell? ⟨b',off' + k*2,none⟩=some (.int .i64 o.1)∧w'.cell? ⟨b',off' + k*2+1,none⟩=some (.int .i64 o.2)) (first | exact⟨by assumption,by assumption,by assumption,by assumption⟩ | simp [*])
    ((go_at_call 67;refine (zaa HE _).mono ?_;rintro e w2 ⟨rfl,hB2⟩;have s0:=cell_later hB2 e0;have s1:=cell_later hB2 e1;have r0:=cell_later hB2 i0;have r1:=cell_later hB2 i1))
   have hB3:=hB.trans ((Below.drew (Below.refl wr.heap.size wr)).trans hB2 |>.mono hB.size)
   clear e0 e1 i0 i1 s0 s1 r0 r1 hB2
   go_wp2_with fail
   go_roundw
   case rel=>exact⟨k+1,by omega,by go_num,hB3⟩
   case measure=>simp [intOf];omega
  ·clear g5 f5
   go_wp2_with fail
   go_ret
   exact⟨rfl,hB⟩
set_option maxHeartbeats 6400000 in
theorem zmS (n:Nat) (w:World) (a b c d e vo vu a' b' c' d' e' vo' vu':Value) (r:RepV n) (h:RdRep n w a b c d e vo vu r) (h':RdRep n w a' b' c' d' e' vo' vu' r) :
  Calls Tryz.prog 9 #[zaO r a b c d e vo vu,zaO r a' b' c' d' e' vo' vu'] w fun e w'=>e=.returned (.bool true)∧Below w.heap.size w w':=by
 obtain⟨z,ab,nb,cb,ac,nc,cc,ad,nd,cd,ae,ne,ce,rfl,rfl,rfl,rfl,rfl⟩:=rd5 h.1
 obtain⟨ao,co,rfl,_,_⟩:=Elems.shape h.2.1
 obtain⟨au,cu,rfl,_,_⟩:=Elems.shape h.2.2
 obtain⟨z',ab',nb',cb',ac',nc',cc',ad',nd',cd',ae',ne',ce',rfl,rfl,rfl,rfl,rfl⟩:=rd5 h'.1
 obtain⟨ao',co',rfl,_,_⟩:=Elems.shape h'.2.1
 obtain⟨au',cu',rfl,_,_⟩:=Elems.shape h'.2.2
 have H1:=hide (fun W (hW:Below w.heap.size w W)=>zng (n+1) W _ _ _ _ _ _ _ _ _ _ r.first (h.1.keep hW) (h'.1.keep hW))
 have H2:=hide (fun W (hW:Below w.heap.size w W)=>zmo W _ _ r.ops (h.2.1.keep hW) (h'.2.1.keep hW))
 have H3:=hide (fun W (hW:Below w.heap.size w W)=>zmY W _ _ r.und (h.2.2.keep hW) (h'.2.2.keep hW))
 clear h h'
 unfold zaO
 obtain⟨l1,l2,hA⟩:=two w #[.int .i64 r.id,.int .i64 r.clock,.int .i64 z,.slice ab nb cb,.slice ac nc cc,.slice ad nd cd,.slice ae ne ce,.slice ao r.ops.length co,.slice au r.und.length cu,.bool r.lost] #[.int .i64 r.id,.int .i64 r.clock,.int .i64 z',.slice ab' nb' cb',.slice ac' nc' cc',.slice ad' nd' cd',.slice ae' ne' ce',.slice ao' r.ops.length co',.slice au' r.und.length cu',.bool r.lost] 41 41
 have hn1:(r.id != r.id)=false:=by simp
 have hn2:(r.clock != r.clock)=false:=by simp
 have hn3:(r.lost != r.lost)=false:=by simp
 go_enter Tryz.func9,Tryz.ntmps9
 go_wp2_with fail
 generalize ((w.alloc (.cells #[.int .i64 r.id,.int .i64 r.clock,.int .i64 z,.slice ab nb cb,.slice ac nc cc,.slice ad nd cd,.slice ae ne ce,.slice ao r.ops.length co,.slice au r.und.length cu,.bool r.lost] 41)).alloc (.cells #[.int .i64 r.id,.int .i64 r.clock,.int .i64 z',.slice ab' nb' cb',.slice ac' nc' cc',.slice ad' nd' cd',.slice ae' ne' ce',.slice ao' r.ops.length co',.slice au' r.und.length cu',.bool r.lost] 41))=wa at *
 refine (zaa H1 _ hA).mono ?_
 rintro e w1 ⟨rfl,hB⟩
 have hA1:=zad hA hB
 replace l1:=l1.all hB
 replace l2:=l2.all hB
 clear hA hB H1
 obtain⟨x0,x1,x2,x3,x4,x5,x6,x7,x8,x9⟩:=l1.ten
 obtain⟨y0,y1,y2,y3,y4,y5,y6,y7,y8,y9⟩:=l2.ten
 go_wp2_with fail
 clear x0 x1 x2 x3 x4 x5 x6 x7 x8 x9 y0 y1 y2 y3 y4 y5 y6 y7 y8 y9
 refine (zaa H2 _ hA1).mono ?_
 rintro e w2 ⟨rfl,hB⟩
 have hA2:=zad hA1 hB
 replace l1:=l1.all hB
 replace l2:=l2.all hB
 clear hA1 hB H2
 obtain⟨x0,x1,x2,x3,x4,x5,x6,x7,x8,x9⟩:=l1.ten
 obtain⟨y0,y1,y2,y3,y4,y5,y6,y7,y8,y9⟩:=l2.ten
 go_wp2_with fail
 clear x0 x1 x2 x3 x4 x5 x6 x7 x8 x9 y0 y1 y2 y3 y4 y5 y6 y7 y8 y9
 refine (zaa H3 _ hA2).mono ?_
 rintro e w3 ⟨rfl,hB⟩
 have hA3:=zad hA2 hB
 replace l1:=l1.all hB
 replace l2:=l2.all hB
 clear hA2 hB H3
 obtain⟨x0,x1,x2,x3,x4,x5,x6,x7,x8,x9⟩:=l1.ten
 obtain⟨y0,y1,y2,y3,y4,y5,y6,y7,y8,y9⟩:=l2.ten
 go_wp2_with fail
 go_ret
 exact⟨rfl,hA3⟩
set_option maxHeartbeats 12800000 in
theorem zoj (w:World) (v:Value) (l:List OpV) (h:RdOps w v l) (hs:szOs l≤2097152) :
  Calls Tryz.prog 19 #[v] w fun e w'=>∃a c,e=.returned (.slice a l.length c)∧∃F,OwOps w' (.slice a l.length c) l F∧F.Nodup∧Rng F w.heap.size w'.heap.size∧Below w.heap.size w w':=by
 obtain⟨i0,hi,hz0,hz1,hz2⟩:=info_parts Tryz.info83
 have hm:=h.1
 have hlen:l.length≤2097152:=by unfold szOs at hs;omega
 by_cases h0:l=[]
 ·obtain⟨a,cap,rfl,_⟩:=Elems.shape h
  subst h0
  go_enter Tryz.func19,Tryz.ntmps19
  go_wp2_with (at_make;refine wpList_make_full _ rfl _ _ 38 rfl w.heap.size 83 i0 _ 12 Tryz.underlying38 hi hz0 hz1 .i64 .i64 _ _ 0 rfl rfl rfl rfl ?c1 ?c2 ?c3 ?_)
  case c1=>rw [hz2];omega
  case c2=>exact Nat.zero_le _
  case c3=>exact Nat.le_refl _
  intro w1 hown hgrow
  have hB1:=Below.ofGrown hgrow
  have hH:=(Half.start (α:=OpV) (l:=[]) (R:=OwOpC w1) (w.heap.size+1) (zbk hown 0 (Nat.zero_le _))).whole rfl (by omega)
  have HH:=hide hH
  clear hown hgrow hH
  go_wp2_with fail
  refine wp_loop_rounds 1 ?_
  rw [rounds_succ]
  go_wp2_with fail
  go_ret
  obtain⟨F,hF,hnd,hr⟩:=zaa HH
  exact⟨_,_,rfl,F,hF,hnd,hr,hB1⟩
 obtain⟨_,⟨_,e⟩ | ⟨_,_,_,_,e⟩ | ⟨b,off,cap,rfl,g1,g2,g3,g4,g5⟩⟩:=h
 ·exact absurd e h0
 ·exact absurd e h0
 have hone:∀i (hi:i<l.length),szO l[i]≤2097152:=fun i hi=>by have:=zrZ l i hi;unfold szOs at hs;omega
 go_enter Tryz.func19,Tryz.ntmps19
 go_wp2_with (at_make;refine wpList_make_full _ rfl _ _ 38 rfl w.heap.size 83 i0 _ 12 Tryz.underlying38 hi hz0 hz1 .i64 .i64 _ _ l.length rfl rfl rfl rfl ?c1 ?c2 ?c3 ?_)
 case c1=>rw [hz2];omega
 case c2=>exact hm
 case c3=>exact Nat.le_refl _
 intro w1 hown hgrow
 have hB1:=Below.ofGrown hgrow
 have hH:=Half.start (α:=OpV) (l:=l) (R:=OwOpC w1) (w.heap.size+1) (zbk hown 0 (Nat.zero_le _))
 have hlt1:=(hown.lt w.heap.size rfl).2
 clear hown hgrow
 go_wp2_with fail
 go_loopw [4] (fun i wr=>∃k:Nat,k≤l.length∧i=.int .i64 k∧Half wr 83 12 w.heap.size l.length l (OwOpC wr) (w.heap.size+1) k∧Below w.heap.size w wr∧w.heap.size+1≤wr.heap.size) (fun i _=>l.length-(intOf i).toNat)
 case atStart=>exact⟨0,Nat.zero_le _,rfl,hH,hB1,by omega⟩
 case round=>
  obtain⟨k,hk,rfl,hr,hB,hsz⟩:=hrel
  clear hH hB1 hlt1
  by_cases hlt:k<l.length
  ·obtain⟨p1,u1,p2,u2,p3,u3,e0,e1,e2,e3,e4,e5,e6,e7,e8,e9,e10,e11,hro⟩:=zcv hB g4 (g5 k hlt)
   have hlt':(k:Int)<(l.length:Int):=by omega
   have HT:=hide (zpW wr _ l[k] hro (by have:=hone k hlt;unfold szO at this;exact this))
   have HR0:=hide hr
   have HRW:=hide (fun (w2:World) (hB2:Below wr.heap.size wr w2)=>(show ∃xs:List Value,w2.ownsRow 0 83 12 (.slice (some ⟨w.heap.size,0,none⟩) l.length l.length) l.length xs by
    obtain⟨_,_,xs,_,_,_,h4,_⟩:=hr.laid
    exact⟨xs,zah h4 (Frm.ofBelow hB2 []) (fun _ _=>by simp)⟩))
   unfold zaU at HT
   generalize hoo:l[k]=o at *
   have HOO:=hide hoo.symm
   clear g5 hoo hr hro hone
   go_wp2_with fail
   clear e0 e1 e2 e3 e4 e5 e6 e7 e8 e9 e10 e11
   refine (zaa HT).mono ?_
   rintro e w2 ⟨a1,c1,a2,c2,a3,c3,rfl,hO,hB2⟩
   obtain⟨hO1,hO2,hO3,hO4⟩:=hO
   have rK:∀g∈FB (.slice a1 o.key.length c1),wr.heap.size≤g∧g<w2.heap.size:=fun g hg=>hO1.lt g (by simpa [FB]using hg)
   have rN:=hO2.rng
   have rT:=hO3.rng
   have o1:=hO1.mono (base':=0) (Nat.zero_le _)
   have o2:=hO2.mono (base':=0) (Nat.zero_le _)
   have o3:=hO3.mono (base':=0) (Nat.zero_le _)
   clear hO1 hO2 hO3
   generalize hnK:o.key.length=nK at *
   generalize hnN:o.name.length=nN at *
   generalize hnT:o.text.length=nT at *
   clear hnK hnN hnT
   obtain⟨xs,hx⟩:=zaa HRW w2 hB2
   have hxl:=hx.1
   have hcell:∀j,j<12→∃y,w2.cell? ⟨w.heap.size,k*12+j,none⟩=some y:=fun j hj=>⟨xs[k*12+j]'(by omega),by rw [hx.cellAt (k*12+j) (by omega),List.getElem?_eq_getElem (by omega)]⟩
   obtain⟨y0,q0⟩:=hcell 0 (by omega)
   obtain⟨y1,q1⟩:=hcell 1 (by omega)
   obtain⟨y2,q2⟩:=hcell 2 (by omega)
   obtain⟨y3,q3⟩:=hcell 3 (by omega)
   obtain⟨y4,q4⟩:=hcell 4 (by omega)
   obtain⟨y5,q5⟩:=hcell 5 (by omega)
   obtain⟨y6,q6⟩:=hcell 6 (by omega)
   obtain⟨y7,q7⟩:=hcell 7 (by omega)
   obtain⟨y8,q8⟩:=hcell 8 (by omega)
   obtain⟨y9,q9⟩:=hcell 9 (by omega)
   obtain⟨y10,q10⟩:=hcell 10 (by omega)
   obtain⟨y11,q11⟩:=hcell 11 (by omega)
   rw [Nat.add_zero]at q0
   have f0:=hx.frozenAt (k*12)
   have f1:=hx.frozenAt (k*12+1)
   have f2:=hx.frozenAt (k*12+2)
   have f3:=hx.frozenAt (k*12+3)
   have f4:=hx.frozenAt (k*12+4)
   have f5:=hx.frozenAt (k*12+5)
   have f6:=hx.frozenAt (k*12+6)
   have f7:=hx.frozenAt (k*12+7)
   have f8:=hx.frozenAt (k*12+8)
   have f9:=hx.frozenAt (k*12+9)
   have f10:=hx.frozenAt (k*12+10)
   have f11:=hx.frozenAt (k*12+11)
   obtain⟨W,hW⟩:∃W,W=((((((((((((w2.setCell ⟨w.heap.size,k*12,none⟩ (.int .i64 o.kind)).setCell ⟨w.heap.size,k*12+1,none⟩ (.int .i64 o.atN)).setCell ⟨w.heap.size,k*12+2,none⟩ (.int .i64 o.atR)).setCell ⟨w.heap.size,k*12+3,none⟩ (.int .i64 o.nodeN)).setCell ⟨w.heap.size,k*12+4,none⟩ (.int .i64 o.nodeR)).setCell ⟨w.heap.size,k*12+5,none⟩ (.int .i64 o.parN)).setCell ⟨w.heap.size,k*12+6,none⟩ (.int .i64 o.parR)).setCell ⟨w.heap.size,k*12+7,none⟩ (.slice a1 nK c1)).setCell ⟨w.heap.size,k*12+8,none⟩ (.int .i64 o.elem)).setCell ⟨w.heap.size,k*12+9,none⟩ (.slice a2 nN c2)).setCell ⟨w.heap.size,k*12+10,none⟩ (.slice a3 nT c3)).setCell ⟨w.heap.size,k*12+11,none⟩ (.bool o.gone)):=⟨_,rfl⟩
   have hf:Frm w2 W [w.heap.size]:=by rw [hW];exact ((((((((((((zab w2 _ _ _).trans (zab _ _ _ _)).trans (zab _ _ _ _)).trans (zab _ _ _ _)).trans (zab _ _ _ _)).trans (zab _ _ _ _)).trans (zab _ _ _ _)).trans (zab _ _ _ _)).trans (zab _ _ _ _)).trans (zab _ _ _ _)).trans (zab _ _ _ _)).trans (zab _ _ _ _))
   have hrg:Rng (FB (.slice a1 nK c1)++FB (.slice a2 nN c2)++FB (.slice a3 nT c3)) wr.heap.size w2.heap.size:=(Rng.app (Rng.app rK rN) rT)
   have hstep:Half W 83 12 w.heap.size l.length l (OwOpC W) (w.heap.size+1) (k+1):=by
    refine (zaa HR0).step hlt (by omega) hsz hB2 [.int .i64 o.kind,.int .i64 o.atN,.int .i64 o.atR,.int .i64 o.nodeN,.int .i64 o.nodeR,.int .i64 o.parN,.int .i64 o.parR,.slice a1 nK c1,.int .i64 o.elem,.slice a2 nN c2,.slice a3 nT c3,.bool o.gone] (FB (.slice a1 nK c1)++FB (.slice a2 nN c2)++FB (.slice a3 nT c3)) rfl ?_ hO4 hrg ?_ hf ?_
    ·rw [←zaa HOO]
     exact OwOpC.frm (w:=w2) ⟨_,_,_,rfl,o1,o2,o3,rfl⟩ hf (fun g hg=>by have:=hrg g hg;simp;omega)
    ·intro C x G' hx' hne
     exact OwOpC.frm hx' ((Frm.ofBelow hB2 [w.heap.size]).trans hf) (fun g hg=>by have:=hne g hg;simp;omega)
    ·intro zs hz
     have hzl:=hz.1
     have t0:=(hz.stored (k*12) (.int .i64 o.kind)).1
     have t1:=(t0.stored (k*12+1) (.int .i64 o.atN)).1
     have t2:=(t1.stored (k*12+2) (.int .i64 o.atR)).1
     have t3:=(t2.stored (k*12+3) (.int .i64 o.nodeN)).1
     have t4:=(t3.stored (k*12+4) (.int .i64 o.nodeR)).1
     have t5:=(t4.stored (k*12+5) (.int .i64 o.parN)).1
     have t6:=(t5.stored (k*12+6) (.int .i64 o.parR)).1
     have t7:=(t6.stored (k*12+7) (.slice a1 nK c1)).1
     have t8:=(t7.stored (k*12+8) (.int .i64 o.elem)).1
     have t9:=(t8.stored (k*12+9) (.slice a2 nN c2)).1
     have t10:=(t9.stored (k*12+10) (.slice a3 nT c3)).1
     have t11:=(t10.stored (k*12+11) (.bool o.gone)).1
     rw [hW]
     exact⟨_,t11,zle zs (k*12) _ _ _ _ _ _ _ _ _ _ _ _ (by omega)⟩
   have HB0:=hB.trans ((hB2.mono hB.size).trans (hf.below (by have:=hB2.size;have:=hB.size;omega) (fun g hg=>by simp at hg;omega)))
   have hs2:w.heap.size+1≤W.heap.size:=by have:=hf.size;have:=hB2.size;omega
   subst hW
   have HS:=hide hstep
   have HB:=hide HB0
   have HS2:=hide hs2
   clear hstep hf hx o1 o2 o3 hO4 hB2 hB HB0 hs2 hrg hcell rK rN rT HT HR0 HRW HOO
   go_wp2_with fail
   go_roundw
   case rel=>exact⟨k+1,by omega,by go_num,zaa HS,zaa HB,zaa HS2⟩
   case measure=>simp [intOf];omega
  ·have e:k=l.length:=by omega
   subst e
   have HW:=hide (hr.whole rfl (by omega))
   clear hr g5 hone
   go_wp2_with fail
   go_ret
   obtain⟨F,hF,hnd,hrg⟩:=zaa HW
   exact⟨_,_,rfl,F,hF,hnd,hrg,hB⟩
set_option maxHeartbeats 3200000 in
theorem zoD (w:World) (v:Value) (l:List (Int×Int)) (h:RdIds w v l) (hs:l.length≤2097152) :
  Calls Tryz.prog 20 #[v] w fun e w'=>∃a c,e=.returned (.slice a l.length c)∧∃F,OwIds w' (.slice a l.length c) l F∧F.Nodup∧Rng F w.heap.size w'.heap.size∧Below w.heap.size w w':=by
 obtain⟨i0,hi,hz0,hz1,hz2⟩:=info_parts Tryz.info81
 have hm:=h.1
 obtain⟨rfl,a,cap,rfl⟩ | ⟨b,off,cap,rfl,h0,g4,g5⟩:=h.cases
 ·go_enter Tryz.func20,Tryz.ntmps20
  go_wp2_with (at_make;refine wpList_make_full _ rfl _ _ 39 rfl w.heap.size 81 i0 _ 2 Tryz.underlying39 hi hz0 hz1 .i64 .i64 _ _ 0 rfl rfl rfl rfl ?c1 ?c2 ?c3 ?_)
  case c1=>rw [hz2];omega
  case c2=>exact Nat.zero_le _
  case c3=>exact Nat.le_refl _
  intro w1 hown hgrow
  have hB1:=Below.ofGrown hgrow
  have hH:=(Half.start (α:=Int×Int) (l:=[]) (R:=OwIdC) (w.heap.size+1) (zbk hown 0 (Nat.zero_le _))).whole rfl (by omega)
  have HH:=hide hH
  clear hown hgrow hH
  go_wp2_with fail
  refine wp_loop_rounds 1 ?_
  rw [rounds_succ]
  go_wp2_with fail
  go_ret
  obtain⟨F,hF,hnd,hr⟩:=zaa HH
  exact⟨_,_,rfl,F,hF,hnd,hr,hB1⟩
 go_enter Tryz.func20,Tryz.ntmps20
 go_wp2_with (at_make;refine wpList_make_full _ rfl _ _ 39 rfl w.heap.size 81 i0 _ 2 Tryz.underlying39 hi hz0 hz1 .i64 .i64 _ _ l.length rfl rfl rfl rfl ?c1 ?c2 ?c3 ?_)
 case c1=>rw [hz2];omega
 case c2=>exact hm
 case c3=>exact Nat.le_refl _
 intro w1 hown hgrow
 have hB1:=Below.ofGrown hgrow
 have hH:=Half.start (α:=Int×Int) (l:=l) (R:=OwIdC) (w.heap.size+1) (zbk hown 0 (Nat.zero_le _))
 have hlt1:=(hown.lt w.heap.size rfl).2
 clear hown hgrow
 go_wp2_with fail
 go_loopw [4] (fun i wr=>∃k:Nat,k≤l.length∧i=.int .i64 k∧Half wr 81 2 w.heap.size l.length l OwIdC (w.heap.size+1) k∧Below w.heap.size w wr∧w.heap.size+1≤wr.heap.size) (fun i _=>l.length-(intOf i).toNat)
 case atStart=>exact⟨0,Nat.zero_le _,rfl,hH,hB1,by omega⟩
 case round=>
  obtain⟨k,hk,rfl,hr,hB,hsz⟩:=hrel
  clear hH hB1 hlt1
  by_cases hlt:k<l.length
  ·obtain⟨c0,c1⟩:=g5 k hlt
   have e0:=(hB.cell (p:=⟨b,off+k*2,none⟩) g4).trans c0
   have e1:=(hB.cell (p:=⟨b,off+k*2+1,none⟩) g4).trans c1
   have hlt':(k:Int)<(l.length:Int):=by omega
   have HT:=hide (zfe wr l[k].1 l[k].2)
   have HR0:=hide hr
   have HRW:=hide (fun (w2:World) (hB2:Below wr.heap.size wr w2)=>(show ∃xs:List Value,w2.ownsRow 0 81 2 (.slice (some ⟨w.heap.size,0,none⟩) l.length l.length) l.length xs by
    obtain⟨_,_,xs,_,_,_,h4,_⟩:=hr.laid
    exact⟨xs,zah h4 (Frm.ofBelow hB2 []) (fun _ _=>by simp)⟩))
   generalize hoo:l[k]=o at *
   have HOO:=hide hoo.symm
   clear g5 hoo hr c0 c1
   go_wp2_with fail
   clear e0 e1
   refine (zaa HT).mono ?_
   rintro e w2 ⟨rfl,hB2⟩
   obtain⟨xs,hx⟩:=zaa HRW w2 hB2
   have hxl:=hx.1
   have hcell:∀j,j<2→∃y,w2.cell? ⟨w.heap.size,k*2+j,none⟩=some y:=fun j hj=>⟨xs[k*2+j]'(by omega),by rw [hx.cellAt (k*2+j) (by omega),List.getElem?_eq_getElem (by omega)]⟩
   obtain⟨y0,q0⟩:=hcell 0 (by omega)
   obtain⟨y1,q1⟩:=hcell 1 (by omega)
   rw [Nat.add_zero]at q0
   have f0:=hx.frozenAt (k*2)
   have f1:=hx.frozenAt (k*2+1)
   obtain⟨W,hW⟩:∃W,W=((w2.setCell ⟨w.heap.size,k*2,none⟩ (.int .i64 o.1)).setCell ⟨w.heap.size,k*2+1,none⟩ (.int .i64 o.2)):=⟨_,rfl⟩
   have hf:Frm w2 W [w.heap.size]:=by rw [hW];exact (zab w2 _ _ _).trans (zab _ _ _ _)
   have hstep:Half W 81 2 w.heap.size l.length l OwIdC (w.heap.size+1) (k+1):=by
    refine (zaa HR0).step hlt (by omega) hsz hB2 [.int .i64 o.1,.int .i64 o.2] [] rfl ?_ List.nodup_nil (Rng.nil _ _) (fun C x G h _=>h) hf ?_
    ·rw [←zaa HOO];exact⟨rfl,rfl⟩
    ·intro zs hz
     have hzl:=hz.1
     have t0:=(hz.stored (k*2) (.int .i64 o.1)).1
     have t1:=(t0.stored (k*2+1) (.int .i64 o.2)).1
     rw [hW]
     exact⟨_,t1,zkk zs (k*2) _ _ (by omega)⟩
   have HB0:=hB.trans ((hB2.mono hB.size).trans (hf.below (by have:=hB2.size;have:=hB.size;omega) (fun g hg=>by simp at hg;omega)))
   have hs2:w.heap.size+1≤W.heap.size:=by have:=hf.size;have:=hB2.size;omega
   subst hW
   have HS:=hide hstep
   have HB:=hide HB0
   have HS2:=hide hs2
   clear hstep hf hx hB2 hB HB0 hs2 hcell HT HR0 HRW HOO
   go_wp2_with fail
   go_roundw
   case rel=>exact⟨k+1,by omega,by go_num,zaa HS,zaa HB,zaa HS2⟩
   case measure=>simp [intOf];omega
  ·have e:k=l.length:=by omega
   subst e
   have HW:=hide (hr.whole rfl (by omega))
   clear hr g5
   go_wp2_with fail
   go_ret
   obtain⟨F,hF,hnd,hrg⟩:=zaa HW
   exact⟨_,_,rfl,F,hF,hnd,hrg,hB⟩
set_option maxHeartbeats 12800000 in
theorem zon (n:Nat) (w:World) (a b c d e vo vu:Value) (r:RepV n) (h:RdRep n w a b c d e vo vu r) (hs1:szT (n+1) r.first≤2097152) (hs2:szOs r.ops≤2097152) (hs3:r.und.length≤2097152) :
  Calls Tryz.prog 6 #[zaO r a b c d e vo vu] w fun e w'=>∃(kd:Int) (a1:Option Addr) (n1 c1:Nat) (a2:Option Addr) (n2 c2:Nat) (a3:Option Addr) (n3 c3:Nat) (a4:Option Addr) (n4 c4:Nat) (a5:Option Addr) (c5:Nat) (a6:Option Addr) (c6:Nat),
   e=.returned (.agg #[.int .i64 r.id,.int .i64 r.clock,.int .i64 kd,.slice a1 n1 c1,.slice a2 n2 c2,.slice a3 n3 c3,.slice a4 n4 c4,.slice a5 r.ops.length c5,.slice a6 r.und.length c6,.bool r.lost])∧∃F,OwRep n w' (.int .i64 kd) (.slice a1 n1 c1) (.slice a2 n2 c2) (.slice a3 n3 c3) (.slice a4 n4 c4) (.slice a5 r.ops.length c5) (.slice a6 r.und.length c6) r F∧F.Nodup∧Rng F w.heap.size w'.heap.size∧Below w.heap.size w w':=by
 obtain⟨z,ab,nb,cb,ac,nc,cc,ad,nd,cd,ae,ne,ce,rfl,rfl,rfl,rfl,rfl⟩:=rd5 h.1
 obtain⟨ao,co,rfl,_,_⟩:=Elems.shape h.2.1
 obtain⟨au,cu,rfl,_,_⟩:=Elems.shape h.2.2
 obtain⟨h1,h2,h3⟩:=h
 have H1:=hide (fun W (hW:Below w.heap.size w W)=>zmr (n+1) W _ _ _ _ _ r.first (h1.keep hW) hs1)
 have H2:=hide (fun W (hW:Below w.heap.size w W)=>zoj W _ r.ops (h2.keep hW) hs2)
 have H3:=hide (fun W (hW:Below w.heap.size w W)=>zoD W _ r.und (h3.keep hW) hs3)
 clear h1 h2 h3
 unfold zaO
 go_enter Tryz.func6,Tryz.ntmps6
 go_wp2_with fail
 obtain⟨l0,l1,l2,hA,hWs⟩:=zqD w #[.int .i64 r.id,.int .i64 r.clock,.int .i64 z,.slice ab nb cb,.slice ac nc cc,.slice ad nd cd,.slice ae ne ce,.slice ao r.ops.length co,.slice au r.und.length cu,.bool r.lost] #[.int .i64 0,.int .i64 0,.int .i64 0,.slice none 0 0,.slice none 0 0,.slice none 0 0,.slice none 0 0,.slice none 0 0,.slice none 0 0,.bool false] #[.int .i64 r.id,.int .i64 r.clock,.int .i64 0,.slice none 0 0,.slice none 0 0,.slice none 0 0,.slice none 0 0,.slice none 0 0,.slice none 0 0,.bool false] 30 41
 generalize hW:(((w.alloc (.cells #[.int .i64 r.id,.int .i64 r.clock,.int .i64 z,.slice ab nb cb,.slice ac nc cc,.slice ad nd cd,.slice ae ne ce,.slice ao r.ops.length co,.slice au r.und.length cu,.bool r.lost] 30)).alloc (.cells #[.int .i64 0,.int .i64 0,.int .i64 0,.slice none 0 0,.slice none 0 0,.slice none 0 0,.slice none 0 0,.slice none 0 0,.slice none 0 0,.bool false] 41)).alloc (.cells #[.int .i64 r.id,.int .i64 r.clock,.int .i64 0,.slice none 0 0,.slice none 0 0,.slice none 0 0,.slice none 0 0,.slice none 0 0,.slice none 0 0,.bool false] 41))=W at *
 have HWs:=hide hWs
 clear hW hWs
 refine (zaa H1 W hA).mono ?_
 rintro e w1 ⟨kd,a1,n1,c1,a2,n2,c2,a3,n3,c3,a4,n4,c4,rfl,F1,ho1,nd1,r1,hB1⟩
 have hA1:=zad hA hB1
 replace l0:=l0.all hB1
 replace l1:=l1.all hB1
 replace l2:=l2.all hB1
 have s1:=hB1.size
 have p:=l0.cell 7
 have q2:=l2.cell 2
 have f2:=l2.frozen 2
 have q3:=l2.cell 3
 have f3:=l2.frozen 3
 have q4:=l2.cell 4
 have f4:=l2.frozen 4
 have q5:=l2.cell 5
 have f5:=l2.frozen 5
 have q6:=l2.cell 6
 have f6:=l2.frozen 6
 simp at p q2 q3 q4 q5 q6
 have f1:Frm w1 (((((w1.setCell ⟨w.heap.size+1+1,2,none⟩ (.int .i64 kd)).setCell ⟨w.heap.size+1+1,3,none⟩ (.slice a1 n1 c1)).setCell ⟨w.heap.size+1+1,4,none⟩ (.slice a2 n2 c2)).setCell ⟨w.heap.size+1+1,5,none⟩ (.slice a3 n3 c3)).setCell ⟨w.heap.size+1+1,6,none⟩ (.slice a4 n4 c4)) [w.heap.size+1+1]:=(((((zab w1 (w.heap.size+1+1) 2 (.int .i64 kd)).trans (zab _ (w.heap.size+1+1) 3 (.slice a1 n1 c1))).trans (zab _ (w.heap.size+1+1) 4 (.slice a2 n2 c2))).trans (zab _ (w.heap.size+1+1) 5 (.slice a3 n3 c3))).trans (zab _ (w.heap.size+1+1) 6 (.slice a4 n4 c4)))
 have m2:=(((((l2.set 2 (.int .i64 kd)).set 3 (.slice a1 n1 c1)).set 4 (.slice a2 n2 c2)).set 5 (.slice a3 n3 c3)).set 6 (.slice a4 n4 c4))
 simp only [List.setIfInBounds_toArray,List.set_cons_zero,List.set_cons_succ]at m2
 have hsz:=zaa HWs
 have M:=hide (And.intro (And.intro (l0.frm f1 (by simp only [List.mem_singleton];omega)) (And.intro (l1.frm f1 (by simp only [List.mem_singleton];omega)) m2)) (And.intro (ho1.frm f1 (fun g hg=>by have:=r1 g hg;simp;omega)) (And.intro (hA1.trans (f1.below hA1.size (fun g hg=>by simp at hg;omega))) f1.size)))
 clear l0 l1 l2 ho1 hA hA1 hB1 m2 f1
 go_wp2_with fail
 clear p q2 q3 q4 q5 q6 f2 f3 f4 f5 f6
 obtain⟨⟨l0,l1,l2⟩,ho1,hA1,s1'⟩:=zaa M
 clear M
 generalize (((((w1.setCell ⟨w.heap.size+1+1,2,none⟩ (.int .i64 kd)).setCell ⟨w.heap.size+1+1,3,none⟩ (.slice a1 n1 c1)).setCell ⟨w.heap.size+1+1,4,none⟩ (.slice a2 n2 c2)).setCell ⟨w.heap.size+1+1,5,none⟩ (.slice a3 n3 c3)).setCell ⟨w.heap.size+1+1,6,none⟩ (.slice a4 n4 c4))=w1' at *
 refine (zaa H2 w1' hA1).mono ?_
 rintro e w2 ⟨a5,c5,rfl,F2,ho2,nd2,r2,hB2⟩
 have hA2:=zad hA1 hB2
 replace l0:=l0.all hB2
 replace l1:=l1.all hB2
 replace l2:=l2.all hB2
 replace ho1:=ho1.keep hB2
 have s2:=hB2.size
 have p:=l0.cell 8
 have q:=l2.cell 7
 have f:=l2.frozen 7
 simp at p q
 have f2:=zab w2 (w.heap.size+1+1) 7 (.slice a5 r.ops.length c5)
 have m2:=l2.set 7 (.slice a5 r.ops.length c5)
 simp only [List.setIfInBounds_toArray,List.set_cons_zero,List.set_cons_succ]at m2
 have M:=hide (And.intro (And.intro (l0.frm f2 (by simp only [List.mem_singleton];omega)) (And.intro (l1.frm f2 (by simp only [List.mem_singleton];omega)) m2)) (And.intro (And.intro (ho1.frm f2 (fun g hg=>by have:=r1 g hg;simp;omega)) (OwOps.frm ho2 f2 (fun g hg=>by have:=r2 g hg;simp;omega))) (And.intro (hA2.trans (f2.below hA2.size (fun g hg=>by simp at hg;omega))) f2.size)))
 clear l0 l1 l2 ho1 ho2 hA1 hA2 hB2 m2 f2
 go_wp2_with fail
 clear p q f
 obtain⟨⟨l0,l1,l2⟩,⟨ho1,ho2⟩,hA2,s2'⟩:=zaa M
 clear M
 generalize (w2.setCell ⟨w.heap.size+1+1,7,none⟩ (.slice a5 r.ops.length c5))=w2' at *
 refine (zaa H3 w2' hA2).mono ?_
 rintro e w3 ⟨a6,c6,rfl,F3,ho3,nd3,r3,hB3⟩
 have hA3:=zad hA2 hB3
 replace l0:=l0.all hB3
 replace l1:=l1.all hB3
 replace l2:=l2.all hB3
 replace ho1:=ho1.keep hB3
 replace ho2:=OwOps.frm ho2 (Frm.ofBelow hB3 []) (fun _ _=>by simp)
 have s3:=hB3.size
 have p:=l0.cell 9
 have g0:=l1.cell 0
 have b0:=l1.frozen 0
 have d0:=l2.cell 0
 have g1:=l1.cell 1
 have b1:=l1.frozen 1
 have d1:=l2.cell 1
 have g2:=l1.cell 2
 have b2:=l1.frozen 2
 have d2:=l2.cell 2
 have g3:=l1.cell 3
 have b3:=l1.frozen 3
 have d3:=l2.cell 3
 have g4:=l1.cell 4
 have b4:=l1.frozen 4
 have d4:=l2.cell 4
 have g5:=l1.cell 5
 have b5:=l1.frozen 5
 have d5:=l2.cell 5
 have g6:=l1.cell 6
 have b6:=l1.frozen 6
 have d6:=l2.cell 6
 have g7:=l1.cell 7
 have b7:=l1.frozen 7
 have d7:=l2.cell 7
 have g8:=l1.cell 8
 have b8:=l1.frozen 8
 have d8:=l2.cell 8
 have g9:=l1.cell 9
 have b9:=l1.frozen 9
 have d9:=l2.cell 9
 have i8:=l2.frozen 8
 have i9:=l2.frozen 9
 simp at p g0 d0 g1 d1 g2 d2 g3 d3 g4 d4 g5 d5 g6 d6 g7 d7 g8 d8 g9 d9
 obtain⟨X,hX⟩:∃X,X=((((((((((((w3.setCell ⟨w.heap.size+1+1,8,none⟩ (.slice a6 r.und.length c6)).setCell ⟨w.heap.size+1+1,9,none⟩ (.bool r.lost)).setCell ⟨w.heap.size+1,0,none⟩ (.int .i64 r.id)).setCell ⟨w.heap.size+1,1,none⟩ (.int .i64 r.clock)).setCell ⟨w.heap.size+1,2,none⟩ (.int .i64 kd)).setCell ⟨w.heap.size+1,3,none⟩ (.slice a1 n1 c1)).setCell ⟨w.heap.size+1,4,none⟩ (.slice a2 n2 c2)).setCell ⟨w.heap.size+1,5,none⟩ (.slice a3 n3 c3)).setCell ⟨w.heap.size+1,6,none⟩ (.slice a4 n4 c4)).setCell ⟨w.heap.size+1,7,none⟩ (.slice a5 r.ops.length c5)).setCell ⟨w.heap.size+1,8,none⟩ (.slice a6 r.und.length c6)).setCell ⟨w.heap.size+1,9,none⟩ (.bool r.lost)):=⟨_,rfl⟩
 have hf:Frm w3 X [w.heap.size+1+1,w.heap.size+1]:=by
  rw [hX]
  exact (((((((((((((zab w3 _ _ _).mono (by simp)).trans ((zab _ _ _ _).mono (by simp))).trans ((zab _ _ _ _).mono (by simp))).trans ((zab _ _ _ _).mono (by simp))).trans ((zab _ _ _ _).mono (by simp))).trans ((zab _ _ _ _).mono (by simp))).trans ((zab _ _ _ _).mono (by simp))).trans ((zab _ _ _ _).mono (by simp))).trans ((zab _ _ _ _).mono (by simp))).trans ((zab _ _ _ _).mono (by simp))).trans ((zab _ _ _ _).mono (by simp))).trans ((zab _ _ _ _).mono (by simp)))
 have fin:OwRep n X (.int .i64 kd) (.slice a1 n1 c1) (.slice a2 n2 c2) (.slice a3 n3 c3) (.slice a4 n4 c4) (.slice a5 r.ops.length c5) (.slice a6 r.und.length c6) r (F1++F2++F3):=
  ⟨F1,F2,F3,ho1.frm hf (fun g hg=>by have:=r1 g hg;simp;omega),OwOps.frm ho2 hf (fun g hg=>by have:=r2 g hg;simp;omega),OwIds.frm ho3 hf (fun g hg=>by have:=r3 g hg;simp;omega),rfl⟩
 have nd:(F1++F2++F3).Nodup:=zbS (zbS nd1 nd2 (r1.mono (Nat.le_refl _) (by omega:w1.heap.size≤w1'.heap.size)) r2) nd3 ((r1.mono (Nat.le_refl _) (by omega:w1.heap.size≤w2'.heap.size)).app (r2.mono (by omega) (by omega))) r3
 have rg:Rng (F1++F2++F3) w.heap.size X.heap.size:=by
  have:=hf.size
  exact ((r1.mono (by omega) (by omega)).app (r2.mono (by omega) (by omega))).app (r3.mono (by omega) (by omega))
 have bel:=hA3.trans (hf.below hA3.size (fun g hg=>by simp at hg;omega))
 subst hX
 have HP:=hide (And.intro fin (And.intro nd (And.intro rg bel)))
 clear fin nd rg bel hf l0 l1 l2 ho1 ho2 ho3 hA2 hA3 hB3 r1 r2 r3 nd1 nd2 nd3 hsz
 go_wp2_with fail
 obtain⟨fin,nd,rg,bel⟩:=zaa HP
 exact bodyPost_ret (v:=.agg #[.int .i64 r.id,.int .i64 r.clock,.int .i64 kd,.slice a1 n1 c1,.slice a2 n2 c2,.slice a3 n3 c3,.slice a4 n4 c4,.slice a5 r.ops.length c5,.slice a6 r.und.length c6,.bool r.lost]) (by simp [results,Tryz.results6,go_sem,g0,g1,g2,g3,g4,g5,g6,g7,g8,g9]) rfl ⟨kd,a1,_,c1,a2,_,c2,a3,_,c3,a4,_,c4,a5,c5,a6,c6,rfl,_,fin,nd,rg,bel⟩
theorem zkT {a b:Int} (h:a=b):Ending.returned (.int .i64 a)=.returned (.int .i64 b):=by rw [h]
set_option maxHeartbeats 1600000 in
theorem znG (w:World) (v:Value) (l:List OpV) (left:Int) (h:RdOps w v l) (h0:0≤left) (h1:left≤1000000000) :
  Calls Tryz.prog 14 #[v,.int .i64 left] w fun e w'=>e=.returned (.int .i64 (rest (szOs l) left))∧Below w.heap.size w w':=by
 have hm:=h.1
 unfold maxLen at hm
 by_cases h2:(l.length:Int)≤left
 ·have hd:¬ left-(l.length:Int)<0:=by omega
  obtain⟨_,⟨rfl,rfl⟩ | ⟨x,cap,rfl,hc,rfl⟩ | ⟨b,off,cap,rfl,g1,g2,g3,g4,g5⟩⟩:=h
  ·go_enter Tryz.func14,Tryz.ntmps14
   go_wp2_with fail
   refine wp_loop_rounds 1 ?_
   rw [rounds_succ]
   go_wp2_with fail
   go_ret
   exact⟨zkT (by rw [zaB (by simpa [szOs]using h0)];simp [szOs]),Below.refl _ _⟩
  ·go_enter Tryz.func14,Tryz.ntmps14
   go_wp2_with fail
   refine wp_loop_rounds 1 ?_
   rw [rounds_succ]
   go_wp2_with fail
   go_ret
   exact⟨zkT (by rw [zaB (by simpa [szOs]using h0)];simp [szOs]),Below.refl _ _⟩
  ·have HE:=hide (zcr (b:=(l.map szO).sum) h2)
   go_enter Tryz.func14,Tryz.ntmps14
   go_wp2_with fail
   go_loopw [1,5] (fun q i wr=>∃k:Nat,k≤l.length∧i=.int .i64 k∧((sumO l k:Nat):Int)≤left-(l.length:Int)∧q=.int .i64 (left-(l.length:Int)-(sumO l k:Nat))∧Below w.heap.size w wr) (fun _ i _=>l.length-(intOf i).toNat)
   case atStart=>exact⟨0,Nat.zero_le _,rfl,by simp [sumO];omega,by simp [sumO],Below.refl _ _⟩
   case round=>
    obtain⟨k,hk,rfl,hs,rfl,hB⟩:=hrel
    by_cases hlt:k<l.length
    ·obtain⟨a1,c1,a2,c2,a3,c3,e0,e1,e2,e3,e4,e5,e6,e7,e8,e9,e10,e11,hr⟩:=zcv hB g4 (g5 k hlt)
     have hlt':(k:Int)<(l.length:Int):=by omega
     have hst:=ziM l k hlt
     have hle:=zmh l (k+1)
     rw [hst]at hle
     have HR:=hide (zpx wr _ l[k] (left-(l.length:Int)-(sumO l k:Nat)) hr (by omega) (by omega))
     change Hid (Calls _ _ _ _ fun e w'=>e=.returned (.int .i64 (zdo (szO l[k]) _))∧_)at HR
     unfold zaU at HR
     generalize l[k]=o at *
     generalize o.key.length=nK at *
     generalize o.name.length=nN at *
     generalize o.text.length=nT at *
     generalize hq:sumO l k=q at *
     have HQ:=hide hq
     have HST:=hide hst
     clear g5 hq hst hr
     go_wp2_with fail
     refine (zaa HR).mono ?_
     rintro e w2 ⟨rfl,hB2⟩
     have hB3:=hB.trans (hB2.mono hB.size)
     clear e0 e1 e2 e3 e4 e5 e6 e7 e8 e9 e10 e11 HR
     generalize szO o=m at *
     by_cases h3:(m:Int)≤left-(l.length:Int)-(q:Int)
     ·rw [zcM h3]
      have hd3:¬ left-(l.length:Int)-(q:Int)-(m:Int)<0:=by omega
      go_wp2_with fail
      go_roundw
      case rel=>exact⟨k+1,by omega,by go_num,by rw [zaa HST];omega,by rw [zaa HST];exact congrArg (Value.int .i64) (by omega),hB3⟩
      case measure=>simp [intOf];omega
     ·rw [zbM h3]
      have HF:=hide (show rest (szOs l) left = -1 by unfold szOs;rw [zaa HE,zaA (by omega)])
      go_wp2_with fail
      go_ret
      exact⟨by rw [zaa HF];rfl,hB3⟩
    ·have e:k=l.length:=by omega
     subst e
     rw [zpQ]at hs ⊢
     have HF:=hide (show rest (szOs l) left=left-(l.length:Int)-((l.map szO).sum:Nat) by unfold szOs;rw [zaa HE,zaB hs])
     go_wp2_with fail
     go_ret
     exact⟨by rw [zaa HF];rfl,hB⟩
 ·have HF:=hide (show rest (szOs l) left = -1 from zcO h2)
  obtain⟨a,cap,rfl,_,_⟩:=Elems.shape h
  have hd:left-(l.length:Int)<0:=by omega
  go_enter Tryz.func14,Tryz.ntmps14
  go_wp2_with fail
  go_ret
  exact⟨by rw [zaa HF];rfl,Below.refl _ _⟩
theorem znI (w:World) (v:Value) (l:List (Int×Int)) (left:Int) (h:RdIds w v l) (h0:0≤left) (h1:left≤1000000000) :
  Calls Tryz.prog 15 #[v,.int .i64 left] w fun e w'=>e=.returned (.int .i64 (rest l.length left))∧w'=w:=by
 have hm:=h.1
 unfold maxLen at hm
 obtain⟨a,cap,rfl,_,_⟩:=Elems.shape h
 by_cases h2:(l.length:Int)≤left
 ·have hd:¬ left-(l.length:Int)<0:=by omega
  rw [zaB h2]
  go_enter Tryz.func15,Tryz.ntmps15
  go_wp2_with fail
  go_ret
  exact⟨rfl,rfl⟩
 ·have hd:left-(l.length:Int)<0:=by omega
  rw [zaA h2]
  go_enter Tryz.func15,Tryz.ntmps15
  go_wp2_with fail
  go_ret
  exact⟨rfl,rfl⟩
def szR {n:Nat} (r:RepV n):Nat:=szT (n+1) r.first+szOs r.ops+r.und.length
set_option maxHeartbeats 6400000 in
theorem znU (n:Nat) (w:World) (a b c d e vo vu:Value) (r:RepV n) (left:Int) (h:RdRep n w a b c d e vo vu r) (h0:0≤left) (h1:left≤1000000000) :
  Calls Tryz.prog 4 #[zaO r a b c d e vo vu,.int .i64 left] w fun e w'=>e=.returned (.int .i64 (rest (szR r) left))∧Below w.heap.size w w':=by
 obtain⟨z,ab,nb,cb,ac,nc,cc,ad,nd,cd,ae,ne,ce,rfl,rfl,rfl,rfl,rfl⟩:=rd5 h.1
 obtain⟨ao,co,rfl,_,_⟩:=Elems.shape h.2.1
 obtain⟨au,cu,rfl,_,_⟩:=Elems.shape h.2.2
 have H1:=hide (fun W (hW:Below w.heap.size w W)=>zni (n+1) W _ _ _ _ _ r.first left (h.1.keep hW) h0 h1)
 have H2:=hide (fun W (hW:Below w.heap.size w W) left h0 h1=>znG W _ r.ops left (h.2.1.keep hW) h0 h1)
 have H3:=hide (fun W (hW:Below w.heap.size w W) left h0 h1=>znI W _ r.und left (h.2.2.keep hW) h0 h1)
 clear h
 unfold zaO
 have hszR:szR r=szT (n+1) r.first+szOs r.ops+r.und.length:=rfl
 have HR:=hide hszR
 generalize hq:szR r=q at *
 clear hq hszR
 generalize szT (n+1) r.first=m1 at *
 generalize hm2:szOs r.ops=m2 at *
 clear hm2
 generalize r.ops.length=no at *
 generalize r.und.length=nu at *
 have hA:=(Below.refl w.heap.size w).alloc (Nat.le_refl _) (.cells #[.int .i64 r.id,.int .i64 r.clock,.int .i64 z,.slice ab nb cb,.slice ac nc cc,.slice ad nd cd,.slice ae ne ce,.slice ao no co,.slice au nu cu,.bool r.lost] 30)
 have l1:=Loc.made w #[.int .i64 r.id,.int .i64 r.clock,.int .i64 z,.slice ab nb cb,.slice ac nc cc,.slice ad nd cd,.slice ae ne ce,.slice ao no co,.slice au nu cu,.bool r.lost] 30
 go_enter Tryz.func4,Tryz.ntmps4
 go_wp2_with fail
 generalize (w.alloc (.cells #[.int .i64 r.id,.int .i64 r.clock,.int .i64 z,.slice ab nb cb,.slice ac nc cc,.slice ad nd cd,.slice ae ne ce,.slice ao no co,.slice au nu cu,.bool r.lost] 30))=wa at *
 refine (zaa H1 _ hA).mono ?_
 rintro e w1 ⟨rfl,hB⟩
 have hA1:=zad hA hB
 replace l1:=l1.all hB
 clear hA hB H1
 obtain⟨x0,x1,x2,x3,x4,x5,x6,x7,x8,x9⟩:=l1.ten
 by_cases q1:(m1:Int)≤left
 case neg=>
  have HF:=hide (show rest q left = -1 from zaA (by rw [zaa HR];omega))
  rw [zaA q1]
  go_wp2_with fail
  go_ret
  exact⟨by rw [zaa HF];rfl,hA1⟩
 rw [zaB q1]
 have d1:¬ left-(m1:Int)<0:=by omega
 go_wp2_with fail
 clear x0 x1 x2 x3 x4 x5 x6 x7 x8 x9
 refine (zaa H2 _ hA1 _ (by omega) (by omega)).mono ?_
 rintro e w2 ⟨rfl,hB⟩
 have hA2:=zad hA1 hB
 replace l1:=l1.all hB
 clear hA1 hB H2
 obtain⟨x0,x1,x2,x3,x4,x5,x6,x7,x8,x9⟩:=l1.ten
 by_cases q2:(m2:Int)≤left-(m1:Int)
 case neg=>
  have HF:=hide (show rest q left = -1 from zaA (by rw [zaa HR];omega))
  rw [zaA q2]
  go_wp2_with fail
  go_ret
  exact⟨by rw [zaa HF];rfl,hA2⟩
 rw [zaB q2]
 have d2:¬ left-(m1:Int)-(m2:Int)<0:=by omega
 go_wp2_with fail
 clear x0 x1 x2 x3 x4 x5 x6 x7 x8 x9
 refine (zaa H3 _ hA2 _ (by omega) (by omega)).mono ?_
 rintro e w2 ⟨rfl,rfl⟩
 by_cases q3:(nu:Int)≤left-(m1:Int)-(m2:Int)
 case neg=>
  have HF:=hide (show rest q left = -1 from zaA (by rw [zaa HR];omega))
  rw [zaA q3]
  go_wp2_with fail
  go_ret
  exact⟨by rw [zaa HF];rfl,hA2⟩
 rw [zaB q3]
 have d3:¬ left-(m1:Int)-(m2:Int)-(nu:Int)<0:=by omega
 have HF:=hide (show rest q left=left-(m1:Int)-(m2:Int)-(nu:Int) by rw [zaB (by rw [zaa HR];omega),zaa HR];omega)
 go_wp2_with fail
 go_ret
 exact⟨by rw [zaa HF];rfl,hA2⟩
end Go.Proofs.YtlpnibbdmkeklaaGreatDoor
