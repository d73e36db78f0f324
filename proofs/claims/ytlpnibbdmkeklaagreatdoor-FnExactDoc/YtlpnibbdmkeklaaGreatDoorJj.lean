/- Own texts joined: L5nd, TrI, FqG, FqW, TpI, KeyI. -/
import Derived.Test.YtlpnibbdmkeklaaGreatDoorJa
import Derived.Test.YtlpnibbdmkeklaaGreatDoorJb
import Derived.Test.YtlpnibbdmkeklaaGreatDoorJc
import Derived.Test.YtlpnibbdmkeklaaGreatDoorJd
import Derived.Test.YtlpnibbdmkeklaaGreatDoorJe
import Derived.Test.YtlpnibbdmkeklaaGreatDoorJf
import Derived.Test.YtlpnibbdmkeklaaGreatDoorJg
import Derived.Test.YtlpnibbdmkeklaaGreatDoorJh
import Derived.Test.YtlpnibbdmkeklaaGreatDoorJi
import Derived.Deep.RegionLaw
import Derived.Deep.RegionHeld3
import Derived.Deep.QuietTactic
import Derived.BigQuiet
import Derived.WalkMore
import Derived.Test.YtlpnibbdmkeklaaGreatDoorChecked
namespace Go.Proofs.YtlpnibbdmkeklaaGreatDoor
open Go.RowKit Go.Shelf
set_option linter.unusedVariables false
set_option maxRecDepth 100000
theorem zhd {w w':World} {b off i:Nat} {p:PlV} {k n t q:Option Addr} {ck cn ct cq:Nat} (hb:Below w.heap.size w w') (hbl:b<w.heap.size) (h:∃C:List Value,C.length=9∧(∀j,j<9→w.cell? ⟨b,off+i*9+j,none⟩=C[j]?)∧RdPlC w C p)
  (e4:w'.cell? ⟨b,off+i*9+4,none⟩=some (.slice k p.key.length ck)) (e6:w'.cell? ⟨b,off+i*9+6,none⟩=some (.slice n p.name.length cn)) (e7:w'.cell? ⟨b,off+i*9+7,none⟩=some (.slice t p.text.length ct)) (e8:w'.cell? ⟨b,off+i*9+8,none⟩=some (.slice q p.attrs.length cq)):Byt w (.slice n p.name.length cn) p.name∧Byt w (.slice t p.text.length ct) p.text∧RdAttrs w (.slice q p.attrs.length cq) p.attrs:=by
 obtain⟨C,_,hc,K,N,X,A,rfl,h1,h2,h3,h4⟩:=h
 have f6:=(hb.cell (p:=⟨b,off+i*9+6,none⟩) hbl).trans (hc 6 (by omega))
 have f7:=(hb.cell (p:=⟨b,off+i*9+7,none⟩) hbl).trans (hc 7 (by omega))
 have f8:=(hb.cell (p:=⟨b,off+i*9+8,none⟩) hbl).trans (hc 8 (by omega))
 rw [e6]at f6
 rw [e7]at f7
 rw [e8]at f8
 injection f6 with f6
 injection f7 with f7
 injection f8 with f8
 rw [f6,f7,f8]
 exact⟨h2,h3,h4⟩
theorem zkc {l:List PlV} {k m:Nat} {p:PlV} (hp:l[k]? = some p) {left lf:Int} {acc:List (Tr (m+1))} (he:prjK (prj l m) (zao l p.id) [] (left-1)=(acc,lf)):(prj l (m+1) k left).1=(⟨p.kind,p.name,p.text,p.attrs,acc⟩:Nd (Tr (m+1)))∧(prj l (m+1) k left).2=lf:=
 ⟨(congrArg Prod.fst (zdj hp left)).trans (congrArg (fun x:List (Tr (m+1))×Int=>((⟨p.kind,p.name,p.text,p.attrs,x.1⟩:Nd (Tr (m+1))):Tr (m+2))) he),(congrArg Prod.snd (zdj hp left)).trans (congrArg Prod.snd he)⟩
def zdH (m:Nat):Prop:=∀(w0 w:World) (sb:Nat) (a:Option Addr) (c:Nat) (l:List PlV) (F:List Nat) (k:Nat) (left deep:Int) (lb:Nat),StR w0 sb a c l F→Below w0.heap.size w0 w→w0.heap.size≤lb→Loc w lb #[.int .i64 left] 3→(l.map PlV.id).Nodup→l.length≤100000→(∀p∈l,-9223372036854775808≤p.kind∧p.kind≤9223372036854775807)→k<l.length→0<left→left≤1000→deep+(m:Int)=20→0≤deep→
  Calls Tryz.prog 80 #[.pointer (some ⟨sb,0,none⟩),.int .i64 (k:Int),.int .i64 deep,.pointer (some ⟨lb,0,none⟩)] w fun e w'=>∃(kd:Int) (a1:Option Addr) (n1 c1:Nat) (a2:Option Addr) (n2 c2:Nat) (a3:Option Addr) (n3 c3:Nat) (a4:Option Addr) (n4 c4:Nat),e=.returned (.agg #[.int .i64 kd,.slice a1 n1 c1,.slice a2 n2 c2,.slice a3 n3 c3,.slice a4 n4 c4])∧∃G,NodeQ w0 (m+1) w' [.int .i64 kd,.slice a1 n1 c1,.slice a2 n2 c2,.slice a3 n3 c3,.slice a4 n4 c4] (prj l m k left).1 G∧G.Nodup∧Rng G w.heap.size w'.heap.size∧Loc w' lb #[.int .i64 (prj l m k left).2] 3∧Frm w w' [lb]
set_option maxHeartbeats 12800000 in
theorem zly:zdH 0:=by
 intro w0 w sb a c l F k left deep lb h0 hb0 hlb hll hu hlen hkinds hk hl0 hl1 hdeep hdp0
 refine zaf ?_
 intro Q HQ
 obtain⟨i0,hi0,hz0,hz1,hz2⟩:=info_parts Tryz.info37
 have hs0:=h0.keep hb0
 obtain⟨h0_,_⟩ | ⟨b,off,cap,hv,_,hbl,hel⟩:=(PlsR.rd h0.2).cases
 ·rw [h0_]at hk;simp at hk
 cases hv
 obtain⟨k0,ck0,n0,cn0,t0,ct0,q0,cq0,e0,e1,e2,e3,e4,e5,e6,e7,e8,hrd⟩:=zkH hb0 hbl (hel k hk)
 have hp:l[k]? = some l[k]:=by simp [hk]
 have hK:=hkinds l[k] (List.getElem_mem _)
 have hslen:sb<w.heap.size:=hs0.1.lt
 have y0:=hs0.1.cell 0
 simp only [List.getElem?_toArray,List.getElem?_cons_zero]at y0
 have hbw:b<w.heap.size:=Nat.lt_of_lt_of_le hbl hb0.size
 have hkz:(k:Int)<(l.length:Int):=by omega
 have hk0':(0:Int)≤(k:Int):=by omega
 have hllt:lb<w.heap.size:=hll.lt
 have hrd1:=zhd hb0 hbl (hel k hk) e4 e6 e7 e8
 clear hel hrd
 generalize l[k]=p at *
 obtain⟨r2,r3,r4⟩:=hrd1
 have lr:=(((Loc.made w #[.int .i64 0,.slice none 0 0,.slice none 0 0,.slice none 0 0,.slice none 0 0] 37).alloc (.cells #[.int .i64 p.idN,.int .i64 p.idR,.int .i64 p.parN,.int .i64 p.parR,.slice k0 p.key.length ck0,.int .i64 p.kind,.slice n0 p.name.length cn0,.slice t0 p.text.length ct0,.slice q0 p.attrs.length cq0] 117)).alloc (.cells #[.int .i64 p.kind,.slice n0 p.name.length cn0,.slice t0 p.text.length ct0,.slice q0 p.attrs.length cq0,.slice none 0 0] 37)).other lb 0 (.int .i64 (left-1)) (by omega)
 have ln0:=Loc.made ((w.alloc (.cells #[.int .i64 0,.slice none 0 0,.slice none 0 0,.slice none 0 0,.slice none 0 0] 37)).alloc (.cells #[.int .i64 p.idN,.int .i64 p.idR,.int .i64 p.parN,.int .i64 p.parR,.slice k0 p.key.length ck0,.int .i64 p.kind,.slice n0 p.name.length cn0,.slice t0 p.text.length ct0,.slice q0 p.attrs.length cq0] 117)) #[.int .i64 p.kind,.slice n0 p.name.length cn0,.slice t0 p.text.length ct0,.slice q0 p.attrs.length cq0,.slice none 0 0] 37
 simp only [World.size_alloc]at ln0
 have ln:=ln0.other lb 0 (.int .i64 (left-1)) (by omega)
 have ll:=(((hll.alloc (.cells #[.int .i64 0,.slice none 0 0,.slice none 0 0,.slice none 0 0,.slice none 0 0] 37)).alloc (.cells #[.int .i64 p.idN,.int .i64 p.idR,.int .i64 p.parN,.int .i64 p.parR,.slice k0 p.key.length ck0,.int .i64 p.kind,.slice n0 p.name.length cn0,.slice t0 p.text.length ct0,.slice q0 p.attrs.length cq0] 117)).alloc (.cells #[.int .i64 p.kind,.slice n0 p.name.length cn0,.slice t0 p.text.length ct0,.slice q0 p.attrs.length cq0,.slice none 0 0] 37)).set 0 (.int .i64 (left-1))
 have hbA:Below w.heap.size w (((w.alloc (.cells #[.int .i64 0,.slice none 0 0,.slice none 0 0,.slice none 0 0,.slice none 0 0] 37)).alloc (.cells #[.int .i64 p.idN,.int .i64 p.idR,.int .i64 p.parN,.int .i64 p.parR,.slice k0 p.key.length ck0,.int .i64 p.kind,.slice n0 p.name.length cn0,.slice t0 p.text.length ct0,.slice q0 p.attrs.length cq0] 117)).alloc (.cells #[.int .i64 p.kind,.slice n0 p.name.length cn0,.slice t0 p.text.length ct0,.slice q0 p.attrs.length cq0,.slice none 0 0] 37)):=(((Below.refl _ _).alloc (Nat.le_refl _) _).alloc (by simp) _).alloc (by simp;omega) _
 have hf3:Frm w ((((w.alloc (.cells #[.int .i64 0,.slice none 0 0,.slice none 0 0,.slice none 0 0,.slice none 0 0] 37)).alloc (.cells #[.int .i64 p.idN,.int .i64 p.idR,.int .i64 p.parN,.int .i64 p.parR,.slice k0 p.key.length ck0,.int .i64 p.kind,.slice n0 p.name.length cn0,.slice t0 p.text.length ct0,.slice q0 p.attrs.length cq0] 117)).alloc (.cells #[.int .i64 p.kind,.slice n0 p.name.length cn0,.slice t0 p.text.length ct0,.slice q0 p.attrs.length cq0,.slice none 0 0] 37)).setCell ⟨lb,0,none⟩ (.int .i64 (left-1))) [lb]:=(Frm.ofBelow hbA [lb]).trans (Frm.set _ _ _ _)
 have hb3:Below w0.heap.size w0 ((((w.alloc (.cells #[.int .i64 0,.slice none 0 0,.slice none 0 0,.slice none 0 0,.slice none 0 0] 37)).alloc (.cells #[.int .i64 p.idN,.int .i64 p.idR,.int .i64 p.parN,.int .i64 p.parR,.slice k0 p.key.length ck0,.int .i64 p.kind,.slice n0 p.name.length cn0,.slice t0 p.text.length ct0,.slice q0 p.attrs.length cq0] 117)).alloc (.cells #[.int .i64 p.kind,.slice n0 p.name.length cn0,.slice t0 p.text.length ct0,.slice q0 p.attrs.length cq0,.slice none 0 0] 37)).setCell ⟨lb,0,none⟩ (.int .i64 (left-1))):=hb0.trans (hf3.below hb0.size (fun g hg=>by simp at hg;omega))
 have hs3:((((w.alloc (.cells #[.int .i64 0,.slice none 0 0,.slice none 0 0,.slice none 0 0,.slice none 0 0] 37)).alloc (.cells #[.int .i64 p.idN,.int .i64 p.idR,.int .i64 p.parN,.int .i64 p.parR,.slice k0 p.key.length ck0,.int .i64 p.kind,.slice n0 p.name.length cn0,.slice t0 p.text.length ct0,.slice q0 p.attrs.length cq0] 117)).alloc (.cells #[.int .i64 p.kind,.slice n0 p.name.length cn0,.slice t0 p.text.length ct0,.slice q0 p.attrs.length cq0,.slice none 0 0] 37)).setCell ⟨lb,0,none⟩ (.int .i64 (left-1))).heap.size=w.heap.size+3:=by simp
 have LL:=hide (And.intro lr (And.intro ln (And.intro ll (And.intro hf3 (And.intro hb3 hs3)))))
 have xl:(((w.alloc (.cells #[.int .i64 0,.slice none 0 0,.slice none 0 0,.slice none 0 0,.slice none 0 0] 37)).alloc (.cells #[.int .i64 p.idN,.int .i64 p.idR,.int .i64 p.parN,.int .i64 p.parR,.slice k0 p.key.length ck0,.int .i64 p.kind,.slice n0 p.name.length cn0,.slice t0 p.text.length ct0,.slice q0 p.attrs.length cq0] 117)).alloc (.cells #[.int .i64 p.kind,.slice n0 p.name.length cn0,.slice t0 p.text.length ct0,.slice q0 p.attrs.length cq0,.slice none 0 0] 37)).cell? ⟨lb,0,none⟩=some (.int .i64 left):=(hbA.cell (p:=⟨lb,0,none⟩) hllt).trans (hll.cell 0)
 have xf:(((w.alloc (.cells #[.int .i64 0,.slice none 0 0,.slice none 0 0,.slice none 0 0,.slice none 0 0] 37)).alloc (.cells #[.int .i64 p.idN,.int .i64 p.idR,.int .i64 p.parN,.int .i64 p.parR,.slice k0 p.key.length ck0,.int .i64 p.kind,.slice n0 p.name.length cn0,.slice t0 p.text.length ct0,.slice q0 p.attrs.length cq0] 117)).alloc (.cells #[.int .i64 p.kind,.slice n0 p.name.length cn0,.slice t0 p.text.length ct0,.slice q0 p.attrs.length cq0,.slice none 0 0] 37)).frozen? ⟨lb,0,none⟩=false:=((((hll.alloc (.cells #[.int .i64 0,.slice none 0 0,.slice none 0 0,.slice none 0 0,.slice none 0 0] 37)).alloc (.cells #[.int .i64 p.idN,.int .i64 p.idR,.int .i64 p.parN,.int .i64 p.parR,.slice k0 p.key.length ck0,.int .i64 p.kind,.slice n0 p.name.length cn0,.slice t0 p.text.length ct0,.slice q0 p.attrs.length cq0] 117)).alloc (.cells #[.int .i64 p.kind,.slice n0 p.name.length cn0,.slice t0 p.text.length ct0,.slice q0 p.attrs.length cq0,.slice none 0 0] 37))).frozen 0
 have xi:=(((Loc.made (w.alloc (.cells #[.int .i64 0,.slice none 0 0,.slice none 0 0,.slice none 0 0,.slice none 0 0] 37)) #[.int .i64 p.idN,.int .i64 p.idR,.int .i64 p.parN,.int .i64 p.parR,.slice k0 p.key.length ck0,.int .i64 p.kind,.slice n0 p.name.length cn0,.slice t0 p.text.length ct0,.slice q0 p.attrs.length cq0] 117).alloc (.cells #[.int .i64 p.kind,.slice n0 p.name.length cn0,.slice t0 p.text.length ct0,.slice q0 p.attrs.length cq0,.slice none 0 0] 37)).other lb 0 (.int .i64 (left-1)) (by simp;omega))
 simp only [World.size_alloc]at xi
 have xi0:=xi.cell 0
 have xi1:=xi.cell 1
 simp at xi0 xi1
 have HKS:=hide hkinds
 have HH:=hide (And.intro hK (And.intro r2 (And.intro r3 (And.intro r4 (And.intro hp hu)))))
 clear lr ln ln0 ll hbA hf3 hb3 hs3 xi hK r2 r3 r4 hp hkinds hu hll hs0
 go_enter Tryz.func80,Tryz.ntmps80
 go_wp2_with fail
 obtain⟨lr3,ln3,ll3,hf3,hb3,hs3⟩:=zaa LL
 obtain⟨hK,r2,r3,r4,hp,hu⟩:=zaa HH
 clear LL HH e0 e1 e2 e3 e4 e5 e6 e7 e8 xl xf xi0 xi1 y0
 generalize ((((w.alloc (.cells #[.int .i64 0,.slice none 0 0,.slice none 0 0,.slice none 0 0,.slice none 0 0] 37)).alloc (.cells #[.int .i64 p.idN,.int .i64 p.idR,.int .i64 p.parN,.int .i64 p.parR,.slice k0 p.key.length ck0,.int .i64 p.kind,.slice n0 p.name.length cn0,.slice t0 p.text.length ct0,.slice q0 p.attrs.length cq0] 117)).alloc (.cells #[.int .i64 p.kind,.slice n0 p.name.length cn0,.slice t0 p.text.length ct0,.slice q0 p.attrs.length cq0,.slice none 0 0] 37)).setCell ⟨lb,0,none⟩ (.int .i64 (left-1)))=w3 at *
 refine (zhu w3 sb _ c l F (p.idN,p.idR) (h0.keep hb3) hlen).mono ?_
 rintro e w4 ⟨v,rfl,hv4,hb4⟩
 have hkidx:∀x∈zao l p.id,x<l.length:=fun x hx=>(zfc hu hx).2.1
 have hks:(zao l (p.idN,p.idR)).length≤l.length:=zcz _ _
 obtain⟨kav,kcv,hve,_,_⟩:=hv4.ints.shape
 subst hve
 have hf4:=hf3.trans (Frm.ofBelow hb4 [lb])
 have lr4:=lr3.all hb4
 have ln4:=ln3.all hb4
 have ll4:=ll3.all hb4
 have hb04:=hb3.trans (hb4.mono hb3.size)
 have hs4:=hb4.size
 rw [zco]at hv4 ⊢
 have hpe:zao l (p.idN,p.idR)=zao l p.id:=rfl
 rw [hpe]at hv4 hks ⊢
 clear lr3 ln3 ll3 hf3 hb3 hb4 hpe
 obtain⟨ks,hkse⟩:∃ks,zao l p.id=ks:=⟨_,rfl⟩
 rw [hkse]at hv4 hks hkidx ⊢
 go_wp2_with fail
 have hdd:deep=20:=by omega
 subst hdd
 have hd1:(20:Int)≤20:=by omega
 have hpz:=zhm hp left
 have hks9:(ks.length:Int)≤100000:=by omega
 clear hi0 hz0 hz1 hz2
 refine wp_loop_rounds 1 ?_
 rw [rounds_succ]
 have hfin:∀W,Frm w4 W [w.heap.size]→Loc W w.heap.size #[.int .i64 p.kind,.slice n0 p.name.length cn0,.slice t0 p.text.length ct0,.slice q0 p.attrs.length cq0,.slice none 0 0] 37→Q (.returned (.agg #[.int .i64 p.kind,.slice n0 p.name.length cn0,.slice t0 p.text.length ct0,.slice q0 p.attrs.length cq0,.slice none 0 0])) W:=fun W hf hl=>by
  refine zaa HQ _ _ ⟨p.kind,_,_,_,_,_,_,_,_,_,_,_,_,rfl,[],?_,List.nodup_nil,(fun q hq=>(by cases hq)),?_,?_⟩
  ·rw [hpz]
   exact NodeQ.bare hK.1 hK.2 r2 r3 r4
  ·rw [hpz]
   exact ll4.frm hf (by simp;omega)
  ·exact hf4.new hf (fun g hg=>by simp at hg;omega)
 have HF:=hide hfin
 clear hfin hpz
 obtain⟨y0,y1,y2,y3,y4⟩:=ln4.five
 obtain⟨g0,g1,g2,g3,g4⟩:=lr4.five
 have i0_:=lr4.frozen 0
 have i1_:=lr4.frozen 1
 have i2_:=lr4.frozen 2
 have i3_:=lr4.frozen 3
 have i4_:=lr4.frozen 4
 obtain⟨lX,fX⟩:=zby lr4 (.int .i64 p.kind) (.slice n0 p.name.length cn0) (.slice t0 p.text.length ct0) (.slice q0 p.attrs.length cq0) (.slice none 0 0)
 have HE:=hide (zaa HF _ fX lX)
 obtain⟨z0,z1,z2,z3,z4⟩:=lX.five
 have HZZ:=hide (And.intro z0 (And.intro z1 (And.intro z2 (And.intro z3 z4))))
 clear lX fX z0 z1 z2 z3 z4
 by_cases hk0:0<ks.length
 ·have hk1:(0:Int)<(ks.length:Int):=by omega
  clear hk0 h0 hv4 hf4 ln4 lr4 ll4
  go_wp2_with fail
  exact bodyPost_ret (v:=.agg #[.int .i64 p.kind,.slice n0 p.name.length cn0,.slice t0 p.text.length ct0,.slice q0 p.attrs.length cq0,.slice none 0 0]) (by simp [results,Tryz.results80,go_sem,g0,g1,g2,g3,g4]) rfl (zaa HE)
 ·have hk1:¬ (0:Int)<(ks.length:Int):=by omega
  clear hk0 h0 hv4 hf4 ln4 lr4 ll4
  go_wp2_with fail
  exact bodyPost_ret (v:=.agg #[.int .i64 p.kind,.slice n0 p.name.length cn0,.slice t0 p.text.length ct0,.slice q0 p.attrs.length cq0,.slice none 0 0]) (by simp [results,Tryz.results80,go_sem,g0,g1,g2,g3,g4]) rfl (zaa HE)
set_option maxHeartbeats 12800000 in
theorem zkZ (m:Nat) (ih:zdH m):zdH (m+1):=by
 intro w0 w sb a c l F k left deep lb h0 hb0 hlb hll hu hlen hkinds hk hl0 hl1 hdeep hdp0
 refine zaf ?_
 intro Q HQ
 obtain⟨i0,hi0,hz0,hz1,hz2⟩:=info_parts Tryz.info37
 have hs0:=h0.keep hb0
 obtain⟨h0_,_⟩ | ⟨b,off,cap,hv,_,hbl,hel⟩:=(PlsR.rd h0.2).cases
 ·rw [h0_]at hk;simp at hk
 cases hv
 obtain⟨k0,ck0,n0,cn0,t0,ct0,q0,cq0,e0,e1,e2,e3,e4,e5,e6,e7,e8,hrd⟩:=zkH hb0 hbl (hel k hk)
 have hp:l[k]? = some l[k]:=by simp [hk]
 have hK:=hkinds l[k] (List.getElem_mem _)
 have hslen:sb<w.heap.size:=hs0.1.lt
 have y0:=hs0.1.cell 0
 simp only [List.getElem?_toArray,List.getElem?_cons_zero]at y0
 have hbw:b<w.heap.size:=Nat.lt_of_lt_of_le hbl hb0.size
 have hkz:(k:Int)<(l.length:Int):=by omega
 have hk0':(0:Int)≤(k:Int):=by omega
 have hllt:lb<w.heap.size:=hll.lt
 have hrd1:=zhd hb0 hbl (hel k hk) e4 e6 e7 e8
 clear hel hrd
 generalize l[k]=p at *
 obtain⟨r2,r3,r4⟩:=hrd1
 have lr:=(((Loc.made w #[.int .i64 0,.slice none 0 0,.slice none 0 0,.slice none 0 0,.slice none 0 0] 37).alloc (.cells #[.int .i64 p.idN,.int .i64 p.idR,.int .i64 p.parN,.int .i64 p.parR,.slice k0 p.key.length ck0,.int .i64 p.kind,.slice n0 p.name.length cn0,.slice t0 p.text.length ct0,.slice q0 p.attrs.length cq0] 117)).alloc (.cells #[.int .i64 p.kind,.slice n0 p.name.length cn0,.slice t0 p.text.length ct0,.slice q0 p.attrs.length cq0,.slice none 0 0] 37)).other lb 0 (.int .i64 (left-1)) (by omega)
 have ln0:=Loc.made ((w.alloc (.cells #[.int .i64 0,.slice none 0 0,.slice none 0 0,.slice none 0 0,.slice none 0 0] 37)).alloc (.cells #[.int .i64 p.idN,.int .i64 p.idR,.int .i64 p.parN,.int .i64 p.parR,.slice k0 p.key.length ck0,.int .i64 p.kind,.slice n0 p.name.length cn0,.slice t0 p.text.length ct0,.slice q0 p.attrs.length cq0] 117)) #[.int .i64 p.kind,.slice n0 p.name.length cn0,.slice t0 p.text.length ct0,.slice q0 p.attrs.length cq0,.slice none 0 0] 37
 simp only [World.size_alloc]at ln0
 have ln:=ln0.other lb 0 (.int .i64 (left-1)) (by omega)
 have ll:=(((hll.alloc (.cells #[.int .i64 0,.slice none 0 0,.slice none 0 0,.slice none 0 0,.slice none 0 0] 37)).alloc (.cells #[.int .i64 p.idN,.int .i64 p.idR,.int .i64 p.parN,.int .i64 p.parR,.slice k0 p.key.length ck0,.int .i64 p.kind,.slice n0 p.name.length cn0,.slice t0 p.text.length ct0,.slice q0 p.attrs.length cq0] 117)).alloc (.cells #[.int .i64 p.kind,.slice n0 p.name.length cn0,.slice t0 p.text.length ct0,.slice q0 p.attrs.length cq0,.slice none 0 0] 37)).set 0 (.int .i64 (left-1))
 have hbA:Below w.heap.size w (((w.alloc (.cells #[.int .i64 0,.slice none 0 0,.slice none 0 0,.slice none 0 0,.slice none 0 0] 37)).alloc (.cells #[.int .i64 p.idN,.int .i64 p.idR,.int .i64 p.parN,.int .i64 p.parR,.slice k0 p.key.length ck0,.int .i64 p.kind,.slice n0 p.name.length cn0,.slice t0 p.text.length ct0,.slice q0 p.attrs.length cq0] 117)).alloc (.cells #[.int .i64 p.kind,.slice n0 p.name.length cn0,.slice t0 p.text.length ct0,.slice q0 p.attrs.length cq0,.slice none 0 0] 37)):=(((Below.refl _ _).alloc (Nat.le_refl _) _).alloc (by simp) _).alloc (by simp;omega) _
 have hf3:Frm w ((((w.alloc (.cells #[.int .i64 0,.slice none 0 0,.slice none 0 0,.slice none 0 0,.slice none 0 0] 37)).alloc (.cells #[.int .i64 p.idN,.int .i64 p.idR,.int .i64 p.parN,.int .i64 p.parR,.slice k0 p.key.length ck0,.int .i64 p.kind,.slice n0 p.name.length cn0,.slice t0 p.text.length ct0,.slice q0 p.attrs.length cq0] 117)).alloc (.cells #[.int .i64 p.kind,.slice n0 p.name.length cn0,.slice t0 p.text.length ct0,.slice q0 p.attrs.length cq0,.slice none 0 0] 37)).setCell ⟨lb,0,none⟩ (.int .i64 (left-1))) [lb]:=(Frm.ofBelow hbA [lb]).trans (Frm.set _ _ _ _)
 have hb3:Below w0.heap.size w0 ((((w.alloc (.cells #[.int .i64 0,.slice none 0 0,.slice none 0 0,.slice none 0 0,.slice none 0 0] 37)).alloc (.cells #[.int .i64 p.idN,.int .i64 p.idR,.int .i64 p.parN,.int .i64 p.parR,.slice k0 p.key.length ck0,.int .i64 p.kind,.slice n0 p.name.length cn0,.slice t0 p.text.length ct0,.slice q0 p.attrs.length cq0] 117)).alloc (.cells #[.int .i64 p.kind,.slice n0 p.name.length cn0,.slice t0 p.text.length ct0,.slice q0 p.attrs.length cq0,.slice none 0 0] 37)).setCell ⟨lb,0,none⟩ (.int .i64 (left-1))):=hb0.trans (hf3.below hb0.size (fun g hg=>by simp at hg;omega))
 have hs3:((((w.alloc (.cells #[.int .i64 0,.slice none 0 0,.slice none 0 0,.slice none 0 0,.slice none 0 0] 37)).alloc (.cells #[.int .i64 p.idN,.int .i64 p.idR,.int .i64 p.parN,.int .i64 p.parR,.slice k0 p.key.length ck0,.int .i64 p.kind,.slice n0 p.name.length cn0,.slice t0 p.text.length ct0,.slice q0 p.attrs.length cq0] 117)).alloc (.cells #[.int .i64 p.kind,.slice n0 p.name.length cn0,.slice t0 p.text.length ct0,.slice q0 p.attrs.length cq0,.slice none 0 0] 37)).setCell ⟨lb,0,none⟩ (.int .i64 (left-1))).heap.size=w.heap.size+3:=by simp
 have LL:=hide (And.intro lr (And.intro ln (And.intro ll (And.intro hf3 (And.intro hb3 hs3)))))
 have xl:(((w.alloc (.cells #[.int .i64 0,.slice none 0 0,.slice none 0 0,.slice none 0 0,.slice none 0 0] 37)).alloc (.cells #[.int .i64 p.idN,.int .i64 p.idR,.int .i64 p.parN,.int .i64 p.parR,.slice k0 p.key.length ck0,.int .i64 p.kind,.slice n0 p.name.length cn0,.slice t0 p.text.length ct0,.slice q0 p.attrs.length cq0] 117)).alloc (.cells #[.int .i64 p.kind,.slice n0 p.name.length cn0,.slice t0 p.text.length ct0,.slice q0 p.attrs.length cq0,.slice none 0 0] 37)).cell? ⟨lb,0,none⟩=some (.int .i64 left):=(hbA.cell (p:=⟨lb,0,none⟩) hllt).trans (hll.cell 0)
 have xf:(((w.alloc (.cells #[.int .i64 0,.slice none 0 0,.slice none 0 0,.slice none 0 0,.slice none 0 0] 37)).alloc (.cells #[.int .i64 p.idN,.int .i64 p.idR,.int .i64 p.parN,.int .i64 p.parR,.slice k0 p.key.length ck0,.int .i64 p.kind,.slice n0 p.name.length cn0,.slice t0 p.text.length ct0,.slice q0 p.attrs.length cq0] 117)).alloc (.cells #[.int .i64 p.kind,.slice n0 p.name.length cn0,.slice t0 p.text.length ct0,.slice q0 p.attrs.length cq0,.slice none 0 0] 37)).frozen? ⟨lb,0,none⟩=false:=((((hll.alloc (.cells #[.int .i64 0,.slice none 0 0,.slice none 0 0,.slice none 0 0,.slice none 0 0] 37)).alloc (.cells #[.int .i64 p.idN,.int .i64 p.idR,.int .i64 p.parN,.int .i64 p.parR,.slice k0 p.key.length ck0,.int .i64 p.kind,.slice n0 p.name.length cn0,.slice t0 p.text.length ct0,.slice q0 p.attrs.length cq0] 117)).alloc (.cells #[.int .i64 p.kind,.slice n0 p.name.length cn0,.slice t0 p.text.length ct0,.slice q0 p.attrs.length cq0,.slice none 0 0] 37))).frozen 0
 have xi:=(((Loc.made (w.alloc (.cells #[.int .i64 0,.slice none 0 0,.slice none 0 0,.slice none 0 0,.slice none 0 0] 37)) #[.int .i64 p.idN,.int .i64 p.idR,.int .i64 p.parN,.int .i64 p.parR,.slice k0 p.key.length ck0,.int .i64 p.kind,.slice n0 p.name.length cn0,.slice t0 p.text.length ct0,.slice q0 p.attrs.length cq0] 117).alloc (.cells #[.int .i64 p.kind,.slice n0 p.name.length cn0,.slice t0 p.text.length ct0,.slice q0 p.attrs.length cq0,.slice none 0 0] 37)).other lb 0 (.int .i64 (left-1)) (by simp;omega))
 simp only [World.size_alloc]at xi
 have xi0:=xi.cell 0
 have xi1:=xi.cell 1
 simp at xi0 xi1
 have HKS:=hide hkinds
 have HH:=hide (And.intro hK (And.intro r2 (And.intro r3 (And.intro r4 (And.intro hp hu)))))
 clear lr ln ln0 ll hbA hf3 hb3 hs3 xi hK r2 r3 r4 hp hkinds hu hll hs0
 go_enter Tryz.func80,Tryz.ntmps80
 go_wp2_with fail
 obtain⟨lr3,ln3,ll3,hf3,hb3,hs3⟩:=zaa LL
 obtain⟨hK,r2,r3,r4,hp,hu⟩:=zaa HH
 clear LL HH e0 e1 e2 e3 e4 e5 e6 e7 e8 xl xf xi0 xi1 y0
 generalize ((((w.alloc (.cells #[.int .i64 0,.slice none 0 0,.slice none 0 0,.slice none 0 0,.slice none 0 0] 37)).alloc (.cells #[.int .i64 p.idN,.int .i64 p.idR,.int .i64 p.parN,.int .i64 p.parR,.slice k0 p.key.length ck0,.int .i64 p.kind,.slice n0 p.name.length cn0,.slice t0 p.text.length ct0,.slice q0 p.attrs.length cq0] 117)).alloc (.cells #[.int .i64 p.kind,.slice n0 p.name.length cn0,.slice t0 p.text.length ct0,.slice q0 p.attrs.length cq0,.slice none 0 0] 37)).setCell ⟨lb,0,none⟩ (.int .i64 (left-1)))=w3 at *
 refine (zhu w3 sb _ c l F (p.idN,p.idR) (h0.keep hb3) hlen).mono ?_
 rintro e w4 ⟨v,rfl,hv4,hb4⟩
 have hkidx:∀x∈zao l p.id,x<l.length:=fun x hx=>(zfc hu hx).2.1
 have hks:(zao l (p.idN,p.idR)).length≤l.length:=zcz _ _
 obtain⟨kav,kcv,hve,_,_⟩:=hv4.ints.shape
 subst hve
 have hf4:=hf3.trans (Frm.ofBelow hb4 [lb])
 have lr4:=lr3.all hb4
 have ln4:=ln3.all hb4
 have ll4:=ll3.all hb4
 have hb04:=hb3.trans (hb4.mono hb3.size)
 have hs4:=hb4.size
 rw [zco]at hv4 ⊢
 have hpe:zao l (p.idN,p.idR)=zao l p.id:=rfl
 rw [hpe]at hv4 hks ⊢
 clear lr3 ln3 ll3 hf3 hb3 hb4 hpe
 obtain⟨ks,hkse⟩:∃ks,zao l p.id=ks:=⟨_,rfl⟩
 rw [hkse]at hv4 hks hkidx ⊢
 go_wp2_with fail
 have hpz:∀acc lf,prjK (prj l m) ks [] (left-1)=(acc,lf)→_:=fun acc lf he=>zkc (acc:=acc) (lf:=lf) (m:=m) hp (by rw [hkse];exact he)
 have hdp:¬ (20:Int)≤deep:=by omega
 have hd9:deep+1+(m:Int)=20:=by omega
 have hd8:(0:Int)≤deep+1:=by omega
 have hdw:IntKind.i64.wrap (deep+1)=deep+1:=by simp [IntKind.wrap,IntKind.bits,IntKind.signed];omega
 have hks9:(ks.length:Int)≤100000:=by omega
 have he2:∀args w,(callFunc 80 args).run Tryz.prog w=.ok (.enter 80 args) w:=enters_of Tryz.func80 (by kernel_rfl) rfl
 have HZ:=hide hpz
 have HKI:=hide hkidx
 clear hpz hkidx hdeep
 go_loopw [12] (fun i wr=>∃(j:Nat) (acc:List (Tr (m+1))) (ka:Option Addr) (cv:Nat) (Fk:List Nat) (lf:Int),j≤ks.length∧acc.length≤j∧i=.int .i64 (j:Int)∧Loc wr (w.heap.size+1+1) #[.int .i64 p.kind,.slice n0 p.name.length cn0,.slice t0 p.text.length ct0,.slice q0 p.attrs.length cq0,.slice ka acc.length cv] 37∧OwElems wr 37 5 (.slice ka acc.length cv) acc (NodeQ w0 (m+1) wr) Fk∧Fk.Nodup∧Rng Fk w4.heap.size wr.heap.size∧Loc wr lb #[.int .i64 lf] 3∧-1000≤lf∧lf≤1000∧Hid (prjK (prj l m) (ks.drop j) acc lf=prjK (prj l m) ks [] (left-1))∧Frm w4 wr [lb,w.heap.size+1+1]) (fun i _=>ks.length-(intOf i).toNat)
 case atStart=>exact⟨0,[],none,0,[],left-1,Nat.zero_le _,Nat.le_refl _,rfl,ln4,OwElems.naught _ _ _ _,List.nodup_nil,fun q hq=>(by cases hq),ll4,by omega,by omega,hide rfl,Frm.refl _ _⟩
 case round=>
  obtain⟨j,acc,ka,cv,Fk,lf,hj,hal,rfl,lnr,hO,hOn,hOr,llr,lf1,lf2,HPK,hfr⟩:=hrel
  have lrr:=lr4.frm hfr (by simp;omega)
  have hvr:=OwnZ.frm hv4 hfr (fun q hq=>by have:=hv4.rng q hq;simp;omega)
  have hbr:Below w0.heap.size w0 wr:=hb04.trans (hfr.below hb04.size (fun q hq=>by simp at hq;omega))
  have hs4w:=hfr.size
  have hnF:w.heap.size+1+1∉Fk:=fun e=>by have:=hOr _ e;omega
  have hlF:lb∉Fk:=fun e=>by have:=hOr _ e;omega
  have x4:wr.cell? ⟨w.heap.size+1+1,4,none⟩=some (.slice ka acc.length cv):=lnr.cell 4
  have x0l:wr.cell? ⟨lb,0,none⟩=some (.int .i64 lf):=llr.cell 0
  have hfin:∀W,Frm wr W [w.heap.size]→Loc W w.heap.size #[.int .i64 p.kind,.slice n0 p.name.length cn0,.slice t0 p.text.length ct0,.slice q0 p.attrs.length cq0,.slice ka acc.length cv] 37→prjK (prj l m) ks [] (left-1)=(acc,lf)→Q (.returned (.agg #[.int .i64 p.kind,.slice n0 p.name.length cn0,.slice t0 p.text.length ct0,.slice q0 p.attrs.length cq0,.slice ka acc.length cv])) W:=fun W hf hl he=>by
   refine zaa HQ _ _ ⟨p.kind,_,_,_,_,_,_,_,_,_,_,_,_,rfl,Fk,?_,hOn,hOr.mono (by omega) hf.size,?_,?_⟩
   ·rw [(zaa HZ _ _ he).1]
    exact⟨_,_,_,_,rfl,hK.1,hK.2,r2,r3,r4,OwElems.frm hO hf (fun q hq=>by have:=hOr q hq;simp;omega) (fun C x G hr hG=>hr.frm hf hG)⟩
   ·rw [(zaa HZ _ _ he).2]
    exact llr.frm hf (by simp;omega)
   ·exact⟨hf.os.trans (hfr.os.trans hf4.os),hf.tape.trans (hfr.tape.trans hf4.tape),hf.output.trans (hfr.output.trans hf4.output),by have:=hf.size;have:=hf4.size;omega,fun i hi hn=>by
     have h1:=hf.block i (by have:=hf4.size;omega) (by simp;omega)
     have h2:=hfr.block i (by have:=hf4.size;omega) (by simp at hn ⊢;omega)
     exact h1.trans (h2.trans (hf4.block i hi hn))⟩
  by_cases hjl:j<ks.length
  ·have hjl':(j:Int)<(ks.length:Int):=by omega
   have hj0:(0:Int)≤(j:Int):=by omega
   by_cases hlf:lf≤0
   ·have hstop:prjK (prj l m) ks [] (left-1)=(acc,lf):=by rw [←zaa HPK,zin _ _ _ _ hlf]
    obtain⟨y0,y1,y2,y3,y4⟩:=lnr.five
    obtain⟨g0,g1,g2,g3,g4⟩:=lrr.five
    have i0_:=lrr.frozen 0
    have i1_:=lrr.frozen 1
    have i2_:=lrr.frozen 2
    have i3_:=lrr.frozen 3
    have i4_:=lrr.frozen 4
    obtain⟨lX,fX⟩:=zby lrr (.int .i64 p.kind) (.slice n0 p.name.length cn0) (.slice t0 p.text.length ct0) (.slice q0 p.attrs.length cq0) (.slice ka acc.length cv)
    have HE:=hide (hfin _ fX lX hstop)
    clear lX fX hfin hstop hO hOn hOr llr lrr lnr hvr hbr HPK hfr
    go_wp2_with fail
    exact bodyPost_ret (v:=.agg #[.int .i64 p.kind,.slice n0 p.name.length cn0,.slice t0 p.text.length ct0,.slice q0 p.attrs.length cq0,.slice ka acc.length cv]) (by simp [results,Tryz.results80,go_sem,g0,g1,g2,g3,g4]) rfl (zaa HE)
   have hnx:=zaa HPK
   rw [ziW _ ks j hjl acc lf hlf]at hnx
   have hki:=zaa HKI ks[j] (List.getElem_mem _)
   have hrng:=zmc l m ks[j] lf (by omega) lf2
   obtain⟨gz,hgz⟩:∃gz,kav=some ⟨gz,0,none⟩:=by
    rcases hvr.2.2 with ⟨e0,e1⟩ | ⟨g',cap',cur,e0,_⟩
    ·first | omega | (rw [zco]at e1;omega) | (injection e0 with _ e2 _;omega)
    ·injection e0 with e1 _ _;exact⟨g',e1⟩
   subst hgz
   have xv:=hvr.cellz (j:=j) (by rw [zco];exact hjl)
   have hgd:(natZ ks).getD j 0=((ks[j]:Nat):Int):=by simp [natZ,hjl]
   rw [hgd]at xv
   have HI:=hide (ih w0 wr.drew sb _ c l F ks[j] lf (deep+1) lb h0 hbr.drew hlb (llr.all ((Below.refl _ _).drew)) hu hlen (zaa HKS) hki (by omega) lf2 hd9 hd8)
   have HNX:=hide hnx
   have hdr:Below wr.heap.size wr wr.drew:=(Below.refl _ _).drew
   generalize hkj:ks[j]=kj at *
   obtain⟨pr,hpr⟩:∃pr,pr=prj l m kj lf:=⟨_,rfl⟩
   rw [←hpr]at HI HNX hrng
   have HRG:=hide hrng
   clear hnx hki hgd hkj hpr hrng hfin HPK h0
   have lnd:=lnr.all hdr
   have hOd:OwElems wr.drew 37 5 (.slice ka acc.length cv) acc (NodeQ w0 (m+1) wr.drew) Fk:=OwElems.frm hO (Frm.ofBelow hdr []) (fun _ _=>by simp) (fun C x G hr hG=>hr.frm (Frm.ofBelow hdr []) (fun _ _=>by simp))
   have hkvF:∀q∈FB (.slice ka acc.length cv),q∈Fk:=fun q hq=>by
    obtain⟨_,_,_,_,_,_,rfl⟩:=hO
    exact List.mem_append_left _ hq
   have c4d:wr.drew.cell? ⟨w.heap.size+1+1,4,none⟩=some (.slice ka acc.length cv):=lnd.cell 4
   have xvd:wr.drew.cell? ⟨gz,j,none⟩=some (.int .i64 (kj:Int)):=(hdr.cell (zaI xv)).trans xv
   have hld:lb≠w.heap.size+1+1:=by omega
   have hol:=OwElems.len hO
   go_wp2_with fail
   clear x4 x0l xv
   have hdz:wr.drew.heap.size=wr.heap.size:=rfl
   go_region_law
    (first
     | (refine ziO (by rfl) 80 [.tmp 55,.tmp 59,.tmp 61,.tmp 62] #[88,3,3,125] (by rfl) he2 [.pointer (some ⟨sb,0,none⟩),.int .i64 (kj:Int),.int .i64 (deep+1),.pointer (some ⟨lb,0,none⟩)] (by rfl) (zaa HI) ?_;clear HI;rintro e w7 ⟨kd,a1,n1,c1,a2,n2,c2,a3,n3,c3,a4,n4,c4,rfl,G,hG,ndG,rG,ll7,hf7⟩;have ln7:=lnd.frm hf7 (by simpa using fun e=>hld e.symm);have c47:w7.cell? ⟨w.heap.size+1+1,4,none⟩=some (.slice ka acc.length cv):=ln7.cell 4;have hb8:Below w7.heap.size w7 (w7.alloc (.cells #[.int .i64 kd,.slice a1 n1 c1,.slice a2 n2 c2,.slice a3 n3 c3,.slice a4 n4 c4] 37)):=(Below.refl _ _).alloc (Nat.le_refl _) _;have ln8:=ln7.all hb8;have c48:(w7.alloc (.cells #[.int .i64 kd,.slice a1 n1 c1,.slice a2 n2 c2,.slice a3 n3 c3,.slice a4 n4 c4] 37)).cell? ⟨w.heap.size+1+1,4,none⟩=some (.slice ka acc.length cv):=ln8.cell 4;refine⟨_,rfl,?_⟩)
     | (refine zbO (R:=NodeQ w0 (m+1)) (fun h f d=>NodeQ.frm h f d) (by rfl) (.tmp 54) (.tmp 64) 35 (by rfl) 37 i0 (.agg #[.int .i64 0,.slice none 0 0,.slice none 0 0,.slice none 0 0,.slice none 0 0]) 5 104 Tryz.underlying35 hi0 hz0 hz1 hz2 rfl (by decide) _ acc Fk (by rfl) (OwElems.frm (OwElems.frm hOd hf7 (fun q hq e=>hlF (by simp at e;exact e ▸ hq)) (fun C x G hr hG=>hr.frm hf7 hG)) (Frm.ofBelow hb8 []) (fun _ _=>by simp) (fun C x G hr hG=>hr.frm (Frm.ofBelow hb8 []) (fun _ _=>by simp))) hOn ⟨w7.heap.size,0,none⟩ 1 [.int .i64 kd,.slice a1 n1 c1,.slice a2 n2 c2,.slice a3 n3 c3,.slice a4 n4 c4] pr.1 G (by rfl) rfl (ziH w7 _ _ _ _ _ _) (by intro y hy;simp at hy;rcases hy with rfl | rfl | rfl | rfl | rfl<;>rfl) (hG.keep hb8) ndG (fun g hg hg'=>by have h1:=(hOr g hg).2;have:=(rG g hg').1;omega) (fun q hq=>by have h1:=hf7.size;have h2:=hb8.size;rcases hq with hq | hq;(have:=(hOr q hq).2;omega);(have:=(rG q hq).2;omega)) (by unfold maxLen;omega) (by omega) ?_;intro g9 cap9 w9 F9 hF9 hN9 hM9 hf9 hg9;have ln9:=ln8.frm hf9 (fun e=>hnF (hkvF _ e));have c49:w9.cell? ⟨w.heap.size+1+1,4,none⟩=some (.slice ka acc.length cv):=ln9.cell 4;have z49:=ln9.frozen 4))
   all_goals
    have s7:=hf7.size
    have s8:=hb8.size
    have s9:=hf9.size
    have ll9:=(ll7.all hb8).frm hf9 (fun e=>hlF (hkvF _ e))
    have hF9l:F9.Nodup:=hN9
    have hrF9:Rng F9 w4.heap.size w9.heap.size:=fun q hq=>⟨by
     have h9:=hM9 q hq
     simp only [World.size_alloc]at h9
     rcases h9 with k | k | k
     ·exact (hOr q k).1
     ·have:=(rG q k).1;omega
     ·omega,OwElems.lt hF9 (fun C x G h=>NodeQ.lt h) q hq⟩
    have hn9:w.heap.size+1+1∉F9:=fun e=>by have:=hrF9 _ e;omega
    have hl9:lb∉F9:=fun e=>by have:=hrF9 _ e;omega
    have hfr9:Frm w4 w9 [lb,w.heap.size+1+1]:=⟨hf9.os.trans (hb8.os.trans (hf7.os.trans hfr.os)),hf9.tape.trans (hb8.tape.trans (hf7.tape.trans hfr.tape)),hf9.output.trans (hb8.output.trans (hf7.output.trans hfr.output)),by omega,fun i hi hn=>by
     have e1:=hf9.block i (by omega) (fun e=>by have:=(hOr i (hkvF i e)).1;omega)
     have e2:=hb8.block i (by omega)
     have e3:=hf7.block i (by show i<wr.heap.size;omega) (fun e=>hn (by simp at e ⊢;exact .inl e))
     exact e1.trans (e2.trans (e3.trans (hfr.block i hi hn)))⟩
    have fS:=Frm.set w9 (w.heap.size+1+1) 4 (.slice (some ⟨g9,0,none⟩) (acc.length+1) cap9)
    have lnS:=ln9.set 4 (.slice (some ⟨g9,0,none⟩) (acc.length+1) cap9)
    have llS:=ll9.frm fS (by simpa using hld)
    have hOS:OwElems (w9.setCell ⟨w.heap.size+1+1,4,none⟩ (.slice (some ⟨g9,0,none⟩) (acc.length+1) cap9)) 37 5 (.slice (some ⟨g9,0,none⟩) (acc.length+1) cap9) (acc++[pr.1]) (NodeQ w0 (m+1) (w9.setCell ⟨w.heap.size+1+1,4,none⟩ (.slice (some ⟨g9,0,none⟩) (acc.length+1) cap9))) F9:=OwElems.frm hF9 fS (fun q hq e=>hn9 (by simp at e;exact e ▸ hq)) (fun C x G hr hG=>hr.frm fS hG)
    have hfrS:=hfr9.trans (fS.mono (by simp))
    have HO:=hide (And.intro lnS (And.intro llS (And.intro hOS (And.intro hfrS (hrF9.mono (Nat.le_refl _) fS.size)))))
    clear lnS llS hOS hfrS hO hOd hOr hOn llr ll9 ln9 ln8 ln7 lnd lnr hfr9 fS hF9 hf9 hb8 hf7 hG
    go_wp2_with fail
    go_roundw
    case rel=>
     obtain⟨lnS,llS,hOS,hfrS,hrS⟩:=zaa HO
     have hla:(acc++[pr.1]).length=acc.length+1:=by simp
     exact⟨j+1,acc++[pr.1],some ⟨g9,0,none⟩,cap9,F9,pr.2,by omega,by rw [hla];omega,by go_num,by rw [hla];exact lnS,by rw [hla];exact hOS,hN9,hrS,llS,(zaa HRG).1,(zaa HRG).2,HNX,hfrS⟩
    case measure=>simp [intOf];omega
  ·have hjl':¬ (j:Int)<(ks.length:Int):=by omega
   have hstop:prjK (prj l m) ks [] (left-1)=(acc,lf):=by rw [←zaa HPK,List.drop_eq_nil_of_le (by omega)];rfl
   obtain⟨y0,y1,y2,y3,y4⟩:=lnr.five
   obtain⟨g0,g1,g2,g3,g4⟩:=lrr.five
   have i0_:=lrr.frozen 0
   have i1_:=lrr.frozen 1
   have i2_:=lrr.frozen 2
   have i3_:=lrr.frozen 3
   have i4_:=lrr.frozen 4
   obtain⟨lX,fX⟩:=zby lrr (.int .i64 p.kind) (.slice n0 p.name.length cn0) (.slice t0 p.text.length ct0) (.slice q0 p.attrs.length cq0) (.slice ka acc.length cv)
   have HE:=hide (hfin _ fX lX hstop)
   clear lX fX hfin hstop hO hOn hOr llr lrr lnr hvr hbr HPK hfr
   go_wp2_with fail
   exact bodyPost_ret (v:=.agg #[.int .i64 p.kind,.slice n0 p.name.length cn0,.slice t0 p.text.length ct0,.slice q0 p.attrs.length cq0,.slice ka acc.length cv]) (by simp [results,Tryz.results80,go_sem,g0,g1,g2,g3,g4]) rfl (zaa HE)
theorem zhC:∀m,zdH m
 | 0=>zly
 | m+1=>zkZ m (zhC m)
theorem PlsQ.at {w0 w:World} {gr c:Nat} {l:List PlV} {F:List Nat} (h:PlsQ w0 w (.slice (some ⟨gr,0,none⟩) l.length c) l F) {k:Nat} (hk:k<l.length) :
  ∃(k1:Option Addr) (ck:Nat) (n1:Option Addr) (cn:Nat) (t1:Option Addr) (ct:Nat) (a1:Option Addr) (ca:Nat),w.cell? ⟨gr,k*9,none⟩=some (.int .i64 l[k].idN)∧w.cell? ⟨gr,k*9+1,none⟩=some (.int .i64 l[k].idR)∧w.cell? ⟨gr,k*9+2,none⟩=some (.int .i64 l[k].parN)∧w.cell? ⟨gr,k*9+3,none⟩=some (.int .i64 l[k].parR)∧w.cell? ⟨gr,k*9+4,none⟩=some (.slice k1 l[k].key.length ck)∧w.cell? ⟨gr,k*9+5,none⟩=some (.int .i64 l[k].kind)∧w.cell? ⟨gr,k*9+6,none⟩=some (.slice n1 l[k].name.length cn)∧w.cell? ⟨gr,k*9+7,none⟩=some (.slice t1 l[k].text.length ct)∧w.cell? ⟨gr,k*9+8,none⟩=some (.slice a1 l[k].attrs.length ca):=by
 obtain⟨Cs,Fs,e1,e2,e3,e4,rfl⟩:=h
 obtain⟨_,⟨K,N,X,A,eC,o1,o2,o3,o4⟩,eF⟩:=e3 k hk
 obtain⟨k1,ck,rfl,_⟩:=o1.shape
 obtain⟨n1,cn,rfl,_⟩:=o2.shape
 obtain⟨t1,ct,rfl,_⟩:=o3.shape
 obtain⟨a1,ca,rfl,_⟩:=Elems.shape o4
 have cc:∀j,j<9→w.cell? ⟨gr,k*9+j,none⟩=(Cs.getD k [])[j]? :=fun j hj=>zaQ e4 (fun i hi=>(e3 i (by omega)).1) (by omega) k j hk hj
 rw [eC]at cc
 exact⟨k1,ck,n1,cn,t1,ct,a1,ca,cc 0 (by omega),cc 1 (by omega),cc 2 (by omega),cc 3 (by omega),cc 4 (by omega),cc 5 (by omega),cc 6 (by omega),cc 7 (by omega),cc 8 (by omega)⟩
theorem zfG {l:List PlV} (hu:(l.map PlV.id).Nodup) {k:Nat} {p:PlV} (hp:l[k]? = some p):posP l p.id=some k:=by
 obtain⟨hlt,rfl⟩:=List.getElem?_eq_some_iff.1 hp
 refine posP_some.2 ⟨hlt,rfl,fun j hj e=> ?_⟩
 have:=(List.pairwise_iff_getElem.1 hu) j k (by simp;omega) (by simpa using hlt) hj
 simp at this
 exact this e
theorem OwElems.keepN {w w':World} {n:Nat} {v:Value} {acc:List (Tr n)} {F:List Nat} (h:OwElems w 37 5 v acc (OwNode n w) F) (hb:Below w.heap.size w w'):OwElems w' 37 5 v acc (OwNode n w') F:=OwElems.frm h (Frm.ofBelow hb []) (fun _ _=>by simp) (fun C x G hr hG=>OwNode.frm hr (Frm.ofBelow hb []) (fun _ _=>by simp))
def zeR (m:Nat):Prop:=∀(w0 w:World) (g mb gr c:Nat) (l:List PlV) (F:List Nat) (k:Nat) (p:PlV) (left pv deep:Int) (pb:Nat),FoQ w0 w g mb (some ⟨gr,0,none⟩) c l F→Below w0.heap.size w0 w→2≤l.length→(l.map PlV.id).Nodup→(∀p∈l,-9223372036854775808≤p.kind∧p.kind≤9223372036854775807)→(∀p∈l,zcY p)→pb∉g::mb::F→w0.heap.size≤pb→Loc w pb #[.int .i64 pv] 3→pv=120-left→l[k]? = some p→0<left→left≤120→deep+(m:Int)=20→0≤deep→
  Calls Tryz.prog 61 #[.pointer (some ⟨g,0,none⟩),.agg #[.int .i64 p.idN,.int .i64 p.idR],.int .i64 deep,.pointer (some ⟨pb,0,none⟩)] w fun e w'=>∃(kd:Int) (a1:Option Addr) (n1 c1:Nat) (a2:Option Addr) (n2 c2:Nat) (a3:Option Addr) (n3 c3:Nat) (a4:Option Addr) (n4 c4:Nat),e=.returned (.agg #[.int .i64 kd,.slice a1 n1 c1,.slice a2 n2 c2,.slice a3 n3 c3,.slice a4 n4 c4])∧∃G,OwNode (m+1) w' [.int .i64 kd,.slice a1 n1 c1,.slice a2 n2 c2,.slice a3 n3 c3,.slice a4 n4 c4] (prj l m k left).1 G∧G.Nodup∧Rng G w.heap.size w'.heap.size∧Loc w' pb #[.int .i64 (120-(prj l m k left).2)] 3∧Frm w w' [pb]
set_option maxHeartbeats 12800000 in
theorem zom:zeR 0:=by
 intro w0 w g mb gr c l F k p left pv deep pb h hb0 h2 hu hkinds hsm hpn hpw hlp hpv hp hl0 hl1 hdeep hdp0
 refine zaf ?_
 intro Q HQ
 obtain⟨i0,hi0,hz0,hz1,hz2⟩:=info_parts Tryz.info37
 have hkl:k<l.length:=(List.getElem?_eq_some_iff.1 hp).1
 have hpe:l[k]=p:=(List.getElem?_eq_some_iff.1 hp).2
 have hmem:p∈l:=by rw [←hpe];exact List.getElem_mem _
 have hK:=hkinds p hmem
 have hsp:=hsm p hmem
 have hids:=h.ids p hmem
 have hkeep:∀W,Frm w W [pb]→FoQ w0 W g mb (some ⟨gr,0,none⟩) c l F:=fun W f=>h.frm f (fun e=>hpn (by simp at e;simp [e])) (fun e=>hpn (by simp at e;simp [e])) (fun q hq e=>hpn (by simp at e;subst e;simp [hq])) (fun q hq=>by simp at hq;subst hq;exact Cells.ofL hlp)
 have hbel:∀W,Frm w W [pb]→Below w0.heap.size w0 W:=fun W f=>hb0.trans (f.below hb0.size (fun q hq=>by simp at hq;omega))
 have hpos:posP l p.id=some k:=zfG hu hp
 have hpl:=hlp.lt
 have li:=(Loc.made (w.setCell ⟨pb,0,none⟩ (.int .i64 (pv+1))) #[.int .i64 p.idN,.int .i64 p.idR] 81).alloc (.cells #[.int .i64 0,.slice none 0 0,.slice none 0 0,.slice none 0 0,.slice none 0 0] 37)
 have lr:=Loc.made ((w.setCell ⟨pb,0,none⟩ (.int .i64 (pv+1))).alloc (.cells #[.int .i64 p.idN,.int .i64 p.idR] 81)) #[.int .i64 0,.slice none 0 0,.slice none 0 0,.slice none 0 0,.slice none 0 0] 37
 have lp:=((hlp.set 0 (.int .i64 (pv+1))).alloc (.cells #[.int .i64 p.idN,.int .i64 p.idR] 81)).alloc (.cells #[.int .i64 0,.slice none 0 0,.slice none 0 0,.slice none 0 0,.slice none 0 0] 37)
 have hszs:(w.setCell ⟨pb,0,none⟩ (.int .i64 (pv+1))).heap.size=w.heap.size:=by simp
 simp only [World.size_alloc,hszs]at li lr
 have hbS:Below (w.setCell ⟨pb,0,none⟩ (.int .i64 (pv+1))).heap.size (w.setCell ⟨pb,0,none⟩ (.int .i64 (pv+1))) (((w.setCell ⟨pb,0,none⟩ (.int .i64 (pv+1))).alloc (.cells #[.int .i64 p.idN,.int .i64 p.idR] 81)).alloc (.cells #[.int .i64 0,.slice none 0 0,.slice none 0 0,.slice none 0 0,.slice none 0 0] 37)):=((Below.refl _ _).alloc (Nat.le_refl _) _).alloc (by simp) _
 have hbA:Below w.heap.size w ((w.alloc (.cells #[.int .i64 p.idN,.int .i64 p.idR] 81)).alloc (.cells #[.int .i64 0,.slice none 0 0,.slice none 0 0,.slice none 0 0,.slice none 0 0] 37)):=((Below.refl _ _).alloc (Nat.le_refl _) _).alloc (by simp) _
 have hf2:Frm w (((w.setCell ⟨pb,0,none⟩ (.int .i64 (pv+1))).alloc (.cells #[.int .i64 p.idN,.int .i64 p.idR] 81)).alloc (.cells #[.int .i64 0,.slice none 0 0,.slice none 0 0,.slice none 0 0,.slice none 0 0] 37)) [pb]:=(Frm.set _ _ _ _).trans (Frm.ofBelow hbS [pb])
 have hs2:(((w.setCell ⟨pb,0,none⟩ (.int .i64 (pv+1))).alloc (.cells #[.int .i64 p.idN,.int .i64 p.idR] 81)).alloc (.cells #[.int .i64 0,.slice none 0 0,.slice none 0 0,.slice none 0 0,.slice none 0 0] 37)).heap.size=w.heap.size+2:=by simp
 have xl:((w.alloc (.cells #[.int .i64 p.idN,.int .i64 p.idR] 81)).alloc (.cells #[.int .i64 0,.slice none 0 0,.slice none 0 0,.slice none 0 0,.slice none 0 0] 37)).cell? ⟨pb,0,none⟩=some (.int .i64 pv):=(hbA.cell (p:=⟨pb,0,none⟩) hpl).trans (hlp.cell 0)
 have xf:((w.alloc (.cells #[.int .i64 p.idN,.int .i64 p.idR] 81)).alloc (.cells #[.int .i64 0,.slice none 0 0,.slice none 0 0,.slice none 0 0,.slice none 0 0] 37)).frozen? ⟨pb,0,none⟩=false:=((hlp.alloc (.cells #[.int .i64 p.idN,.int .i64 p.idR] 81)).alloc (.cells #[.int .i64 0,.slice none 0 0,.slice none 0 0,.slice none 0 0,.slice none 0 0] 37)).frozen 0
 have b0:=li.cell 0
 have b1:=li.cell 1
 simp at b0 b1
 have hpw1:IntKind.i64.wrap (pv+1)=pv+1:=by simp [IntKind.wrap,IntKind.bits,IntKind.signed];omega
 have HX:=hide (And.intro li (And.intro lr (And.intro lp (And.intro hf2 hs2))))
 have HY:=hide (And.intro hK (And.intro hsp (And.intro hkeep (And.intro hbel hpos))))
 have HP:=hide (And.intro hp (And.intro hpe hids))
 have HU:=hide (And.intro hu (And.intro hkinds (And.intro hsm hpn)))
 have HV:=hide hpv
 have HLN:=hide h.len
 clear li lr lp hbA hbS hszs hf2 hs2 hK hsp hkeep hbel hpos hp hpe hids hu hkinds hsm hpn hmem h hlp hb0 hpv
 go_enter Tryz.func61,Tryz.ntmps61
 go_wp2_with fail
 obtain⟨li2,lr2,lp2,hf2,hs2⟩:=zaa HX
 obtain⟨hK,hsp,hkeep,hbel,hpos⟩:=zaa HY
 obtain⟨hp,hpe,hids⟩:=zaa HP
 have hpv:=zaa HV
 clear HX HY HP xl xf b0 b1
 generalize (((w.setCell ⟨pb,0,none⟩ (.int .i64 (pv+1))).alloc (.cells #[.int .i64 p.idN,.int .i64 p.idR] 81)).alloc (.cells #[.int .i64 0,.slice none 0 0,.slice none 0 0,.slice none 0 0,.slice none 0 0] 37))=w2 at *
 refine (zcc (hkeep w2 hf2) p.id hids.1).mono ?_
 rintro e w3 ⟨-,hfd,hb3⟩
 obtain⟨gr',egr,rfl⟩:=hfd k hpos
 cases egr
 have hf3:=hf2.trans (Frm.ofBelow hb3 [pb])
 obtain⟨k1,ck,n1,cn,t1,ct,a1,ca,-,e0,e1,e2,e3,e4,e5,e6,e7,e8,r1,r2,r3,r4⟩:=(hkeep w3 hf3).own hkl
 rw [hpe]at e0 e1 e2 e3 e4 e5 e6 e7 e8 r1 r2 r3 r4
 have li3:=li2.all hb3
 have lr3:=lr2.all hb3
 have lp3:=lp2.all hb3
 have hs3:=hb3.size
 have HX:=hide (And.intro li3 (And.intro lr3 (And.intro lp3 (And.intro hf3 (And.intro r2 (And.intro r3 r4))))))
 have HY:=hide (And.intro hK (And.intro hsp (And.intro hkeep hbel)))
 have HP:=hide (And.intro hp (And.intro hids hpv))
 clear li2 lr2 lp2 hf2 hb3 hpos hpe hids hp hK hsp hkeep hbel r1 r2 r3 r4 li3 lr3 lp3 hf3 hfd hpv
 go_wp2_with fail
 clear e0 e1 e2 e3 e4 e5 e6 e7 e8
 refine (zfh w3 p k1 n1 t1 a1 ck cn ct ca).mono ?_
 rintro e w31 ⟨rfl,hb31⟩
 go_wp2_with fail
 obtain⟨li3,lr3,lp3,hf3,r2,r3,r4⟩:=zaa HX
 obtain⟨hK,hsp,hkeep,hbel⟩:=zaa HY
 obtain⟨hp,hids,hpv⟩:=zaa HP
 clear HX HY HP
 have hf31:=hf3.trans (Frm.ofBelow hb31 [pb])
 have hbw:=hbel w31 hf31
 refine (zeg 0 w31 _ _ _ _ _ (zaG p) ⟨_,_,_,_,rfl,hK.1,hK.2,r2.keep hbw,r3.keep hbw,r4.keep hbw,Nat.zero_le _,.inl ⟨rfl,rfl⟩⟩ (by
  have e:szT 1 (zaG p)=p.name.length+p.text.length+szA p.attrs+(([]:List (Tr 0)).length+(([]:List (Tr 0)).map (szT 0)).sum):=rfl
  unfold zcY at hsp
  rw [e]
  simp only [List.length_nil,List.map_nil,List.sum_nil]
  omega)).mono ?_
 rintro e w32 ⟨p2,k2,p3,k3,p4,k4,rfl,Fa,o1,o2,o3,nd0,rg0,hb32⟩
 have ekk:(zaG p).kind=p.kind:=rfl
 have enn:(zaG p).name=p.name:=rfl
 have ett:(zaG p).text=p.text:=rfl
 have eaa:(zaG p).attrs=p.attrs:=rfl
 rw [ekk,enn,ett,eaa]
 rw [enn]at o1 nd0 rg0
 rw [ett]at o2 nd0 rg0
 rw [eaa]at o3
 clear ekk enn ett eaa
 have hbo:Below w32.heap.size w32 (w32.alloc (.cells #[.int .i64 p.kind,.slice p2 p.name.length k2,.slice p3 p.text.length k3,.slice p4 p.attrs.length k4,.slice none 0 0] 37)):=(Below.refl _ _).alloc (Nat.le_refl _) _
 have ln3:=Loc.made w32 #[.int .i64 p.kind,.slice p2 p.name.length k2,.slice p3 p.text.length k3,.slice p4 p.attrs.length k4,.slice none 0 0] 37
 have hb33:=zad (zad hb31 hb32) hbo
 have hf33:=hf3.trans (Frm.ofBelow hb33 [pb])
 have li33:=li3.all hb33
 have lr33:=lr3.all hb33
 have lp33:=lp3.all hb33
 have hs31:=hb31.size
 have hs32:=hb32.size
 have o1':=o1.keep hbo
 have o2':=o2.keep hbo
 have o3':=OwAttrs.frm o3 (Frm.ofBelow hbo []) (fun _ _=>by simp)
 have hszn:(w32.alloc (.cells #[.int .i64 p.kind,.slice p2 p.name.length k2,.slice p3 p.text.length k3,.slice p4 p.attrs.length k4,.slice none 0 0] 37)).heap.size=w32.heap.size+1:=by simp
 have b0:=li33.cell 0
 have b1:=li33.cell 1
 simp at b0 b1
 have HX:=hide (And.intro li33 (And.intro lr33 (And.intro lp33 (And.intro hf33 (And.intro o1' (And.intro o2' (And.intro o3' (And.intro nd0 (And.intro rg0 (And.intro ln3 hszn))))))))))
 have HY:=hide (And.intro hK (And.intro hkeep hbel))
 have HP:=hide (And.intro hp hpv)
 clear li3 lr3 lp3 hf3 r2 r3 r4 hf31 hbw o1 o2 o3 nd0 rg0 hbo ln3 hb33 hf33 li33 lr33 lp33 o1' o2' o3' hb31 hb32 hszn hK hkeep hbel hp hpv hids hsp
 go_wp2_with fail
 obtain⟨li33,lr33,lp33,hf33,o1,o2,o3,nd0,rg0,ln3,hszn⟩:=zaa HX
 obtain⟨hK,hkeep,hbel⟩:=zaa HY
 obtain⟨hp,hpv⟩:=zaa HP
 obtain⟨hu,hkinds,hsm,hpn⟩:=zaa HU
 clear HX HY HP b0 b1
 generalize (w32.alloc (.cells #[.int .i64 p.kind,.slice p2 p.name.length k2,.slice p3 p.text.length k3,.slice p4 p.attrs.length k4,.slice none 0 0] 37))=w33 at *
 generalize hnb:w32.heap.size=nb at *
 refine (zhJ (hkeep w33 hf33) (hbel w33 hf33) h2 hu (p.idN,p.idR)).mono ?_
 rintro e w4 ⟨av,cv,ks,F',rfl,hQ,hQr,hQs,hb4⟩
 have hf4:=hf33.trans (Frm.ofBelow hb4 [pb])
 have li4:=li33.all hb4
 have lr4:=lr33.all hb4
 have lp4:=lp33.all hb4
 have ln4:=ln3.all hb4
 have hs4:=hb4.size
 replace o1:=o1.keep hb4
 replace o2:=o2.keep hb4
 replace o3:=OwAttrs.frm o3 (Frm.ofBelow hb4 []) (fun _ _=>by simp)
 have rg4:=rg0.mono (lo':=w.heap.size+2) (hi':=w4.heap.size) (by omega) (by omega)
 have hlk:ks.length=(zao l p.id).length:=by
  have:=congrArg List.length hQs
  rw [List.length_map,List.length_map]at this
  exact this
 have hks9:ks.length≤100000:=by
  have h9:=zcz (l:=l) p.id l.length
  have h8:=zaa HLN
  have:(zao l p.id).length≤l.length:=h9
  omega
 have hpb2:pb<w.heap.size:=hpl
 have hnb2:w.heap.size+2≤nb:=by omega
 have hnb3:nb<w4.heap.size:=by omega
 have hne1:∀q∈FB (.slice p2 p.name.length k2)++FB (.slice p3 p.text.length k3)++Fa,q∉[w.heap.size+1]:=fun q hq e=>by have:=rg4 q hq;simp at e;omega
 clear li33 lr33 lp33 ln3 hf33
 go_wp2_with fail
 have hdd:deep=20:=by omega
 subst hdd
 have hpz:=zhm hp left
 have hfin:∀W,Frm w4 W [w.heap.size+1]→Loc W (w.heap.size+1) #[.int .i64 p.kind,.slice p2 p.name.length k2,.slice p3 p.text.length k3,.slice p4 p.attrs.length k4,.slice none 0 0] 37→Q (.returned (.agg #[.int .i64 p.kind,.slice p2 p.name.length k2,.slice p3 p.text.length k3,.slice p4 p.attrs.length k4,.slice none 0 0])) W:=fun W hf hl=>by
  refine zaa HQ _ _ ⟨p.kind,_,_,_,_,_,_,_,_,_,_,_,_,rfl,_,?_,nd0,rg4.mono (by omega) hf.size,?_,?_⟩
  ·rw [hpz]
   exact⟨_,_,_,_,Fa,[],rfl,hK.1,hK.2,o1.frm hf (fun q hq=>hne1 q (by simp [hq])),o2.frm hf (fun q hq=>hne1 q (by simp [hq])),OwAttrs.frm o3 hf (fun q hq=>hne1 q (by simp [hq])),OwElems.naught _ _ _ _,by simp⟩
  ·rw [hpz]
   have:=lp4.frm hf (by simp;omega)
   rw [show pv+1=120-(left-1) by omega]at this
   exact this
  ·exact hf4.new hf (fun g hg=>by simp at hg;omega)
 have HF:=hide hfin
 clear hfin hpz
 refine wp_loop_rounds 1 ?_
 rw [rounds_succ]
 have hd20:((20:Int) == 20)=true:=rfl
 by_cases hk0:0<ks.length
 ·have hk1:(0:Int)<(ks.length:Int):=by omega
  obtain⟨gz,hgz⟩:∃gz,av=some ⟨gz,0,none⟩:=by
   obtain⟨_,_,_,_,_,hrow,_⟩:=hQ
   rcases hrow.2 with ⟨_,e0⟩ | ⟨g',cap',cur,e0,_⟩
   ·omega
   ·injection e0 with e1 _ _;exact⟨g',e1⟩
  subst hgz
  obtain⟨zk1,zck,zn1,zcn,zt1,zct,za1,zca,q0,q1,q2,q3,q4,q5,q6,q7,q8⟩:=hQ.at hk0
  generalize ks[0]=zp at *
  simp only [Nat.zero_mul,Nat.zero_add]at q0 q1 q2 q3 q4 q5 q6 q7 q8
  have hb5:Below w4.heap.size w4 (w4.alloc (.cells #[.int .i64 zp.idN,.int .i64 zp.idR,.int .i64 zp.parN,.int .i64 zp.parR,.slice zk1 zp.key.length zck,.int .i64 zp.kind,.slice zn1 zp.name.length zcn,.slice zt1 zp.text.length zct,.slice za1 zp.attrs.length zca] 117)):=(Below.refl _ _).alloc (Nat.le_refl _) _
  have lr5:=lr4.all hb5
  have ln5:=ln4.all hb5
  obtain⟨y0,y1,y2,y3,y4⟩:=ln5.five
  obtain⟨z0,z1,z2,z3,z4⟩:=lr5.five
  have i0_:=lr5.frozen 0
  have i1_:=lr5.frozen 1
  have i2_:=lr5.frozen 2
  have i3_:=lr5.frozen 3
  have i4_:=lr5.frozen 4
  obtain⟨lX,fX⟩:=zby lr5 (.int .i64 p.kind) (.slice p2 p.name.length k2) (.slice p3 p.text.length k3) (.slice p4 p.attrs.length k4) (.slice none 0 0)
  have HE:=hide (zaa HF _ ((Frm.ofBelow hb5 [w.heap.size+1]).trans fX) lX)
  clear lX fX hQ hf4 ln4 lr4 lp4 li4 o1 o2 o3 hb5 lr5 ln5
  go_wp2_with fail
  exact bodyPost_ret (v:=.agg #[.int .i64 p.kind,.slice p2 p.name.length k2,.slice p3 p.text.length k3,.slice p4 p.attrs.length k4,.slice none 0 0]) (by simp [results,Tryz.results61,go_sem,z0,z1,z2,z3,z4]) rfl (zaa HE)
 ·have hk1:¬ (0:Int)<(ks.length:Int):=by omega
  obtain⟨y0,y1,y2,y3,y4⟩:=ln4.five
  obtain⟨z0,z1,z2,z3,z4⟩:=lr4.five
  have i0_:=lr4.frozen 0
  have i1_:=lr4.frozen 1
  have i2_:=lr4.frozen 2
  have i3_:=lr4.frozen 3
  have i4_:=lr4.frozen 4
  obtain⟨lX,fX⟩:=zby lr4 (.int .i64 p.kind) (.slice p2 p.name.length k2) (.slice p3 p.text.length k3) (.slice p4 p.attrs.length k4) (.slice none 0 0)
  have HE:=hide (zaa HF _ fX lX)
  clear lX fX hQ hf4 ln4 lr4 lp4 li4 o1 o2 o3
  go_wp2_with fail
  exact bodyPost_ret (v:=.agg #[.int .i64 p.kind,.slice p2 p.name.length k2,.slice p3 p.text.length k3,.slice p4 p.attrs.length k4,.slice none 0 0]) (by simp [results,Tryz.results61,go_sem,z0,z1,z2,z3,z4]) rfl (zaa HE)
set_option maxHeartbeats 12800000 in
theorem zny (m:Nat) (ih:zeR m):zeR (m+1):=by
 intro w0 w g mb gr c l F k p left pv deep pb h hb0 h2 hu hkinds hsm hpn hpw hlp hpv hp hl0 hl1 hdeep hdp0
 refine zaf ?_
 intro Q HQ
 obtain⟨i0,hi0,hz0,hz1,hz2⟩:=info_parts Tryz.info37
 have hkl:k<l.length:=(List.getElem?_eq_some_iff.1 hp).1
 have hpe:l[k]=p:=(List.getElem?_eq_some_iff.1 hp).2
 have hmem:p∈l:=by rw [←hpe];exact List.getElem_mem _
 have hK:=hkinds p hmem
 have hsp:=hsm p hmem
 have hids:=h.ids p hmem
 have hkeep:∀W,Frm w W [pb]→FoQ w0 W g mb (some ⟨gr,0,none⟩) c l F:=fun W f=>h.frm f (fun e=>hpn (by simp at e;simp [e])) (fun e=>hpn (by simp at e;simp [e])) (fun q hq e=>hpn (by simp at e;subst e;simp [hq])) (fun q hq=>by simp at hq;subst hq;exact Cells.ofL hlp)
 have hbel:∀W,Frm w W [pb]→Below w0.heap.size w0 W:=fun W f=>hb0.trans (f.below hb0.size (fun q hq=>by simp at hq;omega))
 have hpos:posP l p.id=some k:=zfG hu hp
 have hpl:=hlp.lt
 have li:=(Loc.made (w.setCell ⟨pb,0,none⟩ (.int .i64 (pv+1))) #[.int .i64 p.idN,.int .i64 p.idR] 81).alloc (.cells #[.int .i64 0,.slice none 0 0,.slice none 0 0,.slice none 0 0,.slice none 0 0] 37)
 have lr:=Loc.made ((w.setCell ⟨pb,0,none⟩ (.int .i64 (pv+1))).alloc (.cells #[.int .i64 p.idN,.int .i64 p.idR] 81)) #[.int .i64 0,.slice none 0 0,.slice none 0 0,.slice none 0 0,.slice none 0 0] 37
 have lp:=((hlp.set 0 (.int .i64 (pv+1))).alloc (.cells #[.int .i64 p.idN,.int .i64 p.idR] 81)).alloc (.cells #[.int .i64 0,.slice none 0 0,.slice none 0 0,.slice none 0 0,.slice none 0 0] 37)
 have hszs:(w.setCell ⟨pb,0,none⟩ (.int .i64 (pv+1))).heap.size=w.heap.size:=by simp
 simp only [World.size_alloc,hszs]at li lr
 have hbS:Below (w.setCell ⟨pb,0,none⟩ (.int .i64 (pv+1))).heap.size (w.setCell ⟨pb,0,none⟩ (.int .i64 (pv+1))) (((w.setCell ⟨pb,0,none⟩ (.int .i64 (pv+1))).alloc (.cells #[.int .i64 p.idN,.int .i64 p.idR] 81)).alloc (.cells #[.int .i64 0,.slice none 0 0,.slice none 0 0,.slice none 0 0,.slice none 0 0] 37)):=((Below.refl _ _).alloc (Nat.le_refl _) _).alloc (by simp) _
 have hbA:Below w.heap.size w ((w.alloc (.cells #[.int .i64 p.idN,.int .i64 p.idR] 81)).alloc (.cells #[.int .i64 0,.slice none 0 0,.slice none 0 0,.slice none 0 0,.slice none 0 0] 37)):=((Below.refl _ _).alloc (Nat.le_refl _) _).alloc (by simp) _
 have hf2:Frm w (((w.setCell ⟨pb,0,none⟩ (.int .i64 (pv+1))).alloc (.cells #[.int .i64 p.idN,.int .i64 p.idR] 81)).alloc (.cells #[.int .i64 0,.slice none 0 0,.slice none 0 0,.slice none 0 0,.slice none 0 0] 37)) [pb]:=(Frm.set _ _ _ _).trans (Frm.ofBelow hbS [pb])
 have hs2:(((w.setCell ⟨pb,0,none⟩ (.int .i64 (pv+1))).alloc (.cells #[.int .i64 p.idN,.int .i64 p.idR] 81)).alloc (.cells #[.int .i64 0,.slice none 0 0,.slice none 0 0,.slice none 0 0,.slice none 0 0] 37)).heap.size=w.heap.size+2:=by simp
 have xl:((w.alloc (.cells #[.int .i64 p.idN,.int .i64 p.idR] 81)).alloc (.cells #[.int .i64 0,.slice none 0 0,.slice none 0 0,.slice none 0 0,.slice none 0 0] 37)).cell? ⟨pb,0,none⟩=some (.int .i64 pv):=(hbA.cell (p:=⟨pb,0,none⟩) hpl).trans (hlp.cell 0)
 have xf:((w.alloc (.cells #[.int .i64 p.idN,.int .i64 p.idR] 81)).alloc (.cells #[.int .i64 0,.slice none 0 0,.slice none 0 0,.slice none 0 0,.slice none 0 0] 37)).frozen? ⟨pb,0,none⟩=false:=((hlp.alloc (.cells #[.int .i64 p.idN,.int .i64 p.idR] 81)).alloc (.cells #[.int .i64 0,.slice none 0 0,.slice none 0 0,.slice none 0 0,.slice none 0 0] 37)).frozen 0
 have b0:=li.cell 0
 have b1:=li.cell 1
 simp at b0 b1
 have hpw1:IntKind.i64.wrap (pv+1)=pv+1:=by simp [IntKind.wrap,IntKind.bits,IntKind.signed];omega
 have HX:=hide (And.intro li (And.intro lr (And.intro lp (And.intro hf2 hs2))))
 have HY:=hide (And.intro hK (And.intro hsp (And.intro hkeep (And.intro hbel hpos))))
 have HP:=hide (And.intro hp (And.intro hpe hids))
 have HU:=hide (And.intro hu (And.intro hkinds (And.intro hsm hpn)))
 have HV:=hide hpv
 have HLN:=hide h.len
 clear li lr lp hbA hbS hszs hf2 hs2 hK hsp hkeep hbel hpos hp hpe hids hu hkinds hsm hpn hmem h hlp hb0 hpv
 go_enter Tryz.func61,Tryz.ntmps61
 go_wp2_with fail
 obtain⟨li2,lr2,lp2,hf2,hs2⟩:=zaa HX
 obtain⟨hK,hsp,hkeep,hbel,hpos⟩:=zaa HY
 obtain⟨hp,hpe,hids⟩:=zaa HP
 have hpv:=zaa HV
 clear HX HY HP xl xf b0 b1
 generalize (((w.setCell ⟨pb,0,none⟩ (.int .i64 (pv+1))).alloc (.cells #[.int .i64 p.idN,.int .i64 p.idR] 81)).alloc (.cells #[.int .i64 0,.slice none 0 0,.slice none 0 0,.slice none 0 0,.slice none 0 0] 37))=w2 at *
 refine (zcc (hkeep w2 hf2) p.id hids.1).mono ?_
 rintro e w3 ⟨-,hfd,hb3⟩
 obtain⟨gr',egr,rfl⟩:=hfd k hpos
 cases egr
 have hf3:=hf2.trans (Frm.ofBelow hb3 [pb])
 obtain⟨k1,ck,n1,cn,t1,ct,a1,ca,-,e0,e1,e2,e3,e4,e5,e6,e7,e8,r1,r2,r3,r4⟩:=(hkeep w3 hf3).own hkl
 rw [hpe]at e0 e1 e2 e3 e4 e5 e6 e7 e8 r1 r2 r3 r4
 have li3:=li2.all hb3
 have lr3:=lr2.all hb3
 have lp3:=lp2.all hb3
 have hs3:=hb3.size
 have HX:=hide (And.intro li3 (And.intro lr3 (And.intro lp3 (And.intro hf3 (And.intro r2 (And.intro r3 r4))))))
 have HY:=hide (And.intro hK (And.intro hsp (And.intro hkeep hbel)))
 have HP:=hide (And.intro hp (And.intro hids hpv))
 clear li2 lr2 lp2 hf2 hb3 hpos hpe hids hp hK hsp hkeep hbel r1 r2 r3 r4 li3 lr3 lp3 hf3 hfd hpv
 go_wp2_with fail
 clear e0 e1 e2 e3 e4 e5 e6 e7 e8
 refine (zfh w3 p k1 n1 t1 a1 ck cn ct ca).mono ?_
 rintro e w31 ⟨rfl,hb31⟩
 go_wp2_with fail
 obtain⟨li3,lr3,lp3,hf3,r2,r3,r4⟩:=zaa HX
 obtain⟨hK,hsp,hkeep,hbel⟩:=zaa HY
 obtain⟨hp,hids,hpv⟩:=zaa HP
 clear HX HY HP
 have hf31:=hf3.trans (Frm.ofBelow hb31 [pb])
 have hbw:=hbel w31 hf31
 refine (zeg 0 w31 _ _ _ _ _ (zaG p) ⟨_,_,_,_,rfl,hK.1,hK.2,r2.keep hbw,r3.keep hbw,r4.keep hbw,Nat.zero_le _,.inl ⟨rfl,rfl⟩⟩ (by
  have e:szT 1 (zaG p)=p.name.length+p.text.length+szA p.attrs+(([]:List (Tr 0)).length+(([]:List (Tr 0)).map (szT 0)).sum):=rfl
  unfold zcY at hsp
  rw [e]
  simp only [List.length_nil,List.map_nil,List.sum_nil]
  omega)).mono ?_
 rintro e w32 ⟨p2,k2,p3,k3,p4,k4,rfl,Fa,o1,o2,o3,nd0,rg0,hb32⟩
 have ekk:(zaG p).kind=p.kind:=rfl
 have enn:(zaG p).name=p.name:=rfl
 have ett:(zaG p).text=p.text:=rfl
 have eaa:(zaG p).attrs=p.attrs:=rfl
 rw [ekk,enn,ett,eaa]
 rw [enn]at o1 nd0 rg0
 rw [ett]at o2 nd0 rg0
 rw [eaa]at o3
 clear ekk enn ett eaa
 have hbo:Below w32.heap.size w32 (w32.alloc (.cells #[.int .i64 p.kind,.slice p2 p.name.length k2,.slice p3 p.text.length k3,.slice p4 p.attrs.length k4,.slice none 0 0] 37)):=(Below.refl _ _).alloc (Nat.le_refl _) _
 have ln3:=Loc.made w32 #[.int .i64 p.kind,.slice p2 p.name.length k2,.slice p3 p.text.length k3,.slice p4 p.attrs.length k4,.slice none 0 0] 37
 have hb33:=zad (zad hb31 hb32) hbo
 have hf33:=hf3.trans (Frm.ofBelow hb33 [pb])
 have li33:=li3.all hb33
 have lr33:=lr3.all hb33
 have lp33:=lp3.all hb33
 have hs31:=hb31.size
 have hs32:=hb32.size
 have o1':=o1.keep hbo
 have o2':=o2.keep hbo
 have o3':=OwAttrs.frm o3 (Frm.ofBelow hbo []) (fun _ _=>by simp)
 have hszn:(w32.alloc (.cells #[.int .i64 p.kind,.slice p2 p.name.length k2,.slice p3 p.text.length k3,.slice p4 p.attrs.length k4,.slice none 0 0] 37)).heap.size=w32.heap.size+1:=by simp
 have b0:=li33.cell 0
 have b1:=li33.cell 1
 simp at b0 b1
 have HX:=hide (And.intro li33 (And.intro lr33 (And.intro lp33 (And.intro hf33 (And.intro o1' (And.intro o2' (And.intro o3' (And.intro nd0 (And.intro rg0 (And.intro ln3 hszn))))))))))
 have HY:=hide (And.intro hK (And.intro hkeep hbel))
 have HP:=hide (And.intro hp hpv)
 clear li3 lr3 lp3 hf3 r2 r3 r4 hf31 hbw o1 o2 o3 nd0 rg0 hbo ln3 hb33 hf33 li33 lr33 lp33 o1' o2' o3' hb31 hb32 hszn hK hkeep hbel hp hpv hids hsp
 go_wp2_with fail
 obtain⟨li33,lr33,lp33,hf33,o1,o2,o3,nd0,rg0,ln3,hszn⟩:=zaa HX
 obtain⟨hK,hkeep,hbel⟩:=zaa HY
 obtain⟨hp,hpv⟩:=zaa HP
 obtain⟨hu,hkinds,hsm,hpn⟩:=zaa HU
 clear HX HY HP b0 b1
 generalize (w32.alloc (.cells #[.int .i64 p.kind,.slice p2 p.name.length k2,.slice p3 p.text.length k3,.slice p4 p.attrs.length k4,.slice none 0 0] 37))=w33 at *
 generalize hnb:w32.heap.size=nb at *
 refine (zhJ (hkeep w33 hf33) (hbel w33 hf33) h2 hu (p.idN,p.idR)).mono ?_
 rintro e w4 ⟨av,cv,ks,F',rfl,hQ,hQr,hQs,hb4⟩
 have hf4:=hf33.trans (Frm.ofBelow hb4 [pb])
 have li4:=li33.all hb4
 have lr4:=lr33.all hb4
 have lp4:=lp33.all hb4
 have ln4:=ln3.all hb4
 have hs4:=hb4.size
 replace o1:=o1.keep hb4
 replace o2:=o2.keep hb4
 replace o3:=OwAttrs.frm o3 (Frm.ofBelow hb4 []) (fun _ _=>by simp)
 have rg4:=rg0.mono (lo':=w.heap.size+2) (hi':=w4.heap.size) (by omega) (by omega)
 have hlk:ks.length=(zao l p.id).length:=by
  have:=congrArg List.length hQs
  rw [List.length_map,List.length_map]at this
  exact this
 have hks9:ks.length≤100000:=by
  have h9:=zcz (l:=l) p.id l.length
  have h8:=zaa HLN
  have:(zao l p.id).length≤l.length:=h9
  omega
 have hpb2:pb<w.heap.size:=hpl
 have hnb2:w.heap.size+2≤nb:=by omega
 have hnb3:nb<w4.heap.size:=by omega
 have hne1:∀q∈FB (.slice p2 p.name.length k2)++FB (.slice p3 p.text.length k3)++Fa,q∉[w.heap.size+1]:=fun q hq e=>by have:=rg4 q hq;simp at e;omega
 clear li33 lr33 lp33 ln3 hf33
 go_wp2_with fail
 have hpz:∀acc lf,prjK (prj l m) (zao l p.id) [] (left-1)=(acc,lf)→_:=fun acc lf he=>zkc (acc:=acc) (lf:=lf) (m:=m) hp he
 have hdne:(deep == 20)=false:=by simp;omega
 have hd9:deep+1+(m:Int)=20:=by omega
 have hd8:(0:Int)≤deep+1:=by omega
 have hdw:IntKind.i64.wrap (deep+1)=deep+1:=by simp [IntKind.wrap,IntKind.bits,IntKind.signed];omega
 have hks8:(ks.length:Int)≤100000:=by omega
 have he2:∀args w,(callFunc 61 args).run Tryz.prog w=.ok (.enter 61 args) w:=enters_of Tryz.func61 (by kernel_rfl) rfl
 have HZ:=hide hpz
 have hkidx:∀j (hj:j<ks.length) (hj':j<(zao l p.id).length),l[(zao l p.id)[j]]? = some ks[j]:=fun j hj hj'=>by
  have:=congrArg (fun x=>x[j]?) hQs
  simp only [List.getElem?_map,List.getElem?_eq_getElem hj]at this
  rw [show zao l (p.idN,p.idR)=zao l p.id from rfl,List.getElem?_eq_getElem hj']at this
  simp at this
  exact this.symm
 have HKI:=hide hkidx
 have HLK:=hide hlk
 have HD:=hide hpv
 clear hpz hkidx hdeep hlk hQs hpv
 go_loopw [28] (fun i wr=>∃(j:Nat) (acc:List (Tr (m+1))) (ka:Option Addr) (cv5:Nat) (Fk:List Nat) (lf pvv:Int),j≤ks.length∧acc.length≤j∧i=.int .i64 (j:Int)∧Loc wr nb #[.int .i64 p.kind,.slice p2 p.name.length k2,.slice p3 p.text.length k3,.slice p4 p.attrs.length k4,.slice ka acc.length cv5] 37∧OwElems wr 37 5 (.slice ka acc.length cv5) acc (OwNode (m+1) wr) Fk∧Fk.Nodup∧Rng Fk w4.heap.size wr.heap.size∧Loc wr pb #[.int .i64 pvv] 3∧Hid (pvv=120-lf)∧0≤lf∧lf≤120∧Hid (prjK (prj l m) ((zao l p.id).drop j) acc lf=prjK (prj l m) (zao l p.id) [] (left-1))∧Frm w4 wr [pb,nb]) (fun i _=>ks.length-(intOf i).toNat)
 case atStart=>exact⟨0,[],none,0,[],left-1,pv+1,Nat.zero_le _,Nat.le_refl _,rfl,ln4,OwElems.naught _ _ _ _,List.nodup_nil,fun q hq=>(by cases hq),lp4,hide (by have:=zaa HD;omega),by omega,by omega,hide rfl,Frm.refl _ _⟩
 case round=>
  obtain⟨j,acc,ka,cv5,Fk,lf,pvv,hj,hal,rfl,lnr,hO,hOn,hOr,lpr,HPV,lf1,lf2,HPK,hfr⟩:=hrel
  have lrr:=lr4.frm hfr (by simp;omega)
  have hs4w:=hfr.size
  have hnF:nb∉Fk:=fun e=>by have:=hOr _ e;omega
  have hlF:pb∉Fk:=fun e=>by have:=hOr _ e;omega
  have hne2:∀q∈FB (.slice p2 p.name.length k2)++FB (.slice p3 p.text.length k3)++Fa,q∉[pb,nb]:=fun q hq e=>by
   have h4:=rg4 q hq
   have h0:=rg0 q hq
   simp at e
   omega
  have hwr:Frm w wr [pb]:=⟨hfr.os.trans hf4.os,hfr.tape.trans hf4.tape,hfr.output.trans hf4.output,by have:=hf4.size;omega,fun i hi hn=>(hfr.block i (by have:=hf4.size;omega) (by simp at hn ⊢;omega)).trans (hf4.block i hi hn)⟩
  have hfin:∀W,Frm wr W [w.heap.size+1]→prjK (prj l m) (zao l p.id) [] (left-1)=(acc,lf)→Q (.returned (.agg #[.int .i64 p.kind,.slice p2 p.name.length k2,.slice p3 p.text.length k3,.slice p4 p.attrs.length k4,.slice ka acc.length cv5])) W:=fun W hf he=>by
   have hne3:∀q∈FB (.slice p2 p.name.length k2)++FB (.slice p3 p.text.length k3)++Fa,q∉[w.heap.size+1]:=hne1
   have p1:=(o1.frm hfr (fun q hq=>hne2 q (by simp [hq]))).frm hf (fun q hq=>hne3 q (by simp [hq]))
   have p2':=(o2.frm hfr (fun q hq=>hne2 q (by simp [hq]))).frm hf (fun q hq=>hne3 q (by simp [hq]))
   have p3':=OwAttrs.frm (OwAttrs.frm o3 hfr (fun q hq=>hne2 q (by simp [hq]))) hf (fun q hq=>hne3 q (by simp [hq]))
   refine zaa HQ _ _ ⟨p.kind,_,_,_,_,_,_,_,_,_,_,_,_,rfl,FB (.slice p2 p.name.length k2)++FB (.slice p3 p.text.length k3)++Fa++Fk,?_,zbS (lo:=0) nd0 hOn (rg4.mono (Nat.zero_le _) (Nat.le_refl _)) hOr,(rg4.mono (by omega) (by have:=hf.size;omega)).app (hOr.mono (by omega) hf.size),?_,?_⟩
   ·rw [(zaa HZ _ _ he).1]
    exact⟨_,_,_,_,Fa,Fk,rfl,hK.1,hK.2,p1,p2',p3',OwElems.frm hO hf (fun q hq=>by have:=hOr q hq;simp;omega) (fun C x G hr hG=>OwNode.frm hr hf hG),rfl⟩
   ·rw [(zaa HZ _ _ he).2]
    have:=lpr.frm hf (by simp;omega)
    rw [zaa HPV]at this
    exact this
   ·exact⟨hf.os.trans hwr.os,hf.tape.trans hwr.tape,hf.output.trans hwr.output,by have:=hf.size;have:=hwr.size;omega,fun i hi hn=>(hf.block i (by have:=hwr.size;omega) (by simp;omega)).trans (hwr.block i hi hn)⟩
  by_cases hjl:j<ks.length
  ·have hjl':(j:Int)<(ks.length:Int):=by omega
   have hj0:(0:Int)≤(j:Int):=by omega
   have hjK:j<(zao l p.id).length:=by have:=zaa HLK;omega
   obtain⟨gz,hgz⟩:∃gz,av=some ⟨gz,0,none⟩:=by
    obtain⟨_,_,_,_,_,hrow,_⟩:=hQ
    rcases hrow.2 with ⟨_,e0⟩ | ⟨g',cap',cur,e0,_⟩
    ·omega
    ·injection e0 with e1 _ _;exact⟨g',e1⟩
   subst hgz
   obtain⟨zk1,zck,zn1,zcn,zt1,zct,za1,zca,q0,q1,q2,q3,q4,q5,q6,q7,q8⟩:=(PlsQ.frm hQ hfr (fun q hq=>by have:=hQr q hq;simp;omega)).at hjl
   have hkj:=zaa HKI j hjl hjK
   generalize ks[j]=zp at *
   have lk:=Loc.made wr #[.int .i64 zp.idN,.int .i64 zp.idR,.int .i64 zp.parN,.int .i64 zp.parR,.slice zk1 zp.key.length zck,.int .i64 zp.kind,.slice zn1 zp.name.length zcn,.slice zt1 zp.text.length zct,.slice za1 zp.attrs.length zca] 117
   have hBa:Below wr.heap.size wr (wr.alloc (.cells #[.int .i64 zp.idN,.int .i64 zp.idR,.int .i64 zp.parN,.int .i64 zp.parR,.slice zk1 zp.key.length zck,.int .i64 zp.kind,.slice zn1 zp.name.length zcn,.slice zt1 zp.text.length zct,.slice za1 zp.attrs.length zca] 117)):=(Below.refl _ _).alloc (Nat.le_refl _) _
   have xp:(wr.alloc (.cells #[.int .i64 zp.idN,.int .i64 zp.idR,.int .i64 zp.parN,.int .i64 zp.parR,.slice zk1 zp.key.length zck,.int .i64 zp.kind,.slice zn1 zp.name.length zcn,.slice zt1 zp.text.length zct,.slice za1 zp.attrs.length zca] 117)).cell? ⟨pb,0,none⟩=some (.int .i64 pvv):=(lpr.all hBa).cell 0
   have hsa:(wr.alloc (.cells #[.int .i64 zp.idN,.int .i64 zp.idR,.int .i64 zp.parN,.int .i64 zp.parR,.slice zk1 zp.key.length zck,.int .i64 zp.kind,.slice zn1 zp.name.length zcn,.slice zt1 zp.text.length zct,.slice za1 zp.attrs.length zca] 117)).heap.size=wr.heap.size+1:=by simp
   by_cases hlf:lf≤0
   ·have hpve:(pvv == 120)=true:=by have:=zaa HPV;simp;omega
    have hstop:prjK (prj l m) (zao l p.id) [] (left-1)=(acc,lf):=by rw [←zaa HPK,zin _ _ _ _ hlf]
    have lna:=lnr.all hBa
    have lra:=lrr.all hBa
    obtain⟨y0,y1,y2,y3,y4⟩:=lna.five
    obtain⟨z0,z1,z2,z3,z4⟩:=lra.five
    have i0_:=lra.frozen 0
    have i1_:=lra.frozen 1
    have i2_:=lra.frozen 2
    have i3_:=lra.frozen 3
    have i4_:=lra.frozen 4
    obtain⟨lX,fX⟩:=zby lra (.int .i64 p.kind) (.slice p2 p.name.length k2) (.slice p3 p.text.length k3) (.slice p4 p.attrs.length k4) (.slice ka acc.length cv5)
    have HE:=hide (hfin _ ((Frm.ofBelow hBa [w.heap.size+1]).trans fX) hstop)
    clear lX fX hfin hstop hO hOn hOr lpr lrr lnr HPK hfr lna lra hBa lk
    go_wp2_with fail
    exact bodyPost_ret (v:=.agg #[.int .i64 p.kind,.slice p2 p.name.length k2,.slice p3 p.text.length k3,.slice p4 p.attrs.length k4,.slice ka acc.length cv5]) (by simp [results,Tryz.results61,go_sem,z0,z1,z2,z3,z4]) rfl (zaa HE)
   have hpve:(pvv == 120)=false:=by have:=zaa HPV;simp;omega
   have hnx:=zaa HPK
   rw [ziW _ (zao l p.id) j hjK acc lf hlf]at hnx
   have hrng:=zkA hsm m (zao l p.id)[j] lf (by omega)
   have hwa:Frm w (wr.alloc (.cells #[.int .i64 zp.idN,.int .i64 zp.idR,.int .i64 zp.parN,.int .i64 zp.parR,.slice zk1 zp.key.length zck,.int .i64 zp.kind,.slice zn1 zp.name.length zcn,.slice zt1 zp.text.length zct,.slice za1 zp.attrs.length zca] 117)).drew [pb]:=hwr.trans (Frm.ofBelow hBa.drew [pb])
   have HI:=hide (ih w0 (wr.alloc (.cells #[.int .i64 zp.idN,.int .i64 zp.idR,.int .i64 zp.parN,.int .i64 zp.parR,.slice zk1 zp.key.length zck,.int .i64 zp.kind,.slice zn1 zp.name.length zcn,.slice zt1 zp.text.length zct,.slice za1 zp.attrs.length zca] 117)).drew g mb gr c l F (zao l p.id)[j] zp lf pvv (deep+1) pb (hkeep _ hwa) (hbel _ hwa) h2 hu hkinds hsm hpn hpw (lpr.all hBa.drew) (zaa HPV) hkj (by omega) lf2 hd9 hd8)
   have HNX:=hide hnx
   have lnd:=lnr.all hBa.drew
   have hOd:=OwElems.keepN hO hBa.drew
   have lkd:=lk.all (Below.refl _ _).drew
   generalize hkjj:(zao l p.id)[j]=kj at *
   obtain⟨pr,hpr⟩:∃pr,pr=prj l m kj lf:=⟨_,rfl⟩
   rw [←hpr]at HI HNX hrng
   have HRG:=hide (show 0≤pr.2∧pr.2≤120 from ⟨hrng.1,by have:=hrng.2;have h9:(0:Int)≤((szT (m+1) pr.1:Nat):Int):=(by omega);omega⟩)
   have hkvF:∀q∈FB (.slice ka acc.length cv5),q∈Fk:=fun q hq=>by
    obtain⟨_,_,_,_,_,_,rfl⟩:=hO
    exact List.mem_append_left _ hq
   have hld:pb≠nb:=by omega
   have hol:=OwElems.len hO
   have HWA:=hide (And.intro hwr hBa)
   clear hnx hkjj hpr hrng hfin HPK hkeep hbel hkinds hsm hu hkj lnr lrr lpr hO HPV hwr hwa
   go_wp2_with fail
   have hBa:=(zaa HWA).2
   generalize (wr.alloc (.cells #[.int .i64 zp.idN,.int .i64 zp.idR,.int .i64 zp.parN,.int .i64 zp.parR,.slice zk1 zp.key.length zck,.int .i64 zp.kind,.slice zn1 zp.name.length zcn,.slice zt1 zp.text.length zct,.slice za1 zp.attrs.length zca] 117))=wa at *
   clear q0 q1 q2 q3 q4 q5 q6 q7 q8 xp
   have c4d:wa.drew.cell? ⟨nb,4,none⟩=some (.slice ka acc.length cv5):=lnd.cell 4
   have k0d:wa.drew.cell? ⟨wr.heap.size,0,none⟩=some (.int .i64 zp.idN):=lkd.cell 0
   have k1d:wa.drew.cell? ⟨wr.heap.size,1,none⟩=some (.int .i64 zp.idR):=lkd.cell 1
   have hdz:wa.drew.heap.size=wa.heap.size:=rfl
   go_region_law
    (first
     | (refine ziO (by rfl) 61 [.tmp 42,.tmp 44,.tmp 46,.tmp 47] #[113,81,3,125] (by rfl) he2 [.pointer (some ⟨g,0,none⟩),.agg #[.int .i64 zp.idN,.int .i64 zp.idR],.int .i64 (deep+1),.pointer (some ⟨pb,0,none⟩)] (by rfl) (zaa HI) ?_;clear HI;rintro e w7 ⟨kd,a1,n1,c1,a2,n2,c2,a3,n3,c3,a4,n4,c4,rfl,G,hG,ndG,rG,lp7,hf7⟩;have ln7:=lnd.frm hf7 (by simpa using fun e=>hld e.symm);have c47:w7.cell? ⟨nb,4,none⟩=some (.slice ka acc.length cv5):=ln7.cell 4;have hb8:Below w7.heap.size w7 (w7.alloc (.cells #[.int .i64 kd,.slice a1 n1 c1,.slice a2 n2 c2,.slice a3 n3 c3,.slice a4 n4 c4] 37)):=(Below.refl _ _).alloc (Nat.le_refl _) _;have ln8:=ln7.all hb8;have c48:(w7.alloc (.cells #[.int .i64 kd,.slice a1 n1 c1,.slice a2 n2 c2,.slice a3 n3 c3,.slice a4 n4 c4] 37)).cell? ⟨nb,4,none⟩=some (.slice ka acc.length cv5):=ln8.cell 4;refine⟨_,rfl,?_⟩)
     | (refine zbO (R:=OwNode (m+1)) (fun h f d=>OwNode.frm h f d) (by rfl) (.tmp 41) (.tmp 49) 35 (by rfl) 37 i0 (.agg #[.int .i64 0,.slice none 0 0,.slice none 0 0,.slice none 0 0,.slice none 0 0]) 5 104 Tryz.underlying35 hi0 hz0 hz1 hz2 rfl (by decide) _ acc Fk (by rfl) (OwElems.keepN (OwElems.frm hOd hf7 (fun q hq e=>hlF (by simp at e;exact e ▸ hq)) (fun C x G hr hG=>OwNode.frm hr hf7 hG)) hb8) hOn ⟨w7.heap.size,0,none⟩ 1 [.int .i64 kd,.slice a1 n1 c1,.slice a2 n2 c2,.slice a3 n3 c3,.slice a4 n4 c4] pr.1 G (by rfl) rfl (ziH w7 _ _ _ _ _ _) (by intro y hy;simp at hy;rcases hy with rfl | rfl | rfl | rfl | rfl<;>rfl) (OwNode.keep hG hb8) ndG (fun g hg hg'=>by have h1:=(hOr g hg).2;have:=(rG g hg').1;omega) (fun q hq=>by have h1:=hf7.size;have h2:=hb8.size;rcases hq with hq | hq;(have:=(hOr q hq).2;omega);(have:=(rG q hq).2;omega)) (by unfold maxLen;omega) (by omega) ?_;intro g9 cap9 w9 F9 hF9 hN9 hM9 hf9 hg9;have ln9:=ln8.frm hf9 (fun e=>hnF (hkvF _ e));have c49:w9.cell? ⟨nb,4,none⟩=some (.slice ka acc.length cv5):=ln9.cell 4;have z49:=ln9.frozen 4))
   all_goals
    have s7:=hf7.size
    have s8:=hb8.size
    have s9:=hf9.size
    have sa:=hBa.size
    have lp9:=(lp7.all hb8).frm hf9 (fun e=>hlF (hkvF _ e))
    have hrF9:Rng F9 w4.heap.size w9.heap.size:=fun q hq=>⟨by
     have h9:=hM9 q hq
     simp only [World.size_alloc]at h9
     rcases h9 with k | k | k
     ·exact (hOr q k).1
     ·have:=(rG q k).1;omega
     ·omega,OwElems.lt hF9 (fun C x G h=>OwNode.lt h) q hq⟩
    have hn9:nb∉F9:=fun e=>by have:=hrF9 _ e;omega
    have hfr9:Frm w4 w9 [pb,nb]:=⟨hf9.os.trans (hb8.os.trans (hf7.os.trans (hBa.os.trans hfr.os))),hf9.tape.trans (hb8.tape.trans (hf7.tape.trans (hBa.tape.trans hfr.tape))),hf9.output.trans (hb8.output.trans (hf7.output.trans (hBa.output.trans hfr.output))),by omega,fun i hi hn=>by
     have e1:=hf9.block i (by omega) (fun e=>by have:=(hOr i (hkvF i e)).1;omega)
     have e2:=hb8.block i (by omega)
     have e3:=hf7.block i (by show i<wa.heap.size;omega) (fun e=>hn (by simp at e ⊢;exact .inl e))
     have e4:wa.drew.heap[i]? = wr.heap[i]? :=hBa.block i (by omega)
     exact e1.trans (e2.trans (e3.trans (e4.trans (hfr.block i hi hn))))⟩
    have fS:=Frm.set w9 nb 4 (.slice (some ⟨g9,0,none⟩) (acc.length+1) cap9)
    have lnS:=ln9.set 4 (.slice (some ⟨g9,0,none⟩) (acc.length+1) cap9)
    have lpS:=lp9.frm fS (by simpa using hld)
    have hOS:OwElems (w9.setCell ⟨nb,4,none⟩ (.slice (some ⟨g9,0,none⟩) (acc.length+1) cap9)) 37 5 (.slice (some ⟨g9,0,none⟩) (acc.length+1) cap9) (acc++[pr.1]) (OwNode (m+1) (w9.setCell ⟨nb,4,none⟩ (.slice (some ⟨g9,0,none⟩) (acc.length+1) cap9))) F9:=OwElems.frm hF9 fS (fun q hq e=>hn9 (by simp at e;exact e ▸ hq)) (fun C x G hr hG=>OwNode.frm hr fS hG)
    have hfrS:=hfr9.trans (fS.mono (by simp))
    have HO:=hide (And.intro lnS (And.intro lpS (And.intro hOS (And.intro hfrS (hrF9.mono (Nat.le_refl _) fS.size)))))
    clear lnS lpS hOS hfrS hOd hOr hOn lp9 ln9 ln8 ln7 lnd hfr9 fS hF9 hf9 hb8 hf7 hG
    go_wp2_with fail
    go_roundw
    case rel=>
     obtain⟨lnS,lpS,hOS,hfrS,hrS⟩:=zaa HO
     have hla:(acc++[pr.1]).length=acc.length+1:=by simp
     exact⟨j+1,acc++[pr.1],some ⟨g9,0,none⟩,cap9,F9,pr.2,120-pr.2,by omega,by rw [hla];omega,by go_num,by rw [hla];exact lnS,by rw [hla];exact hOS,hN9,hrS,lpS,hide rfl,(zaa HRG).1,(zaa HRG).2,HNX,hfrS⟩
    case measure=>simp [intOf];omega
  ·have hjl':¬ (j:Int)<(ks.length:Int):=by omega
   have hjK:¬ j<(zao l p.id).length:=by have:=zaa HLK;omega
   have hstop:prjK (prj l m) (zao l p.id) [] (left-1)=(acc,lf):=by rw [←zaa HPK,List.drop_eq_nil_of_le (by have:=zaa HLK;omega)];rfl
   obtain⟨y0,y1,y2,y3,y4⟩:=lnr.five
   obtain⟨z0,z1,z2,z3,z4⟩:=lrr.five
   have i0_:=lrr.frozen 0
   have i1_:=lrr.frozen 1
   have i2_:=lrr.frozen 2
   have i3_:=lrr.frozen 3
   have i4_:=lrr.frozen 4
   obtain⟨lX,fX⟩:=zby lrr (.int .i64 p.kind) (.slice p2 p.name.length k2) (.slice p3 p.text.length k3) (.slice p4 p.attrs.length k4) (.slice ka acc.length cv5)
   have HE:=hide (hfin _ fX hstop)
   clear lX fX hfin hstop hO hOn hOr lpr lrr lnr HPK hfr
   go_wp2_with fail
   exact bodyPost_ret (v:=.agg #[.int .i64 p.kind,.slice p2 p.name.length k2,.slice p3 p.text.length k3,.slice p4 p.attrs.length k4,.slice ka acc.length cv5]) (by simp [results,Tryz.results61,go_sem,z0,z1,z2,z3,z4]) rfl (zaa HE)
theorem zkx:∀m,zeR m
 | 0=>zom
 | m+1=>zny m (zkx m)
end Go.Proofs.YtlpnibbdmkeklaaGreatDoor
namespace Go.Proofs.YtlpnibbdmkeklaaGreatDoor
open Go.RowKit Go.Maps
set_option linter.unusedVariables false
set_option maxRecDepth 100000
open Classical in
set_option maxHeartbeats 3200000 in
theorem zfb {w0:World} {w:World} {g mb:Nat} {a:Option Addr} {c:Nat} {l:List PlV} {F:List Nat} (h:FoQ w0 w g mb a c l F) (hB0:Below w0.heap.size w0 w) (i:IdV) (hi:okI i) :
  Calls Tryz.prog 91 #[.pointer (some ⟨g,0,none⟩),zap i] w fun e w'=>e=.returned (.bool (zae l i))∧FoQ w0 w' g mb a c l F∧Frm w w' [g]:=by
 refine zaf ?_
 intro Q HQ
 have HB0:=hide hB0
 clear hB0
 have hA:Below w.heap.size w (w.alloc (.cells #[.int .i64 i.1,.int .i64 i.2] 81)):=(Below.refl _ _).alloc (Nat.le_refl _) _
 have h1:=h.keep hA
 have HF:=hide (zcc h1 i hi)
 have HA:=hide (And.intro hA h1)
 clear h hA h1 hi
 unfold zap at *
 go_enter Tryz.func91,Tryz.ntmps91
 go_wp2_with fail
 refine (zaa HF).mono ?_
 rintro e w2 ⟨hn,hs,hb2⟩
 obtain⟨hA,h1⟩:=zaa HA
 have h2:=h1.keep hb2
 have hA2:=zad hA hb2
 clear HF HA hb2 h1 hA
 cases hp:posP l i with
 | none=>
  obtain rfl:=hn hp
  have HE:=hide (zaa HQ (.returned (.bool false)) w2.drew ⟨by rw [zgQ hp],h2.keep ((Below.refl _ _).drew),Frm.ofBelow (hA2.drew) _⟩)
  clear hs hn h2 hA2 HQ
  go_wp2_with fail
  go_region
  go_wp2_with fail
  exact zaa HE
 | some k=>
  obtain⟨gr,rfl,rfl⟩:=hs k hp
  have hk:k<l.length:=(posP_some.1 hp).1
  have hd2:=h2.keep ((Below.refl _ _).drew)
  obtain⟨k1,ck,n1,cn,t1,ct,a1,ca,Fa,_,_,_,_,_,e5,e6,_,_,_,oN,_,_⟩:=hd2.own hk
  have ht:=zgC hp hk
  obtain⟨p,hpe⟩:∃p,p=l[k]:=⟨_,rfl⟩
  rw [←hpe]at ht e5 e6 oN
  have hfd:=Frm.ofBelow (hA2.drew) [g]
  by_cases h0:p.kind=0
  ·have hB:mb+1≤w2.drew.heap.size:=hd2.map.lt
   have hnm:∀w',Frm w2.drew w' [g]→Byt w' (.slice n1 p.name.length cn) p.name:=fun w' f=>oN.keep (((zad (zaa HB0) hA2).drew).trans (f.below (zad (zaa HB0) hA2).drew.size (fun q hq=>by have e9:q=g:=(by simpa using hq);rw [e9];exact hd2.geg)))
   have HC:=hide (zjz (mb+1) (.slice (some ⟨gr,0,none⟩) l.length c) (.map (some mb)) g w2.drew (.slice n1 p.name.length cn) p.name hd2.set hB hnm)
   have hvv:decide (Void p.name)=zar p.name:=by
    cases hv:zar p.name with
    | true=>exact decide_eq_true ((zaT _).1 hv)
    | false=>exact decide_eq_false (fun e=>by rw [(zaT _).2 e]at hv;cases hv)
   rw [hvv]at HC
   have hgr:gr≠g:=fun e=>by
    obtain⟨gr',hg1,hg2⟩:=hd2.at (by omega)
    injection hg1 with hg1
    injection hg1 with hg1 _ _
    exact hd2.gF (by rw [←e,hg1];exact hg2)
   have HNE:=hide (show ∀w',Frm w2.drew w' [g]→∀j,w'.cell? ⟨gr,j,none⟩=w2.drew.cell? ⟨gr,j,none⟩ from fun w' f j=>World.cell?_of_block (f.block gr (zaI e6) (by simpa using hgr)))
   have HZ:=hide (And.intro hd2 (And.intro hfd ht))
   clear hd2 hfd ht h2 hA2 hs hn oN hnm hvv hpe
   rw [h0]at e5
   go_wp2_with fail
   go_region_held3 (fun w'=>w'.cell? ⟨gr,k*9+5,none⟩=some (.int .i64 0)∧w'.cell? ⟨gr,k*9+6,none⟩=some (.slice n1 p.name.length cn))
    (first | exact⟨by assumption,by assumption⟩ | simp [*])
    (first | (go_at_call 85;refine (zaa HC).mono ?_;rintro e w3 ⟨rfl,hmd,hf3⟩;have z5:=(zaa HNE w3 hf3 (k*9+5)).trans e5;have z6:=(zaa HNE w3 hf3 (k*9+6)).trans e6))
   obtain⟨hd2,hfd,ht⟩:=zaa HZ
   have h3:FoQ w0 w3 g mb (some ⟨gr,0,none⟩) c l F:=⟨.inr hmd,hd2.map.frm hf3 (by simpa using fun e=>hd2.gm e.symm),hd2.row.frm hf3 (fun q hq e=>hd2.gF (by have e9:q=g:=(by simpa using e);rw [←e9];exact hq)),hd2.nd,hd2.ge,hd2.geg,hd2.gem,hd2.ids,hd2.len⟩
   have HE:=hide (zaa HQ (.returned (.bool (zae l i))) w3 ⟨rfl,h3,hfd.trans hf3⟩)
   rw [ht,decide_eq_true h0,Bool.true_and]at HE
   clear h3 hd2 hfd ht HZ HC HQ hmd hf3
   go_wp2_with fail
   exact zaa HE
  ·have HE:=hide (fun n=>zaa HQ (.returned (.bool false)) (w2.drewN n) ⟨by rw [ht,decide_eq_false h0];rfl,h2.keep (below_drewN (Below.refl _ _) _),Frm.ofBelow (zad hA2 (below_drewN (Below.refl _ _) _)) _⟩)
   have e5':w2.cell? ⟨gr,k*9+5,none⟩=some (.int .i64 p.kind):=e5
   have h0':(p.kind == 0)=false:=by simpa using h0
   clear h0 hpe hp
   clear hd2 hfd ht h2 hA2 hs hn oN HQ
   go_wp2_with fail
   go_quiet (fail)
   go_wp2_with fail
   exact zaa HE _
set_option maxHeartbeats 6400000 in
theorem zlg {w0:World} {w:World} {g mb:Nat} {a:Option Addr} {c:Nat} {l:List PlV} {F:List Nat} (h:FoQ w0 w g mb a c l F) (hF:FrW l) (hG:Glo w) (i o:IdV) (hi:okI i) (k0:Nat) (hk0:posP l i=some k0) :
  Calls Tryz.prog 93 #[.pointer (some ⟨g,0,none⟩),zap i,zap o] w fun e w'=>e=.returned (.bool (zav l l.length i o))∧Below w.heap.size w w':=by
 refine zaf ?_
 intro Q HQ
 have hA:Below w.heap.size w ((w.alloc (.cells #[.int .i64 i.1,.int .i64 i.2] 81)).alloc (.cells #[.int .i64 o.1,.int .i64 o.2] 81)):=zad ((Below.refl _ _).alloc (Nat.le_refl _) _) ((Below.refl _ _).alloc (Nat.le_refl _) _)
 have l0:=(Loc.made w #[.int .i64 i.1,.int .i64 i.2] 81).alloc (.cells #[.int .i64 o.1,.int .i64 o.2] 81)
 have l1:=Loc.made (w.alloc (.cells #[.int .i64 i.1,.int .i64 i.2] 81)) #[.int .i64 o.1,.int .i64 o.2] 81
 simp only [World.size_alloc]at l1
 have h1:=h.keep hA
 have hG1:=hG.keep hA
 obtain⟨cs,lg,hc0,_⟩:=h1.set.loc
 have g0:(((w.alloc (.cells #[.int .i64 i.1,.int .i64 i.2] 81)).alloc (.cells #[.int .i64 o.1,.int .i64 o.2] 81))).cell? ⟨g,0,none⟩=some (.slice a l.length c):=(lg.cell 0).trans hc0
 have hlen:=h1.len
 have LL:=hide (And.intro hA (And.intro l0 (And.intro l1 (And.intro h1 hG1))))
 have HF:=hide hF
 have HI:=hide (And.intro hi hk0)
 have HGG:=hide (show g≠w.heap.size∧g≠w.heap.size+1∧2≤w.heap.size from ⟨by have:=h.set.lt;omega,by have:=h.set.lt;omega,by have h9:=zaI hG.2.2.1;exact h9⟩)
 clear h hA l0 l1 h1 hG hG1 lg hc0 hF hi hk0
 unfold zap at *
 go_enter Tryz.func93,Tryz.ntmps93
 go_wp2_with fail
 go_step3
 go_wp2_with fail
 go_step3
 go_wp2_with fail
 obtain⟨hA,l0,l1,h1,hG1⟩:=zaa LL
 clear LL
 generalize ((w.alloc (.cells #[.int .i64 i.1,.int .i64 i.2] 81)).alloc (.cells #[.int .i64 o.1,.int .i64 o.2] 81))=w1 at *
 have LZ:=hide l0
 go_loopw [12] (fun x wr=>∃(j:Nat) (i':IdV),j≤l.length∧x=.int .i64 (j:Int)∧Hid (zav l (l.length-j) i' o=zav l l.length i o)∧Hid (okI i')∧(∃k,posP l i'=some k)∧Loc wr w.heap.size #[.int .i64 i'.1,.int .i64 i'.2] 81∧Frm w1 wr [w.heap.size]) (fun x _=>l.length-(intOf x).toNat)
 case atStart=>exact⟨0,i,Nat.zero_le _,rfl,hide rfl,hide (zaa HI).1,⟨k0,(zaa HI).2⟩,l0,Frm.refl _ _⟩
 case round=>
  clear l0 g0
  obtain⟨j,i',hj,rfl,HW,HO,⟨k,hk⟩,l0,hf⟩:=hrel
  have l1r:=l1.frm hf (by simp)
  have hGr:=hG1.frm hf (fun q hq=>by have e:q=w.heap.size:=(by simpa using hq);have:=(zaa HGG).2.2;omega)
  have hr:=h1.frm hf (by simpa using (zaa HGG).1) (fun e=>by have e9:mb=w.heap.size:=(by simpa using e);exact h1.box (q:=mb) (cs:=_) (T:=81) (by rw [e9];exact (show Loc w1 w.heap.size _ 81 from zaa LZ)) (by decide) (by decide) (by simp)) (fun q hq e=>by have e9:q=w.heap.size:=(by simpa using e);exact h1.box (q:=q) (by rw [e9];exact (zaa LZ)) (by decide) (by decide) (by simp [hq])) (fun q hq=>by have e9:q=w.heap.size:=(by simpa using hq);rw [e9];exact Cells.ofL (zaa LZ))
  obtain⟨iN,iR⟩:=i'
  obtain⟨oN,oR⟩:=o
  have b0:wr.cell? ⟨w.heap.size,0,none⟩=some (.int .i64 iN):=l0.cell 0
  have b1:wr.cell? ⟨w.heap.size,1,none⟩=some (.int .i64 iR):=l0.cell 1
  have c0:wr.cell? ⟨w.heap.size+1,0,none⟩=some (.int .i64 oN):=l1r.cell 0
  have c1:wr.cell? ⟨w.heap.size+1,1,none⟩=some (.int .i64 oR):=l1r.cell 1
  obtain⟨y0,y1,y2,y3⟩:=hGr
  have hBr:Below w.heap.size w wr:=hA.trans (hf.below hA.size (fun q hq=>by have e:q=w.heap.size:=(by simpa using hq);omega))
  by_cases hlt:j<l.length
  ·have hlt':(j:Int)<(l.length:Int):=by omega
   obtain⟨n,hn⟩:∃n,l.length-j=n+1:=⟨l.length-j-1,by omega⟩
   have hw:=zaa HW
   rw [hn]at hw
   by_cases e1:iN=oN
   ·by_cases e2:iR=oR
    ·have heq:(iN,iR)=(oN,oR):=by rw [e1,e2]
     have d1:(iN == oN)=true:=by simpa using e1
     have d2:(iR == oR)=true:=by simpa using e2
     have HE:=hide (zaa HQ (.returned (.bool true)) wr ⟨by rw [←hw,heq,zhp],hBr⟩)
     clear hw HW HQ HO hr l1r l0 hf hBr h1 l1 hA hk HI HF hn
     clear heq e1 e2
     go_wp2_with fail
     exact zaa HE
    ·have hne:(iN,iR)≠(oN,oR):=fun e=>e2 (Prod.mk.inj e).2
     have d1:(iN == oN)=true:=by simpa using e1
     have d2:(iR == oR)=false:=by simpa using e2
     clear e1 e2
     by_cases z1:iN=0
     ·by_cases z2:iR=0
      ·have htop:(iN,iR)=zak∨(iN,iR)=zag:=.inl (by rw [z1,z2];rfl)
       have w1_:(iN == 0)=true:=by simpa using z1
       have w2_:(iR == 0)=true:=by simpa using z2
       clear z1 z2
       have HE:=hide (zaa HQ (.returned (.bool false)) wr ⟨by rw [←hw,zbR hne htop],hBr⟩)
       clear hw HW HQ HO hr l1r l0 hf hBr h1 l1 hA hk HI HF hn
       clear hne htop
       go_wp2_with fail
       exact zaa HE
      ·by_cases z3:iR=1
       ·have htop:(iN,iR)=zak∨(iN,iR)=zag:=.inr (by rw [z1,z3];rfl)
        have w1_:(iN == 0)=true:=by simpa using z1
        have w2_:(iR == 0)=false:=by simpa using z2
        have w3_:(iR == 1)=true:=by simpa using z3
        clear z1 z2 z3
        have HE:=hide (zaa HQ (.returned (.bool false)) wr ⟨by rw [←hw,zbR hne htop],hBr⟩)
        clear hw HW HQ HO hr l1r l0 hf hBr h1 l1 hA hk HI HF hn
        clear hne htop
        go_wp2_with fail
        exact zaa HE
       ·have htop:¬ ((iN,iR)=zak∨(iN,iR)=zag):=fun e=>by rcases e with e | e;(exact z2 (Prod.mk.inj e).2);(exact z3 (Prod.mk.inj e).2)
        have w1_:(iN == 0)=true:=by simpa using z1
        have w2_:(iR == 0)=false:=by simpa using z2
        have w3_:(iR == 1)=false:=by simpa using z3
        clear z1 z2 z3
        have hkl:k<l.length:=(posP_some.1 hk).1
        have h2k:2≤k:=by
         rcases Nat.lt_or_ge k 2 with h9 | h9
         ·exact absurd (((zaa HF).low hk).1 h9) htop
         ·exact h9
        have hup:=hw.symm.trans (zcb (n:=n) hne htop hk hkl)
        obtain⟨k',hk'⟩:=(zaa HF).par k l[k] h2k (by simp [hkl])
        have hop:=(hr.ids l[k] (List.getElem_mem hkl)).2
        have HFD:=hide (zcc hr (iN,iR) (zaa HO))
        unfold zap at HFD
        have HK:=hide (And.intro hk (And.intro h2k (And.intro hup (And.intro hk' (And.intro hop (And.intro hr (And.intro l0 hf)))))))
        clear hw HW HQ HO hr l1r l0 hf hBr hk hne htop h2k hup hk' hop h1 l1 hA
        go_wp2_with fail
        refine (zaa HFD).mono ?_
        rintro e w4 ⟨hn4,hs4,hb4⟩
        obtain⟨hk,h2k,hup,hk',hop,hr,l0,hf⟩:=zaa HK
        obtain⟨gr,rfl,rfl⟩:=hs4 k hk
        have hb:=hb4
        have h4:=hr.keep hb
        obtain⟨k1,ck,n1,cn,t1,ct,a1,ca,Fa,_,_,p2,p3,_⟩:=h4.own hkl
        have l4:=l0.all hb
        have q0:=l4.cell 0
        have q1:=l4.cell 1
        have qf0:=l4.frozen 0
        have qf1:=l4.frozen 1
        have lX:=(l4.set 0 (.int .i64 l[k].parN)).set 1 (.int .i64 l[k].parR)
        have fX:=hf.trans ((Frm.ofBelow hb _).trans ((zab w4 w.heap.size 0 (.int .i64 l[k].parN)).trans (zab _ w.heap.size 1 (.int .i64 l[k].parR))))
        have HE:=hide (And.intro lX (And.intro fX (And.intro hup (And.intro hk' hop))))
        clear hk h2k hup hk' hop hr l0 hf h4 l4 lX fX HK HFD hn4 hs4 hb4 hb
        generalize l[k]=pk at *
        go_wp2_with fail
        go_roundw
        case rel=>exact⟨j+1,(pk.parN,pk.parR),by omega,by go_num,hide (by rw [show l.length-(j+1)=n by omega];exact (zaa HE).2.2.1.symm),hide (zaa HE).2.2.2.2,⟨k',(zaa HE).2.2.2.1⟩,(zaa HE).1,(zaa HE).2.1⟩
        case measure=>simp [intOf];omega
     ·have htop:¬ ((iN,iR)=zak∨(iN,iR)=zag):=fun e=>by rcases e with e | e<;>exact z1 (Prod.mk.inj e).1
      have w1_:(iN == 0)=false:=by simpa using z1
      clear z1
      have hkl:k<l.length:=(posP_some.1 hk).1
      have h2k:2≤k:=by
       rcases Nat.lt_or_ge k 2 with h9 | h9
       ·exact absurd (((zaa HF).low hk).1 h9) htop
       ·exact h9
      have hup:=hw.symm.trans (zcb (n:=n) hne htop hk hkl)
      obtain⟨k',hk'⟩:=(zaa HF).par k l[k] h2k (by simp [hkl])
      have hop:=(hr.ids l[k] (List.getElem_mem hkl)).2
      have HFD:=hide (zcc hr (iN,iR) (zaa HO))
      unfold zap at HFD
      have HK:=hide (And.intro hk (And.intro h2k (And.intro hup (And.intro hk' (And.intro hop (And.intro hr (And.intro l0 hf)))))))
      clear hw HW HQ HO hr l1r l0 hf hBr hk hne htop h2k hup hk' hop h1 l1 hA
      go_wp2_with fail
      refine (zaa HFD).mono ?_
      rintro e w4 ⟨hn4,hs4,hb4⟩
      obtain⟨hk,h2k,hup,hk',hop,hr,l0,hf⟩:=zaa HK
      obtain⟨gr,rfl,rfl⟩:=hs4 k hk
      have hb:=hb4
      have h4:=hr.keep hb
      obtain⟨k1,ck,n1,cn,t1,ct,a1,ca,Fa,_,_,p2,p3,_⟩:=h4.own hkl
      have l4:=l0.all hb
      have q0:=l4.cell 0
      have q1:=l4.cell 1
      have qf0:=l4.frozen 0
      have qf1:=l4.frozen 1
      have lX:=(l4.set 0 (.int .i64 l[k].parN)).set 1 (.int .i64 l[k].parR)
      have fX:=hf.trans ((Frm.ofBelow hb _).trans ((zab w4 w.heap.size 0 (.int .i64 l[k].parN)).trans (zab _ w.heap.size 1 (.int .i64 l[k].parR))))
      have HE:=hide (And.intro lX (And.intro fX (And.intro hup (And.intro hk' hop))))
      clear hk h2k hup hk' hop hr l0 hf h4 l4 lX fX HK HFD hn4 hs4 hb4 hb
      generalize l[k]=pk at *
      go_wp2_with fail
      go_roundw
      case rel=>exact⟨j+1,(pk.parN,pk.parR),by omega,by go_num,hide (by rw [show l.length-(j+1)=n by omega];exact (zaa HE).2.2.1.symm),hide (zaa HE).2.2.2.2,⟨k',(zaa HE).2.2.2.1⟩,(zaa HE).1,(zaa HE).2.1⟩
      case measure=>simp [intOf];omega
   ·have hne:(iN,iR)≠(oN,oR):=fun e=>e1 (Prod.mk.inj e).1
    have d1:(iN == oN)=false:=by simpa using e1
    clear e1
    by_cases z1:iN=0
    ·by_cases z2:iR=0
     ·have htop:(iN,iR)=zak∨(iN,iR)=zag:=.inl (by rw [z1,z2];rfl)
      have w1_:(iN == 0)=true:=by simpa using z1
      have w2_:(iR == 0)=true:=by simpa using z2
      clear z1 z2
      have HE:=hide (zaa HQ (.returned (.bool false)) wr ⟨by rw [←hw,zbR hne htop],hBr⟩)
      clear hw HW HQ HO hr l1r l0 hf hBr h1 l1 hA hk HI HF hn
      clear hne htop
      go_wp2_with fail
      exact zaa HE
     ·by_cases z3:iR=1
      ·have htop:(iN,iR)=zak∨(iN,iR)=zag:=.inr (by rw [z1,z3];rfl)
       have w1_:(iN == 0)=true:=by simpa using z1
       have w2_:(iR == 0)=false:=by simpa using z2
       have w3_:(iR == 1)=true:=by simpa using z3
       clear z1 z2 z3
       have HE:=hide (zaa HQ (.returned (.bool false)) wr ⟨by rw [←hw,zbR hne htop],hBr⟩)
       clear hw HW HQ HO hr l1r l0 hf hBr h1 l1 hA hk HI HF hn
       clear hne htop
       go_wp2_with fail
       exact zaa HE
      ·have htop:¬ ((iN,iR)=zak∨(iN,iR)=zag):=fun e=>by rcases e with e | e;(exact z2 (Prod.mk.inj e).2);(exact z3 (Prod.mk.inj e).2)
       have w1_:(iN == 0)=true:=by simpa using z1
       have w2_:(iR == 0)=false:=by simpa using z2
       have w3_:(iR == 1)=false:=by simpa using z3
       clear z1 z2 z3
       have hkl:k<l.length:=(posP_some.1 hk).1
       have h2k:2≤k:=by
        rcases Nat.lt_or_ge k 2 with h9 | h9
        ·exact absurd (((zaa HF).low hk).1 h9) htop
        ·exact h9
       have hup:=hw.symm.trans (zcb (n:=n) hne htop hk hkl)
       obtain⟨k',hk'⟩:=(zaa HF).par k l[k] h2k (by simp [hkl])
       have hop:=(hr.ids l[k] (List.getElem_mem hkl)).2
       have HFD:=hide (zcc hr (iN,iR) (zaa HO))
       unfold zap at HFD
       have HK:=hide (And.intro hk (And.intro h2k (And.intro hup (And.intro hk' (And.intro hop (And.intro hr (And.intro l0 hf)))))))
       clear hw HW HQ HO hr l1r l0 hf hBr hk hne htop h2k hup hk' hop h1 l1 hA
       go_wp2_with fail
       refine (zaa HFD).mono ?_
       rintro e w4 ⟨hn4,hs4,hb4⟩
       obtain⟨hk,h2k,hup,hk',hop,hr,l0,hf⟩:=zaa HK
       obtain⟨gr,rfl,rfl⟩:=hs4 k hk
       have hb:=hb4
       have h4:=hr.keep hb
       obtain⟨k1,ck,n1,cn,t1,ct,a1,ca,Fa,_,_,p2,p3,_⟩:=h4.own hkl
       have l4:=l0.all hb
       have q0:=l4.cell 0
       have q1:=l4.cell 1
       have qf0:=l4.frozen 0
       have qf1:=l4.frozen 1
       have lX:=(l4.set 0 (.int .i64 l[k].parN)).set 1 (.int .i64 l[k].parR)
       have fX:=hf.trans ((Frm.ofBelow hb _).trans ((zab w4 w.heap.size 0 (.int .i64 l[k].parN)).trans (zab _ w.heap.size 1 (.int .i64 l[k].parR))))
       have HE:=hide (And.intro lX (And.intro fX (And.intro hup (And.intro hk' hop))))
       clear hk h2k hup hk' hop hr l0 hf h4 l4 lX fX HK HFD hn4 hs4 hb4 hb
       generalize l[k]=pk at *
       go_wp2_with fail
       go_roundw
       case rel=>exact⟨j+1,(pk.parN,pk.parR),by omega,by go_num,hide (by rw [show l.length-(j+1)=n by omega];exact (zaa HE).2.2.1.symm),hide (zaa HE).2.2.2.2,⟨k',(zaa HE).2.2.2.1⟩,(zaa HE).1,(zaa HE).2.1⟩
       case measure=>simp [intOf];omega
    ·have htop:¬ ((iN,iR)=zak∨(iN,iR)=zag):=fun e=>by rcases e with e | e<;>exact z1 (Prod.mk.inj e).1
     have w1_:(iN == 0)=false:=by simpa using z1
     clear z1
     have hkl:k<l.length:=(posP_some.1 hk).1
     have h2k:2≤k:=by
      rcases Nat.lt_or_ge k 2 with h9 | h9
      ·exact absurd (((zaa HF).low hk).1 h9) htop
      ·exact h9
     have hup:=hw.symm.trans (zcb (n:=n) hne htop hk hkl)
     obtain⟨k',hk'⟩:=(zaa HF).par k l[k] h2k (by simp [hkl])
     have hop:=(hr.ids l[k] (List.getElem_mem hkl)).2
     have HFD:=hide (zcc hr (iN,iR) (zaa HO))
     unfold zap at HFD
     have HK:=hide (And.intro hk (And.intro h2k (And.intro hup (And.intro hk' (And.intro hop (And.intro hr (And.intro l0 hf)))))))
     clear hw HW HQ HO hr l1r l0 hf hBr hk hne htop h2k hup hk' hop h1 l1 hA
     go_wp2_with fail
     refine (zaa HFD).mono ?_
     rintro e w4 ⟨hn4,hs4,hb4⟩
     obtain⟨hk,h2k,hup,hk',hop,hr,l0,hf⟩:=zaa HK
     obtain⟨gr,rfl,rfl⟩:=hs4 k hk
     have hb:=hb4
     have h4:=hr.keep hb
     obtain⟨k1,ck,n1,cn,t1,ct,a1,ca,Fa,_,_,p2,p3,_⟩:=h4.own hkl
     have l4:=l0.all hb
     have q0:=l4.cell 0
     have q1:=l4.cell 1
     have qf0:=l4.frozen 0
     have qf1:=l4.frozen 1
     have lX:=(l4.set 0 (.int .i64 l[k].parN)).set 1 (.int .i64 l[k].parR)
     have fX:=hf.trans ((Frm.ofBelow hb _).trans ((zab w4 w.heap.size 0 (.int .i64 l[k].parN)).trans (zab _ w.heap.size 1 (.int .i64 l[k].parR))))
     have HE:=hide (And.intro lX (And.intro fX (And.intro hup (And.intro hk' hop))))
     clear hk h2k hup hk' hop hr l0 hf h4 l4 lX fX HK HFD hn4 hs4 hb4 hb
     generalize l[k]=pk at *
     go_wp2_with fail
     go_roundw
     case rel=>exact⟨j+1,(pk.parN,pk.parR),by omega,by go_num,hide (by rw [show l.length-(j+1)=n by omega];exact (zaa HE).2.2.1.symm),hide (zaa HE).2.2.2.2,⟨k',(zaa HE).2.2.2.1⟩,(zaa HE).1,(zaa HE).2.1⟩
     case measure=>simp [intOf];omega
  ·have hlt':¬ (j:Int)<(l.length:Int):=by omega
   have hw:=zaa HW
   rw [show l.length-j=0 by omega]at hw
   have HE:=hide (zaa HQ (.returned (.bool false)) wr ⟨by rw [←hw];rfl,hBr⟩)
   clear hw HW HQ hr l1r l0 hf hBr h1 l1 hA
   go_wp2_with fail
   exact zaa HE
end Go.Proofs.YtlpnibbdmkeklaaGreatDoor
namespace Go.Proofs.YtlpnibbdmkeklaaGreatDoor
open Go.RowKit
set_option linter.unusedVariables false
set_option maxRecDepth 100000
theorem zhU {l:List PlV} {i:Nat} {p:PlV} {id:IdV} (hp:l[i]? = some p):topI l i id=(decide (p.id=id) && decide (p.par=(0,0)) && decide (p.key.length=0) && zae l id):=by
 unfold topI
 rw [hp]
theorem zqo:okI zak:=⟨by kernel_rfl,by kernel_rfl⟩
theorem znZ:okI zag:=⟨by kernel_rfl,by kernel_rfl⟩
set_option maxHeartbeats 6400000 in
theorem zmV {w0 w:World} {g mb gr:Nat} {c:Nat} {l:List PlV} {F:List Nat} (h:FoQ w0 w g mb (some ⟨gr,0,none⟩) c l F) (hB0:Below w0.heap.size w0 w) (hG:Glo w) (h2:2≤l.length) :
  Calls Tryz.prog 59 #[.pointer (some ⟨g,0,none⟩)] w fun e w'=>e=.returned (.bool (topI l 0 zak && topI l 1 zag))∧FoQ w0 w' g mb (some ⟨gr,0,none⟩) c l F∧Frm w w' [g]:=by
 refine zaf ?_
 intro Q HQ
 obtain⟨y0,y1,y2,y3⟩:=hG
 have hA:=(Below.refl w.heap.size w).alloc (Nat.le_refl _) (.cells #[.int .i64 0,.int .i64 0,.int .i64 0,.int .i64 1] 81)
 have ls:=Loc.made w #[.int .i64 0,.int .i64 0,.int .i64 0,.int .i64 1] 81
 have hgl:g<w.heap.size:=h.set.lt
 have HX:=hide (And.intro hA (And.intro ls (And.intro (h.keep hA) (And.intro hB0 hgl))))
 have hgw:=h.geg
 clear hA ls h hB0 hgl
 go_enter Tryz.func59,Tryz.ntmps59
 go_wp2_with fail
 obtain⟨hA,ls,h1,hB0,hgl⟩:=zaa HX
 clear HX y0 y1 y2 y3
 generalize (w.alloc (.cells #[.int .i64 0,.int .i64 0,.int .i64 0,.int .i64 1] 81))=w1 at *
 have hlw:=ls.lt
 have hB01:=hB0.trans (hA.mono hB0.size)
 go_loopw [10] (fun i wr=>∃j:Nat,j≤2∧i=.int .i64 (j:Int)∧(0<j→topI l 0 zak=true)∧(1<j→topI l 1 zag=true)∧FoQ w0 wr g mb (some ⟨gr,0,none⟩) c l F∧Frm w1 wr [g]) (fun i _=>2-(intOf i).toNat)
 case atStart=>exact⟨0,by omega,rfl,fun h=>by omega,fun h=>by omega,h1,Frm.refl _ _⟩
 case round=>
  obtain⟨j,hj,rfl,ht0,ht1,hq,hf⟩:=hrel
  have hb0r:Below w0.heap.size w0 wr:=hB01.trans (hf.below hB01.size (fun q hq=>by simp at hq;omega))
  have lsr:=ls.frm hf (by simp;omega)
  have hswr:=hf.size
  have hgr:g<wr.heap.size:=by omega
  obtain⟨cs,lg,hc0,_⟩:=hq.set.loc
  have g0:wr.cell? ⟨g,0,none⟩=some (.slice (some ⟨gr,0,none⟩) l.length c):=(lg.cell 0).trans hc0
  clear lg hc0
  have hcases:j=0∨j=1∨j=2:=by omega
  rcases hcases with rfl | rfl | rfl
  ·have hJ:0<l.length:=by omega
   obtain⟨k1,ck,n1,cn,t1,ct,a1,ca,-,e0,e1,e2,e3,e4,e5,e6,e7,e8,r1,r2,r3,r4⟩:=hq.own (k:=0) hJ
   have hp:l[0]? = some l[0]:=by simp [hJ]
   generalize l[0]=p at *
   clear r1 r2 r3 r4
   have hti:=zhU (id:=zak) hp
   have hzl:((0:Nat):Int)<(l.length:Int):=by omega
   have s0:=lsr.cell 0
   have s1:=lsr.cell 1
   simp at s0 s1
   simp only [Nat.zero_mul,Nat.zero_add]at e0 e1 e2 e3 e4 e5 e6 e7 e8
   have hgrl:gr<wr.heap.size:=zaI e0
   have li:=(Loc.made wr #[.int .i64 0,.int .i64 0] 81).alloc (.cells #[.int .i64 p.idN,.int .i64 p.idR,.int .i64 p.parN,.int .i64 p.parR,.slice k1 p.key.length ck,.int .i64 p.kind,.slice n1 p.name.length cn,.slice t1 p.text.length ct,.slice a1 p.attrs.length ca] 117)
   have lp:=Loc.made (wr.alloc (.cells #[.int .i64 0,.int .i64 0] 81)) #[.int .i64 p.idN,.int .i64 p.idR,.int .i64 p.parN,.int .i64 p.parR,.slice k1 p.key.length ck,.int .i64 p.kind,.slice n1 p.name.length cn,.slice t1 p.text.length ct,.slice a1 p.attrs.length ca] 117
   have hA3:Below wr.heap.size wr ((wr.alloc (.cells #[.int .i64 0,.int .i64 0] 81)).alloc (.cells #[.int .i64 p.idN,.int .i64 p.idR,.int .i64 p.parN,.int .i64 p.parR,.slice k1 p.key.length ck,.int .i64 p.kind,.slice n1 p.name.length cn,.slice t1 p.text.length ct,.slice a1 p.attrs.length ca] 117)):=((Below.refl _ _).alloc (Nat.le_refl _) _).alloc (by simp) _
   have hq3:=hq.keep hA3
   have hb03:=hb0r.trans (hA3.mono hb0r.size)
   have hf3:=hf.trans (Frm.ofBelow hA3 [g])
   have HT:=hide (zfb hq3 hb03 zak zqo)
   have HB:=hide (And.intro hq3 hf3)
   have HF:=hide (fun (hh:topI l 0 zak=false) W (hq:FoQ w0 W g mb (some ⟨gr,0,none⟩) c l F) (hf:Frm w1 W [g])=>(show Q (.returned (.bool false)) W by
    have:=zaa HQ (.returned (.bool (topI l 0 zak && topI l 1 zag))) W ⟨rfl,hq,(Frm.ofBelow hA [g]).trans hf⟩
    rw [hh,Bool.false_and]at this
    exact this))
   have HTI:=hide hti
   have HTT:=hide (And.intro ht0 ht1)
   clear li lp hA3 hq3 hb03 hf3 hq hf hp lsr hti ht0 ht1 h1 ls hb0r hB0 hB01 hA
   generalize hnK:p.key.length=nK at *
   clear hnK
   by_cases q1:p.idN=0
   case neg=>
    have d1:(p.idN == 0)=false:=by simpa using q1
    have HE:=hide (zaa HF (by rw [zaa HTI,decide_eq_false (show ¬ p.id=zak from fun e=>q1 (Prod.mk.inj e).1)];rfl) _ (zaa HB).1 (zaa HB).2)
    clear q1
    go_wp2_with fail
    exact zaa HE
   by_cases q2:p.idR=0
   case neg=>
    have d1:(p.idN == 0)=true:=by simpa using q1
    have d2:(p.idR == 0)=false:=by simpa using q2
    have HE:=hide (zaa HF (by rw [zaa HTI,decide_eq_false (show ¬ p.id=zak from fun e=>q2 (Prod.mk.inj e).2)];rfl) _ (zaa HB).1 (zaa HB).2)
    clear q1 q2
    go_wp2_with fail
    exact zaa HE
   have d1:(p.idN == 0)=true:=by simpa using q1
   have d2:(p.idR == 0)=true:=by simpa using q2
   have hid:decide (p.id=zak)=true:=decide_eq_true (show (p.idN,p.idR)=_ by rw [q1,q2];rfl)
   rw [hid,Bool.true_and]at HTI
   clear hid q1 q2
   by_cases q3:p.parN=0
   case neg=>
    have d3:(p.parN == 0)=false:=by simpa using q3
    have HE:=hide (zaa HF (by rw [zaa HTI,decide_eq_false (show ¬ p.par=(0,0) from fun e=>q3 (Prod.mk.inj e).1)];rfl) _ (zaa HB).1 (zaa HB).2)
    clear q3
    go_wp2_with fail
    exact zaa HE
   by_cases q4:p.parR=0
   case neg=>
    have d3:(p.parN == 0)=true:=by simpa using q3
    have d4:(p.parR == 0)=false:=by simpa using q4
    have HE:=hide (zaa HF (by rw [zaa HTI,decide_eq_false (show ¬ p.par=(0,0) from fun e=>q4 (Prod.mk.inj e).2)];rfl) _ (zaa HB).1 (zaa HB).2)
    clear q3 q4
    go_wp2_with fail
    exact zaa HE
   have d3:(p.parN == 0)=true:=by simpa using q3
   have d4:(p.parR == 0)=true:=by simpa using q4
   have hid:decide (p.par=(0,0))=true:=decide_eq_true (show (p.parN,p.parR)=_ by rw [q3,q4])
   rw [hid,Bool.true_and]at HTI
   clear hid q3 q4
   by_cases q5:nK=0
   case neg=>
    have d5:0<nK:=by omega
    have HE:=hide (zaa HF (by rw [zaa HTI,decide_eq_false q5];rfl) _ (zaa HB).1 (zaa HB).2)
    clear q5
    go_wp2_with fail
    exact zaa HE
   subst q5
   rw [show decide ((0:Nat)=0)=true from rfl,Bool.true_and]at HTI
   unfold zap at HT
   go_wp2_with fail
   refine (zaa HT).mono ?_
   rintro e W ⟨rfl,hqW,hfW⟩
   have hfw:=(zaa HB).2.trans hfW
   have hti:=zaa HTI
   rw [←hti]
   clear HT HB
   cases htv:topI l 0 zak with
   | false=>
    have HE:=hide (zaa HF htv W hqW hfw)
    clear hqW hfw hfW hti htv
    go_wp2_with fail
    exact zaa HE
   | true=>
    have HE:=hide (And.intro hqW hfw)
    have HV:=hide htv
    clear hqW hfw hfW hti htv
    go_wp2_with fail
    go_roundw
    case rel=>exact⟨0+1,by omega,by go_num,fun _=>zaa HV,fun h=>by omega,(zaa HE).1,(zaa HE).2⟩
    case measure=>simp [intOf]
  ·have hJ:1<l.length:=by omega
   obtain⟨k1,ck,n1,cn,t1,ct,a1,ca,-,e0,e1,e2,e3,e4,e5,e6,e7,e8,r1,r2,r3,r4⟩:=hq.own (k:=1) hJ
   have hp:l[1]? = some l[1]:=by simp [hJ]
   generalize l[1]=p at *
   clear r1 r2 r3 r4
   have hti:=zhU (id:=zag) hp
   have hzl:((1:Nat):Int)<(l.length:Int):=by omega
   have s0:=lsr.cell 2
   have s1:=lsr.cell 3
   simp at s0 s1
   simp only [Nat.one_mul]at e0 e1 e2 e3 e4 e5 e6 e7 e8
   have hgrl:gr<wr.heap.size:=zaI e0
   have li:=(Loc.made wr #[.int .i64 0,.int .i64 1] 81).alloc (.cells #[.int .i64 p.idN,.int .i64 p.idR,.int .i64 p.parN,.int .i64 p.parR,.slice k1 p.key.length ck,.int .i64 p.kind,.slice n1 p.name.length cn,.slice t1 p.text.length ct,.slice a1 p.attrs.length ca] 117)
   have lp:=Loc.made (wr.alloc (.cells #[.int .i64 0,.int .i64 1] 81)) #[.int .i64 p.idN,.int .i64 p.idR,.int .i64 p.parN,.int .i64 p.parR,.slice k1 p.key.length ck,.int .i64 p.kind,.slice n1 p.name.length cn,.slice t1 p.text.length ct,.slice a1 p.attrs.length ca] 117
   have hA3:Below wr.heap.size wr ((wr.alloc (.cells #[.int .i64 0,.int .i64 1] 81)).alloc (.cells #[.int .i64 p.idN,.int .i64 p.idR,.int .i64 p.parN,.int .i64 p.parR,.slice k1 p.key.length ck,.int .i64 p.kind,.slice n1 p.name.length cn,.slice t1 p.text.length ct,.slice a1 p.attrs.length ca] 117)):=((Below.refl _ _).alloc (Nat.le_refl _) _).alloc (by simp) _
   have hq3:=hq.keep hA3
   have hb03:=hb0r.trans (hA3.mono hb0r.size)
   have hf3:=hf.trans (Frm.ofBelow hA3 [g])
   have HT:=hide (zfb hq3 hb03 zag znZ)
   have HB:=hide (And.intro hq3 hf3)
   have HF:=hide (fun (hh:topI l 1 zag=false) W (hq:FoQ w0 W g mb (some ⟨gr,0,none⟩) c l F) (hf:Frm w1 W [g])=>(show Q (.returned (.bool false)) W by
    have:=zaa HQ (.returned (.bool (topI l 0 zak && topI l 1 zag))) W ⟨rfl,hq,(Frm.ofBelow hA [g]).trans hf⟩
    rw [hh,Bool.and_false]at this
    exact this))
   have HTI:=hide hti
   have HTT:=hide (And.intro ht0 ht1)
   clear li lp hA3 hq3 hb03 hf3 hq hf hp lsr hti ht0 ht1 h1 ls hb0r hB0 hB01 hA
   generalize hnK:p.key.length=nK at *
   clear hnK
   by_cases q1:p.idN=0
   case neg=>
    have d1:(p.idN == 0)=false:=by simpa using q1
    have HE:=hide (zaa HF (by rw [zaa HTI,decide_eq_false (show ¬ p.id=zag from fun e=>q1 (Prod.mk.inj e).1)];rfl) _ (zaa HB).1 (zaa HB).2)
    clear q1
    go_wp2_with fail
    exact zaa HE
   by_cases q2:p.idR=1
   case neg=>
    have d1:(p.idN == 0)=true:=by simpa using q1
    have d2:(p.idR == 1)=false:=by simpa using q2
    have HE:=hide (zaa HF (by rw [zaa HTI,decide_eq_false (show ¬ p.id=zag from fun e=>q2 (Prod.mk.inj e).2)];rfl) _ (zaa HB).1 (zaa HB).2)
    clear q1 q2
    go_wp2_with fail
    exact zaa HE
   have d1:(p.idN == 0)=true:=by simpa using q1
   have d2:(p.idR == 1)=true:=by simpa using q2
   have hid:decide (p.id=zag)=true:=decide_eq_true (show (p.idN,p.idR)=_ by rw [q1,q2];rfl)
   rw [hid,Bool.true_and]at HTI
   clear hid q1 q2
   by_cases q3:p.parN=0
   case neg=>
    have d3:(p.parN == 0)=false:=by simpa using q3
    have HE:=hide (zaa HF (by rw [zaa HTI,decide_eq_false (show ¬ p.par=(0,0) from fun e=>q3 (Prod.mk.inj e).1)];rfl) _ (zaa HB).1 (zaa HB).2)
    clear q3
    go_wp2_with fail
    exact zaa HE
   by_cases q4:p.parR=0
   case neg=>
    have d3:(p.parN == 0)=true:=by simpa using q3
    have d4:(p.parR == 0)=false:=by simpa using q4
    have HE:=hide (zaa HF (by rw [zaa HTI,decide_eq_false (show ¬ p.par=(0,0) from fun e=>q4 (Prod.mk.inj e).2)];rfl) _ (zaa HB).1 (zaa HB).2)
    clear q3 q4
    go_wp2_with fail
    exact zaa HE
   have d3:(p.parN == 0)=true:=by simpa using q3
   have d4:(p.parR == 0)=true:=by simpa using q4
   have hid:decide (p.par=(0,0))=true:=decide_eq_true (show (p.parN,p.parR)=_ by rw [q3,q4])
   rw [hid,Bool.true_and]at HTI
   clear hid q3 q4
   by_cases q5:nK=0
   case neg=>
    have d5:0<nK:=by omega
    have HE:=hide (zaa HF (by rw [zaa HTI,decide_eq_false q5];rfl) _ (zaa HB).1 (zaa HB).2)
    clear q5
    go_wp2_with fail
    exact zaa HE
   subst q5
   rw [show decide ((0:Nat)=0)=true from rfl,Bool.true_and]at HTI
   unfold zap at HT
   go_wp2_with fail
   refine (zaa HT).mono ?_
   rintro e W ⟨rfl,hqW,hfW⟩
   have hfw:=(zaa HB).2.trans hfW
   have hti:=zaa HTI
   rw [←hti]
   clear HT HB
   cases htv:topI l 1 zag with
   | false=>
    have HE:=hide (zaa HF htv W hqW hfw)
    clear hqW hfw hfW hti htv
    go_wp2_with fail
    exact zaa HE
   | true=>
    have HE:=hide (And.intro hqW hfw)
    have HV:=hide htv
    clear hqW hfw hfW hti htv
    go_wp2_with fail
    go_roundw
    case rel=>exact⟨1+1,by omega,by go_num,fun _=>(zaa HTT).1 (by omega),fun _=>zaa HV,(zaa HE).1,(zaa HE).2⟩
    case measure=>simp [intOf]
  ·have HE:=hide (zaa HQ (.returned (.bool (topI l 0 zak && topI l 1 zag))) wr ⟨rfl,hq,(Frm.ofBelow hA [g]).trans hf⟩)
   rw [ht0 (by omega),ht1 (by omega)]at HE
   clear hq hf h1 ls lsr hb0r hB0 hB01 hA g0
   go_wp2_with fail
   exact zaa HE
theorem zms (w:World) (a:Option Addr) (n cap:Nat) (h:n<1∨12<n) :
  Calls Tryz.prog 92 #[.slice a n cap] w fun e w'=>e=.returned (.bool false)∧w'=w:=by
 by_cases h1:n<1
 ·have h1':(n:Int)<1:=by omega
  go_enter Tryz.func92,Tryz.ntmps92
  go_wp2
  go_ret
  exact⟨rfl,rfl⟩
 ·have h1':decide ((n:Int)<1)=false:=by simp;omega
  have h2:(12:Int)<(n:Int):=by omega
  go_enter Tryz.func92,Tryz.ntmps92
  go_wp2
  go_ret
  exact⟨rfl,rfl⟩
open Classical in
set_option maxHeartbeats 1600000 in
theorem zqv (w:World) (b off cap:Nat) (l:List Int) (hok:okZ l) (h1:1≤l.length) (h8:l.length≤12)
  (hc:∀i,i<l.length→w.cell? ⟨b,off+i,none⟩=some (.int .i64 (l.getD i 0))) :
  Calls Tryz.prog 92 #[.slice (some ⟨b,off,none⟩) l.length cap] w fun e w'=>e=.returned (.bool (decide (zbI l)))∧w'=w:=by
 have d1:decide ((l.length:Int)<1)=false:=by simp;omega
 have d2:decide ((12:Int)<(l.length:Int))=false:=by simp;omega
 obtain⟨n,hn⟩:∃n,l.length=n+1:=⟨l.length-1,by omega⟩
 obtain⟨z,hz⟩:∃z,z=l.getD n 0:=⟨_,rfl⟩
 have hcz:w.cell? ⟨b,off+n,none⟩=some (.int .i64 z):=by rw [hz];exact hc _ (by omega)
 have HZ:=hide hz
 have HC:=hide hc
 have HN:=hide hn
 have e1:(l.length:Int)-1=(n:Int):=by omega
 have hlt0:n<l.length:=by omega
 clear hc hz hn
 go_enter Tryz.func92,Tryz.ntmps92
 go_wp2
 go_loop [15] (fun i=>∃k:Nat,k≤l.length∧i=.int .i64 k∧zcD zcB l k) (fun i=>l.length-(intOf i).toNat)
 case atStart=>exact⟨0,Nat.zero_le _,rfl,fun i hi=>by omega⟩
 case round=>
  obtain⟨k,hk,rfl,ha⟩:=hrel
  have HA:=hide ha
  clear ha
  by_cases hlt:k<l.length
  ·obtain⟨x,hx⟩:∃x,x=l.getD k 0:=⟨_,rfl⟩
   have hcx:w.cell? ⟨b,off+k,none⟩=some (.int .i64 x):=by rw [hx];exact zaa HC _ hlt
   have HX:=hide hx
   have hlt':(k:Int)<(l.length:Int):=by omega
   clear hx hcz
   by_cases hn:zcB k x
   ·have HN:=hide hn
    have q1:decide (x<0)=false:=by unfold zcB at hn;simp;omega
    have q2:decide (999<x)=false:=by unfold zcB at hn;simp;omega
    clear hn
    go_wp2
    go_round
    case rel=>exact⟨k+1,by omega,by go_num,zcg (zaa HA) (by rw [←zaa HX];exact zaa HN)⟩
    case measure=>simp [intOf];omega
   ·have HF:=hide (show decide (zbI l)=false by
     simp only [decide_eq_false_iff_not]
     rintro⟨_,_,_,h⟩
     exact hn (by rw [zaa HX];exact h k hlt))
    have hcase:decide (x<0)=true∨(decide (x<0)=false∧decide (999<x)=true):=by
     unfold zcB at hn;simp;omega
    clear hn
    rcases hcase with q1 | ⟨q1,q2⟩
    all_goals
     go_wp2
     go_ret
     exact⟨by rw [zaa HF];rfl,rfl⟩
  ·have e:k=l.length:=by omega
   subst e
   by_cases hz0:z=0
   ·have HF:=hide (show decide (zbI l)=false by
     simp only [decide_eq_false_iff_not]
     rintro⟨_,_,h,_⟩
     rw [zaa HN,Nat.add_sub_cancel,←zaa HZ]at h
     exact h hz0)
    have dz:(z != 0)=false:=by simp [hz0]
    clear hz0
    go_wp2
    go_ret
    exact⟨by rw [zaa HF];rfl,rfl⟩
   ·have HF:=hide (show decide (zbI l)=true by
     simp only [decide_eq_true_eq]
     exact⟨h1,h8,by rw [zaa HN,Nat.add_sub_cancel,←zaa HZ];exact hz0,zaa HA⟩)
    have dz:(z != 0)=true:=by simp [hz0]
    clear hz0
    go_wp2
    go_ret
    exact⟨by rw [zaa HF];rfl,rfl⟩
open Classical in
theorem zpT (w:World) (v:Value) (l:List Int) (h:Ints w v l) :
  Calls Tryz.prog 92 #[v] w fun e w'=>e=.returned (.bool (decide (zbI l)))∧w'=w:=by
 by_cases hl:l.length<1∨12<l.length
 ·obtain⟨a,cap,rfl,_⟩:=h.shape
  have hd:decide (zbI l)=false:=by simp only [decide_eq_false_iff_not];rintro⟨_,_,_⟩;omega
  rw [hd]
  exact zms w a _ cap hl
 ·obtain⟨hok,hm,⟨rfl,rfl⟩ | ⟨x,cap,rfl,hc,rfl⟩ | ⟨b,off,cap,rfl,_,_,_,_,h5⟩⟩:=h
  ·simp at hl
  ·simp at hl
  ·exact zqv w b off cap l hok (by omega) (by omega) h5
theorem zkm (w:World) (v:Value) (l:List Int) (h:Ints w v l):Calls Tryz.prog 92 #[v] w fun e w'=>e=.returned (.bool (keyB l))∧w'=w:=by
 refine (zpT w v l h).mono ?_
 rintro e w' ⟨rfl,h⟩
 refine⟨?_,h⟩
 by_cases hn:zbI l
 ·rw [(zei l).2 hn];simp [hn]
 ·rw [Bool.eq_false_iff.2 (fun k=>hn ((zei l).1 k))];simp [hn]
end Go.Proofs.YtlpnibbdmkeklaaGreatDoor
