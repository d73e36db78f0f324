/- Own texts joined: OtI, PjP, FoA, FqA, FoP, PrI, CopyW, InsM, InA, InAO, DlA, OwOne. -/
import Derived.Test.YtlpnibbdmkeklaaGreatDoorJa
import Derived.Test.YtlpnibbdmkeklaaGreatDoorJb
import Derived.Test.YtlpnibbdmkeklaaGreatDoorJc
import Derived.Test.YtlpnibbdmkeklaaGreatDoorJd
import Derived.Test.YtlpnibbdmkeklaaGreatDoorJe
import Derived.Test.YtlpnibbdmkeklaaGreatDoorJf
import Derived.Test.YtlpnibbdmkeklaaGreatDoorJg
import Derived.Test.YtlpnibbdmkeklaaGreatDoorJh
import Derived.Test.YtlpnibbdmkeklaaGreatDoorJi
import Derived.Test.YtlpnibbdmkeklaaGreatDoorJj
import Derived.Deep.RegionLaw
import Derived.Laws.CopyOwn
import Derived.Lib.AppendZerosOnto
import Derived.Lib.Overlaps
import Derived.Lib.Walk
import Derived.Laws.Externs
import Derived.Laws.NewBlocks
import Derived.Deep.AppendLies
import Derived.Deep.CutBlock
namespace Go.Proofs.YtlpnibbdmkeklaaGreatDoor
open Go.RowKit
set_option linter.unusedVariables false
set_option maxRecDepth 100000
theorem zhi {l:List PlV} {f:Nat→PlV→Bool} {i:Nat} {p:PlV} (hp:l[i]? = some p) (h:f i p=false):zbh l f=false:=by
 rw [Bool.eq_false_iff]
 intro h'
 rw [(zbc l f).1 h' i p hp]at h
 cases h
theorem zhh {l:List PlV} {i:Nat} {p:PlV} (h:2≤i):zbq l i p=(keyB p.key && zae l p.par):=by unfold zbq;rw [decide_eq_false (by omega),Bool.false_or]
theorem zpu {l:List PlV} {i:Nat} {p:PlV} (h:2≤i):zbu l i p = !zav l l.length p.par p.id:=by unfold zbu;rw [decide_eq_false (by omega),Bool.false_or]
theorem zjZ {l:List PlV} {i:Nat} {p:PlV} (h:i<2):zbq l i p=true:=by unfold zbq;rw [decide_eq_true h,Bool.true_or]
theorem zjJ {l:List PlV} {i:Nat} {p:PlV} (h:i<2):zbu l i p=true:=by unfold zbu;rw [decide_eq_true h,Bool.true_or]
set_option maxHeartbeats 6400000 in
theorem zkG {w0 w:World} {g mb gr:Nat} {c:Nat} {l:List PlV} {F:List Nat} (h:FoQ w0 w g mb (some ⟨gr,0,none⟩) c l F) (hB0:Below w0.heap.size w0 w) (hG:Glo w) (h2:2≤l.length) (hgw2:2≤g) (hr:∀p,l[0]? = some p→p.id=zak) (ht:∀p,l[1]? = some p→p.id=zag) (hu:(l.map PlV.id).Nodup) :
  Calls Tryz.prog 60 #[.pointer (some ⟨g,0,none⟩)] w fun e w'=>e=.returned (.bool (zbh l (zbq l) && zbh l (zbu l)))∧FoQ w0 w' g mb (some ⟨gr,0,none⟩) c l F∧Frm w w' [g]:=by
 refine zaf ?_
 intro Q HQ
 obtain⟨cs,lg,hc0,_⟩:=h.set.loc
 have g0:w.cell? ⟨g,0,none⟩=some (.slice (some ⟨gr,0,none⟩) l.length c):=(lg.cell 0).trans hc0
 have hcap:l.length≤c:=by
  obtain⟨_,_,_,_,_,hrow,_⟩:=h.row
  rcases hrow.2 with ⟨e,_⟩ | ⟨g',cap',cur,e,_,_,hn,_⟩
  ·cases e
  ·injection e with _ _ e3;omega
 have hgw:=h.geg
 have hgl:g<w.heap.size:=h.set.lt
 have z2:(2:Int)≤(l.length:Int):=by omega
 have zc:(l.length:Int)≤(c:Int):=by omega
 have HX:=hide (And.intro h (And.intro hB0 hG))
 clear h hB0 hG lg hc0
 by_cases hc2:c=2
 ·have hl2:l.length-2=0:=by omega
  have HE:=hide (zaa HQ (.returned (.bool (zbh l (zbq l) && zbh l (zbu l)))) w ⟨rfl,(zaa HX).1,Frm.refl _ _⟩)
  rw [(zbc l _).2 (fun i p hp=>zjZ (by have:=(List.getElem?_eq_some_iff.1 hp).1;omega)),(zbc l _).2 (fun i p hp=>zjJ (by have:=(List.getElem?_eq_some_iff.1 hp).1;omega))]at HE
  subst hc2
  go_enter Tryz.func60,Tryz.ntmps60
  go_wp2_with fail
  refine wp_loop_rounds 1 ?_
  rw [rounds_succ]
  go_wp2_with fail
  refine wp_loop_rounds 1 ?_
  rw [rounds_succ]
  go_wp2_with fail
  exact zaa HE
 obtain⟨m,hm⟩:∃m,l.length=m+2:=⟨l.length-2,by omega⟩
 have hm2:l.length-2=m:=by omega
 have HMM:=hide hm
 have hmb:m≤100000:=by have:=(zaa HX).1.len;omega
 clear hm
 go_enter Tryz.func60,Tryz.ntmps60
 go_wp2_with fail
 obtain⟨h,hB0,hG⟩:=zaa HX
 clear g0
 try rw [hm2]
 clear hm2
 go_loopw [15] (fun i wr=>∃j:Nat,j≤m∧i=.int .i64 (j:Int)∧(∀i p,i<j+2→l[i]? = some p→zbq l i p=true)∧FoQ w0 wr g mb (some ⟨gr,0,none⟩) c l F∧Frm w wr [g]) (fun i _=>m-(intOf i).toNat)
 case atStart=>exact⟨0,Nat.zero_le _,rfl,fun i p hi hp=>zjZ (by omega),h,Frm.refl _ _⟩
 case round=>
  obtain⟨j,hj,rfl,hok,hq,hf⟩:=hrel
  have hm:=zaa HMM
  have hb0r:Below w0.heap.size w0 wr:=hB0.trans (hf.below hB0.size (fun q hq=>by simp at hq;omega))
  have hswr:=hf.size
  by_cases hlt:j<m
  ·have hj2:j+2<l.length:=by omega
   obtain⟨k1,ck,n1,cn,t1,ct,a1,ca,-,e0,e1,e2,e3,e4,e5,e6,e7,e8,r1,r2,r3,r4⟩:=hq.own hj2
   rw [show (j+2)*9=18+j*9 by omega]at e0 e1 e2 e3 e4 e5 e6 e7 e8
   have hp:l[j+2]? = some l[j+2]:=by simp [hj2]
   have hids:=hq.ids l[j+2] (List.getElem_mem _)
   generalize l[j+2]=p at *
   have hlt':(j:Int)<(m:Int):=by omega
   have hj0:(0:Int)≤(j:Int):=by omega
   have hgrl:gr<wr.heap.size:=zaI e0
   have lp:=Loc.made wr #[.int .i64 p.idN,.int .i64 p.idR,.int .i64 p.parN,.int .i64 p.parR,.slice k1 p.key.length ck,.int .i64 p.kind,.slice n1 p.name.length cn,.slice t1 p.text.length ct,.slice a1 p.attrs.length ca] 117
   have hA3:Below wr.heap.size wr (wr.alloc (.cells #[.int .i64 p.idN,.int .i64 p.idR,.int .i64 p.parN,.int .i64 p.parR,.slice k1 p.key.length ck,.int .i64 p.kind,.slice n1 p.name.length cn,.slice t1 p.text.length ct,.slice a1 p.attrs.length ca] 117)):=(Below.refl _ _).alloc (Nat.le_refl _) _
   have hq3:=hq.keep hA3
   have hb03:=hb0r.trans (hA3.mono hb0r.size)
   have hf3:=hf.trans (Frm.ofBelow hA3 [g])
   obtain⟨x0,x1,x2,x3,x4,x5,x6,x7,x8⟩:=zej lp _ _ _ _ _ _ _ _ _ rfl
   clear hm
   have hki:=zhh (l:=l) (p:=p) (show 2≤j+2 by omega)
   have HK:=hide (fun (hh:zbq l (j+2) p=true) i q (hi:i<j+1+2) (hq:l[i]? = some q)=>(show zbq l i q=true by
    rcases Nat.lt_or_ge i (j+2)with h1 | h1
    ·exact hok i q h1 hq
    ·have e:i=j+2:=by omega
     subst e
     rw [hp]at hq
     exact Option.some.inj hq ▸ hh))
   have HF:=hide (fun (hh:zbq l (j+2) p=false) W (hq:FoQ w0 W g mb (some ⟨gr,0,none⟩) c l F) (hf:Frm w W [g])=>(show Q (.returned (.bool false)) W by
    have:=zaa HQ (.returned (.bool (zbh l (zbq l) && zbh l (zbu l)))) W ⟨rfl,hq,hf⟩
    rw [zhi hp hh,Bool.false_and]at this
    exact this))
   have HKY:=hide (zkm _ _ p.key (r1.keep hb03))
   have HT:=hide (zfb hq3 hb03 p.par hids.2)
   have HB:=hide (And.intro hq3 hf3)
   clear r1 r2 r3 r4 lp hA3 hq3 hb03 hf3 hq hf hp hok hids hb0r hB0 h
   unfold zap at HT
   go_wp2_with fail
   refine (zaa HKY).mono ?_
   rintro e W ⟨rfl,rfl⟩
   clear HKY
   cases hkb:keyB p.key with
   | false=>
    have HE:=hide (zaa HF (by rw [hki,hkb];rfl) _ (zaa HB).1 (zaa HB).2)
    clear hki hkb
    go_wp2_with fail
    exact zaa HE
   | true=>
    rw [hkb,Bool.true_and]at hki
    have HKI:=hide hki
    clear hki hkb
    go_wp2_with fail
    refine (zaa HT).mono ?_
    rintro e W ⟨rfl,hqW,hfW⟩
    have hfw:=(zaa HB).2.trans hfW
    rw [←zaa HKI]
    clear HT HB HKI
    cases htv:zbq l (j+2) p with
    | false=>
     have HE:=hide (zaa HF htv W hqW hfw)
     clear hqW hfw hfW htv
     go_wp2_with fail
     exact zaa HE
    | true=>
     have HE:=hide (And.intro hqW hfw)
     have HV:=hide (zaa HK htv)
     clear hqW hfw hfW htv
     go_wp2_with fail
     go_roundw
     case rel=>exact⟨j+1,by omega,by go_num,zaa HV,(zaa HE).1,(zaa HE).2⟩
     case measure=>simp [intOf];omega
  ·have hnl:¬ (j:Int)<(m:Int):=by omega
   have hkeys:∀i p,l[i]? = some p→zbq l i p=true:=fun i p hp=>hok i p (by have:=(List.getElem?_eq_some_iff.1 hp).1;omega) hp
   have hFW:FrW l:=⟨h2,hr,ht,hu,fun i p hi hp=>by
    have:=hkeys i p hp
    rw [zhh hi,Bool.and_eq_true]at this
    exact zcC this.2⟩
   have hek:zbh l (zbq l)=true:=(zbc l _).2 hkeys
   have hGr:=hG.frm hf (fun q hq=>by simp at hq;omega)
   have HQ2:=hide (fun e W (hh:e=.returned (.bool (zbh l (zbu l)))∧FoQ w0 W g mb (some ⟨gr,0,none⟩) c l F∧Frm w W [g])=>zaa HQ e W ⟨by rw [hek,Bool.true_and];exact hh.1,hh.2.1,hh.2.2⟩)
   have HY:=hide (And.intro hq (And.intro hf (And.intro hb0r (And.intro hGr (And.intro hkeys hFW)))))
   clear hok hek hkeys hFW hGr hq hf hb0r hB0 h hG hm HQ
   go_wp2_with fail
   obtain⟨hq,hf,hb0r,hGr,hkeys,hFW⟩:=zaa HY
   clear HY
   generalize wr=w5 at *
   go_loopw [33] (fun i wr'=>∃j':Nat,j'≤m∧i=.int .i64 (j':Int)∧(∀i p,i<j' + 2→l[i]? = some p→zbu l i p=true)∧Below w5.heap.size w5 wr') (fun i _=>m-(intOf i).toNat)
   case atStart=>exact⟨0,Nat.zero_le _,rfl,fun i p hi hp=>zjJ (by omega),Below.refl _ _⟩
   case round=>
    clear hnl hlt hj
    obtain⟨j,hj,rfl,hok,hB5⟩:=hrel
    have hm:=zaa HMM
    replace hq:=hq.keep hB5
    replace hf:=hf.trans (Frm.ofBelow hB5 [g])
    replace hb0r:=hb0r.trans (hB5.mono hb0r.size)
    replace hGr:=hGr.keep hB5
    by_cases hlt:j<m
    ·have hj2:j+2<l.length:=by omega
     obtain⟨k1,ck,n1,cn,t1,ct,a1,ca,-,e0,e1,e2,e3,e4,e5,e6,e7,e8,r1,r2,r3,r4⟩:=hq.own hj2
     rw [show (j+2)*9=18+j*9 by omega]at e0 e1 e2 e3 e4 e5 e6 e7 e8
     have hp:l[j+2]? = some l[j+2]:=by simp [hj2]
     have hids:=hq.ids l[j+2] (List.getElem_mem _)
     generalize l[j+2]=p at *
     have hlt':(j:Int)<(m:Int):=by omega
     have hj0:(0:Int)≤(j:Int):=by omega
     have hgrl:gr<wr.heap.size:=zaI e0
     have lp:=Loc.made wr #[.int .i64 p.idN,.int .i64 p.idR,.int .i64 p.parN,.int .i64 p.parR,.slice k1 p.key.length ck,.int .i64 p.kind,.slice n1 p.name.length cn,.slice t1 p.text.length ct,.slice a1 p.attrs.length ca] 117
     have hA3:Below wr.heap.size wr (wr.alloc (.cells #[.int .i64 p.idN,.int .i64 p.idR,.int .i64 p.parN,.int .i64 p.parR,.slice k1 p.key.length ck,.int .i64 p.kind,.slice n1 p.name.length cn,.slice t1 p.text.length ct,.slice a1 p.attrs.length ca] 117)):=(Below.refl _ _).alloc (Nat.le_refl _) _
     have hq3:=hq.keep hA3
     have hb03:=hb0r.trans (hA3.mono hb0r.size)
     have hf3:=hf.trans (Frm.ofBelow hA3 [g])
     obtain⟨x0,x1,x2,x3,x4,x5,x6,x7,x8⟩:=zej lp _ _ _ _ _ _ _ _ _ rfl
     clear hm
     have hki:=zpu (l:=l) (p:=p) (show 2≤j+2 by omega)
     have hkk:=hkeys _ _ hp
     rw [zhh (by omega),Bool.and_eq_true]at hkk
     obtain⟨kp,hkp⟩:=zcC hkk.2
     have HK:=hide (fun (hh:zbu l (j+2) p=true) i q (hi:i<j+1+2) (hq:l[i]? = some q)=>(show zbu l i q=true by
      rcases Nat.lt_or_ge i (j+2)with h1 | h1
      ·exact hok i q h1 hq
      ·have e:i=j+2:=by omega
       subst e
       rw [hp]at hq
       exact Option.some.inj hq ▸ hh))
     have HF:=hide (fun (hh:zbu l (j+2) p=false) W (hq:FoQ w0 W g mb (some ⟨gr,0,none⟩) c l F) (hf:Frm w W [g])=>(show Q (.returned (.bool false)) W by
      have:=zaa HQ2 (.returned (.bool (zbh l (zbu l)))) W ⟨rfl,hq,hf⟩
      rw [zhi hp hh]at this
      exact this))
     have HT:=hide (zlg hq3 hFW (hGr.keep hA3) p.par p.id hids.2 kp hkp)
     have HB:=hide (And.intro hq3 (And.intro hf3 (zad hB5 hA3)))
     have HY:=hide (And.intro hkeys hFW)
     clear r1 r2 r3 r4 lp hA3 hq3 hb03 hf3 hq hf hp hok hids hb0r hkeys hFW hkk hkp hGr
     unfold zap at HT
     go_wp2_with fail
     refine (zaa HT).mono ?_
     rintro e W ⟨rfl,hbW⟩
     have hqW:=(zaa HB).1.keep hbW
     have hfw:=(zaa HB).2.1.trans (Frm.ofBelow hbW [g])
     have h5W:=zad (zaa HB).2.2 hbW
     clear HT HB
     cases htv:zav l l.length p.par p.id with
     | true=>
      have HE:=hide (zaa HF (by rw [hki,htv];rfl) W hqW hfw)
      clear hqW hfw h5W hbW htv hki
      go_wp2_with fail
      exact zaa HE
     | false=>
      have HE:=hide h5W
      have HV:=hide (zaa HK (by rw [hki,htv];rfl))
      clear hqW hfw h5W hbW htv hki
      go_wp2_with fail
      go_roundw
      case rel=>exact⟨j+1,by omega,by go_num,zaa HV,zaa HE⟩
      case measure=>simp [intOf];omega
    ·have hnl:¬ (j:Int)<(m:Int):=by omega
     have HE:=hide (zaa HQ2 (.returned (.bool (zbh l (zbu l)))) wr ⟨rfl,hq,hf⟩)
     rw [(zbc l _).2 (fun i p hp=>hok i p (by have:=(List.getElem?_eq_some_iff.1 hp).1;omega) hp)]at HE
     clear hq hf hok hkeys hFW hb0r hGr hm
     go_wp2_with fail
     exact zaa HE
def PjA (w:World) (l:List PlV) (e:Ending) (w':World):Prop:=∃(kd:Int) (a1:Option Addr) (n1 c1:Nat) (a2:Option Addr) (n2 c2:Nat) (a3:Option Addr) (n3 c3:Nat) (a4:Option Addr) (n4 c4:Nat),e=.returned (.tuple #[.agg #[.int .i64 kd,.slice a1 n1 c1,.slice a2 n2 c2,.slice a3 n3 c3,.slice a4 n4 c4],.bool (stB l)])∧∃G,OwNode 20 w' [.int .i64 kd,.slice a1 n1 c1,.slice a2 n2 c2,.slice a3 n3 c3,.slice a4 n4 c4] (pjR l) G∧G.Nodup∧Rng G w.heap.size w'.heap.size∧Below w.heap.size w w'
theorem zft (w:World) (base:Nat):Own w base (.slice none 0 0) []:=⟨zbJ,rfl,.inl ⟨rfl,rfl⟩⟩
theorem PjA.no {w w':World} {l:List PlV} (h:stB l=false) (hb:Below w.heap.size w w'):PjA w l (.returned (.tuple #[.agg #[.int .i64 0,.slice none 0 0,.slice none 0 0,.slice none 0 0,.slice none 0 0],.bool false])) w':=by
 refine⟨0,none,0,0,none,0,0,none,0,0,none,0,0,by rw [h],[],?_,List.nodup_nil,fun q hq=>(by cases hq),hb⟩
 rw [zpe h]
 exact⟨_,_,_,_,[],[],rfl,by show (-9223372036854775808:Int)≤0;omega,by show (0:Int)≤9223372036854775807;omega,zft _ _,zft _ _,OwElems.naught _ _ _ _,OwElems.naught _ _ _ _,rfl⟩
end Go.Proofs.YtlpnibbdmkeklaaGreatDoor
namespace Go.Proofs.YtlpnibbdmkeklaaGreatDoor
open Go.RowKit Go.Maps
set_option linter.unusedVariables false
set_option maxRecDepth 100000
theorem FSet.store {B:Nat} {o p:Value} {w:World} {g:Nat} (h:FSet B o p w g) (o':Value):FSet B o' p (w.setCell ⟨g,0,none⟩ o') g:=by
 rcases h with h | ⟨m,hm,h,hv⟩
 ·exact .inl (h.set 0 o')
 ·refine .inr ⟨m,hm,h.set 0 o',(heap_setCell_other w ⟨g,0,none⟩ m o' (fun e=> ?_)).trans hv⟩
  have e:m=g:=e
  unfold Loc at h
  obtain⟨es,c,ev⟩:=zjQ
  rw [←e,hv,ev]at h
  cases h
set_option maxHeartbeats 6400000 in
theorem zgs {B:Nat} {w:World} {g mb:Nat} {a:Option Addr} {c:Nat} {l:List PlV} {F:List Nat} (h:FoS B w g mb a c l F) (p:PlV) (k n t s:Option Addr) (ck cn ct cs:Nat) (G:List Nat)
  (hp:OwPlM w [.int .i64 p.idN,.int .i64 p.idR,.int .i64 p.parN,.int .i64 p.parR,.slice k p.key.length ck,.int .i64 p.kind,.slice n p.name.length cn,.slice t p.text.length ct,.slice s p.attrs.length cs] p G) (hGn:G.Nodup) (hGB:∀q∈G,B≤q) (hFG:∀q∈F,q∉G) (hid:okI p.id) (hpar:okI p.par) (hnew:posP l p.id=none) (hlen:l.length+1≤100000) :
  Calls Tryz.prog 58 #[.pointer (some ⟨g,0,none⟩),.agg #[.int .i64 p.idN,.int .i64 p.idR,.int .i64 p.parN,.int .i64 p.parR,.slice k p.key.length ck,.int .i64 p.kind,.slice n p.name.length cn,.slice t p.text.length ct,.slice s p.attrs.length cs]] w fun e w'=>e=.returned (.tuple #[])∧∃a' c' F',FoS B w' g mb a' c' (l++[p]) F'∧Frm w w' (g::mb::F)∧∀q∈F',q∈F∨q∈G∨w.heap.size≤q:=by
 refine zaf ?_
 intro Q HQ
 obtain⟨i0,hi0,hz0,hz1,hz2⟩:=info_parts zed
 have hA:Below w.heap.size w (w.alloc (.cells #[.int .i64 p.idN,.int .i64 p.idR,.int .i64 p.parN,.int .i64 p.parR,.slice k p.key.length ck,.int .i64 p.kind,.slice n p.name.length cn,.slice t p.text.length ct,.slice s p.attrs.length cs] 117)):=(Below.refl _ _).alloc (Nat.le_refl _) _
 have hA1:Below w.heap.size w (w.alloc (.cells #[.int .i64 p.idN,.int .i64 p.idR,.int .i64 p.parN,.int .i64 p.parR,.slice k p.key.length ck,.int .i64 p.kind,.slice n p.name.length cn,.slice t p.text.length ct,.slice s p.attrs.length cs] 117)).drew:=hA.drew
 have lb:=(Loc.made w #[.int .i64 p.idN,.int .i64 p.idR,.int .i64 p.parN,.int .i64 p.parR,.slice k p.key.length ck,.int .i64 p.kind,.slice n p.name.length cn,.slice t p.text.length ct,.slice s p.attrs.length cs] 117).all ((Below.refl _ _).drew)
 have h1:=h.keep hA1
 obtain⟨w2,hrun,hm2,hg2⟩:=h1.map.put p hid hnew (by omega)
 obtain⟨cs1,lg,hc0,hc1⟩:=h1.set.loc
 have g0:=(lg.cell 0).trans hc0
 have g1:=(lg.cell 1).trans hc1
 have b0:=lb.cell 0
 have b1:=lb.cell 1
 have f2:Frm (w.alloc (.cells #[.int .i64 p.idN,.int .i64 p.idR,.int .i64 p.parN,.int .i64 p.parR,.slice k p.key.length ck,.int .i64 p.kind,.slice n p.name.length cn,.slice t p.text.length ct,.slice s p.attrs.length cs] 117)).drew w2 [mb]:=Frm.ofGrown hg2
 have hgm:=h1.gm
 have hmF:=h1.mF
 have hgF:=h1.gF
 have s2:FSet (mb+1) (.slice a l.length c) (.map (some mb)) w2 g:=h1.set.frm f2 (by simpa using hgm) (fun q hq=>.inl (by have e:q=mb:=(by simpa using hq);omega))
 have r2:=h1.row.frm f2 (fun q hq e=>hmF (by have e9:q=mb:=(by simpa using e);rw [←e9];exact hq))
 have hnb:w.heap.size∉[mb]:=fun e=>by have e9:w.heap.size=mb:=(by simpa using e);have:=h.map.lt;omega
 have lb2:=lb.frm f2 hnb
 have p2:OwPlM w2 [.int .i64 p.idN,.int .i64 p.idR,.int .i64 p.parN,.int .i64 p.parR,.slice k p.key.length ck,.int .i64 p.kind,.slice n p.name.length cn,.slice t p.text.length ct,.slice s p.attrs.length cs] p G:=(hp.frm (Frm.ofBelow hA1 []) (fun _ _=>by simp)).frm f2 (fun q hq e=>by
  have e9:q=mb:=by simpa using e
  subst e9
  obtain⟨es,k',e'⟩:=h.map.isMap
  exact (hp.typ q hq).notMap e')
 have hl63:=h.len
 have HX:=hide (And.intro h (And.intro hA1 (And.intro f2 (And.intro s2 (And.intro r2 (And.intro lb2 (And.intro p2 hm2)))))))
 have HG:=hide (And.intro hGn (And.intro hGB (And.intro hFG (And.intro hid hpar))))
 have HM:=hide (And.intro hgm (And.intro hmF hgF))
 unfold zap at hrun
 have hrun':(Instr.mapUpdate 95 (.map (some mb)) (.agg #[.int .i64 p.idN,.int .i64 p.idR]) (.int .i64 (l.length:Int))).run Tryz.prog (w.alloc (.cells #[.int .i64 p.idN,.int .i64 p.idR,.int .i64 p.parN,.int .i64 p.parR,.slice k p.key.length ck,.int .i64 p.kind,.slice n p.name.length cn,.slice t p.text.length ct,.slice s p.attrs.length cs] 117)).drew=.ok () w2:=hrun
 clear h hp hGn hGB hFG hid hpar hnew hA hA1 h1 lg hc0 hc1 lb f2 hgm hmF hgF s2 r2 lb2 p2 hm2 hg2 hrun
 go_enter Tryz.func58,Tryz.ntmps58
 go_wp2_with fail
 go_region
 clear g0 g1 b0 b1 hrun'
 obtain⟨h,hA1,f2,s2,r2,lb2,p2,hm2⟩:=zaa HX
 obtain⟨hGn,hGB,hFG,hid,hpar⟩:=zaa HG
 obtain⟨hgm,hmF,hgF⟩:=zaa HM
 have hd2:Below w2.heap.size w2 w2.drew:=(Below.refl _ _).drew
 have hb23:Below w2.heap.size w2 (w2.alloc (.cells #[.int .i64 p.idN,.int .i64 p.idR,.int .i64 p.parN,.int .i64 p.parR,.slice k p.key.length ck,.int .i64 p.kind,.slice n p.name.length cn,.slice t p.text.length ct,.slice s p.attrs.length cs] 117)).drew:=((Below.refl _ _).alloc (Nat.le_refl _) _).drew
 have hb3:=hb23
 have s3:=s2.frm (Frm.ofBelow hb23 []) (by simp) (fun q hq=>by cases hq)
 have s2d:=s2.frm (Frm.ofBelow hd2 []) (by simp) (fun q hq=>by cases hq)
 obtain⟨cs2,lg2,hc2,_⟩:=s2d.loc
 obtain⟨cs3,lg3,hc3,_⟩:=s3.loc
 have g0:w2.drew.cell? ⟨g,0,none⟩=some (.slice a l.length c):=(lg2.cell 0).trans hc2
 have g0':(w2.alloc (.cells #[.int .i64 p.idN,.int .i64 p.idR,.int .i64 p.parN,.int .i64 p.parR,.slice k p.key.length ck,.int .i64 p.kind,.slice n p.name.length cn,.slice t p.text.length ct,.slice s p.attrs.length cs] 117)).drew.cell? ⟨g,0,none⟩=some (.slice a l.length c):=(lg3.cell 0).trans hc3
 have lbd:=lb2.all hd2
 have p0:w2.drew.cell? ⟨w.heap.size,0,none⟩=_:=lbd.cell 0
 have p1:w2.drew.cell? ⟨w.heap.size,1,none⟩=_:=lbd.cell 1
 have p2_:w2.drew.cell? ⟨w.heap.size,2,none⟩=_:=lbd.cell 2
 have p3:w2.drew.cell? ⟨w.heap.size,3,none⟩=_:=lbd.cell 3
 have p4:w2.drew.cell? ⟨w.heap.size,4,none⟩=_:=lbd.cell 4
 have p5:w2.drew.cell? ⟨w.heap.size,5,none⟩=_:=lbd.cell 5
 have p6:w2.drew.cell? ⟨w.heap.size,6,none⟩=_:=lbd.cell 6
 have p7:w2.drew.cell? ⟨w.heap.size,7,none⟩=_:=lbd.cell 7
 have p8:w2.drew.cell? ⟨w.heap.size,8,none⟩=_:=lbd.cell 8
 have hsz2:w2.drew.heap.size=w2.heap.size:=rfl
 have hvF:∀q∈FB (.slice a l.length c),q∈F:=fun q hq=>by
  obtain⟨_,_,_,_,_,_,e⟩:=r2
  rw [e]
  exact List.mem_append_left _ hq
 have HP:=hide (show OwPlsM (w2.alloc (.cells #[.int .i64 p.idN,.int .i64 p.idR,.int .i64 p.parN,.int .i64 p.parR,.slice k p.key.length ck,.int .i64 p.kind,.slice n p.name.length cn,.slice t p.text.length ct,.slice s p.attrs.length cs] 117)).drew (.slice a l.length c) l F∧F.Nodup∧OwPlM (w2.alloc (.cells #[.int .i64 p.idN,.int .i64 p.idR,.int .i64 p.parN,.int .i64 p.parR,.slice k p.key.length ck,.int .i64 p.kind,.slice n p.name.length cn,.slice t p.text.length ct,.slice s p.attrs.length cs] 117)).drew [.int .i64 p.idN,.int .i64 p.idR,.int .i64 p.parN,.int .i64 p.parR,.slice k p.key.length ck,.int .i64 p.kind,.slice n p.name.length cn,.slice t p.text.length ct,.slice s p.attrs.length cs] p G∧G.Nodup∧(∀g∈F,g∉G)∧(∀q,q∈F∨q∈G→q<(w2.alloc (.cells #[.int .i64 p.idN,.int .i64 p.idR,.int .i64 p.parN,.int .i64 p.parR,.slice k p.key.length ck,.int .i64 p.kind,.slice n p.name.length cn,.slice t p.text.length ct,.slice s p.attrs.length cs] 117)).drew.heap.size) from by
  refine⟨OwPlsM.frm r2 (Frm.ofBelow hb23 []) (fun _ _=>by simp),h.nd,p2.frm (Frm.ofBelow hb23 []) (fun _ _=>by simp),hGn,hFG,fun q hq=> ?_⟩
  have:=hb23.size
  rcases hq with hq | hq
  ·have:=OwPlsM.lt r2 q hq
   omega
  ·have:=p2.lt q hq
   omega)
 have hcl:∀(i:Nat) (u:Value),([.int .i64 p.idN,.int .i64 p.idR,.int .i64 p.parN,.int .i64 p.parR,.slice k p.key.length ck,.int .i64 p.kind,.slice n p.name.length cn,.slice t p.text.length ct,.slice s p.attrs.length cs])[i]? = some u→(w2.alloc (.cells #[.int .i64 p.idN,.int .i64 p.idR,.int .i64 p.parN,.int .i64 p.parR,.slice k p.key.length ck,.int .i64 p.kind,.slice n p.name.length cn,.slice t p.text.length ct,.slice s p.attrs.length cs] 117)).drew.cell? ((⟨w2.heap.size,0,none⟩:Addr).add i)=some u:=fun i u hu=>World.news_of_block (w:=(w2.alloc (.cells #[.int .i64 p.idN,.int .i64 p.idR,.int .i64 p.parN,.int .i64 p.parR,.slice k p.key.length ck,.int .i64 p.kind,.slice n p.name.length cn,.slice t p.text.length ct,.slice s p.attrs.length cs] 117)).drew) (heap_alloc_new w2 (.cells #[.int .i64 p.idN,.int .i64 p.idR,.int .i64 p.parN,.int .i64 p.parR,.slice k p.key.length ck,.int .i64 p.kind,.slice n p.name.length cn,.slice t p.text.length ct,.slice s p.attrs.length cs] 117)) i u (by simpa using hu)
 have HF2:=hide f2
 have HS3:=hide (And.intro s3 (And.intro (hm2.frm (Frm.ofBelow hb23 []) (by simp)) (And.intro hcl (f2.trans (Frm.ofBelow hb23 _)))))
 have hgv:g∉FB (.slice a l.length c):=fun e=>hgF (hvF g e)
 have hmv:mb∉FB (.slice a l.length c):=fun e=>hmF (hvF mb e)
 clear hcl s3 s2 s2d lg2 lg3 hc2 hc3 lbd lb2 r2 p2 hm2 f2 hb23 hd2 HX HG HM
 go_wp2_with fail
 go_region_law (refine zbO (R:=OwPlM) (fun h f d=>OwPlM.frm h f d) (by rfl) (.tmp 19) (.tmp 21) 56 (by rfl) 117 i0 (.agg #[.int .i64 0,.int .i64 0,.int .i64 0,.int .i64 0,.slice none 0 0,.int .i64 0,.slice none 0 0,.slice none 0 0,.slice none 0 0]) 9 136 Tryz.underlying56 hi0 hz0 hz1 hz2 rfl (by decide) _ l F (by rfl) (zaa HP).1 (zaa HP).2.1 ⟨w2.heap.size,0,none⟩ 1 [.int .i64 p.idN,.int .i64 p.idR,.int .i64 p.parN,.int .i64 p.parR,.slice k p.key.length ck,.int .i64 p.kind,.slice n p.name.length cn,.slice t p.text.length ct,.slice s p.attrs.length cs] p G (by rfl) rfl (zaa HS3).2.2.1 (by intro y hy;simp at hy;rcases hy with rfl | rfl | rfl | rfl | rfl | rfl | rfl | rfl | rfl<;>rfl) (zaa HP).2.2.1 (zaa HP).2.2.2.1 (zaa HP).2.2.2.2.1 (zaa HP).2.2.2.2.2 (by unfold maxLen;omega) (by omega) ?_;intro g9 cap9 w9 F9 hF9 hN9 hM9 hf9 hg9;have s9:=(zaa HS3).1.frm hf9 hgv (fun q hq=>.inr ((OwPlsM.typ (zaa HP).1 q (hvF q hq)).cells));obtain⟨cs9,lg9,hc9,_⟩:=s9.loc;have c09:=(lg9.cell 0).trans hc9;have z09:=lg9.frozen 0)
 all_goals
  have fs:=zab w9 g 0 (.slice (some ⟨g9,0,none⟩) (l.length+1) cap9)
  have hgF9:g∉F9:=fun e=>(OwPlsM.typ hF9 g e).notL (by decide) lg9
  have h9:FoS B (w9.setCell ⟨g,0,none⟩ (.slice (some ⟨g9,0,none⟩) (l.length+1) cap9)) g mb (some ⟨g9,0,none⟩) cap9 (l++[p]) F9:=by
   have hll:(l++[p]).length=l.length+1:=by simp
   refine⟨by rw [hll];exact s9.store _,((zaa HS3).2.1.frm hf9 hmv).frm fs (by simpa using fun e=>hgm e.symm),by rw [hll];exact OwPlsM.frm hF9 fs (fun q hq e=>hgF9 (by have e9:q=g:=(by simpa using e);rw [←e9];exact hq)),hN9,fun q hq=> ?_,h.geg,h.gem,fun q hq=> ?_,by rw [hll];exact hlen⟩
   ·rcases hM9 q hq with e | e | e
    ·exact h.ge q e
    ·exact hGB q e
    ·have:=h.geg
     have:=h.set.lt
     have:=hA1.size
     have:=(zaa HS3).2.2.2.size
     have e1:(w2.alloc (.cells #[.int .i64 p.idN,.int .i64 p.idR,.int .i64 p.parN,.int .i64 p.parR,.slice k p.key.length ck,.int .i64 p.kind,.slice n p.name.length cn,.slice t p.text.length ct,.slice s p.attrs.length cs] 117)).drew.heap.size=w2.heap.size+1:=by simp [World.drew]
     have:=hb3.size
     have e2:=(show Frm _ w2 [mb] from zaa HF2).size
     omega
   ·rcases List.mem_append.1 hq with hq | hq
    ·exact h.ids q hq
    ·have e:q=p:=by simpa using hq
     rw [e]
     exact⟨hid,hpar⟩
  have hfr:Frm w (w9.setCell ⟨g,0,none⟩ (.slice (some ⟨g9,0,none⟩) (l.length+1) cap9)) (g::mb::F):=by
   refine (Frm.ofBelow hA1 _).trans (((zaa HS3).2.2.2.mono ?_).trans ((hf9.mono ?_).trans (fs.mono ?_)))
   ·intro q hq;have e:q=mb:=(by simpa using hq);simp [e]
   ·intro q hq;simp [hvF q hq]
   ·intro q hq;have e:q=g:=(by simpa using hq);simp [e]
  have hsub:∀q∈F9,q∈F∨q∈G∨w.heap.size≤q:=fun q hq=>by
   rcases hM9 q hq with e | e | e
   ·exact .inl e
   ·exact .inr (.inl e)
   ·right;right
    have:=hA1.size
    have:=(zaa HS3).2.2.2.size
    have:=hb3.size
    have e2:=(show Frm _ w2 [mb] from zaa HF2).size
    omega
  have HE:=hide (zaa HQ (.returned (.tuple #[])) _ ⟨rfl,_,_,F9,h9,hfr,hsub⟩)
  clear h9 hfr hsub fs HQ hF9 hN9 hM9 hf9 s9 lg9 hc9 HP HS3
  go_wp2_with fail
  go_end0
  exact zaa HE
set_option maxHeartbeats 6400000 in
theorem zqj {w0:World} {w:World} {g mb:Nat} {a:Option Addr} {c:Nat} {l:List PlV} {F:List Nat} (h:FoQ w0 w g mb a c l F) (p:PlV) (k n t s:Option Addr) (ck cn ct cs:Nat) (G:List Nat)
  (hp:PlQ w0 w [.int .i64 p.idN,.int .i64 p.idR,.int .i64 p.parN,.int .i64 p.parR,.slice k p.key.length ck,.int .i64 p.kind,.slice n p.name.length cn,.slice t p.text.length ct,.slice s p.attrs.length cs] p G) (hGn:G.Nodup) (hGB:∀q∈G,w0.heap.size≤q) (hFG:∀q∈F,q∉G) (hid:okI p.id) (hpar:okI p.par) (hnew:posP l p.id=none) (hlen:l.length+1≤100000) :
  Calls Tryz.prog 58 #[.pointer (some ⟨g,0,none⟩),.agg #[.int .i64 p.idN,.int .i64 p.idR,.int .i64 p.parN,.int .i64 p.parR,.slice k p.key.length ck,.int .i64 p.kind,.slice n p.name.length cn,.slice t p.text.length ct,.slice s p.attrs.length cs]] w fun e w'=>e=.returned (.tuple #[])∧∃a' c' F',FoQ w0 w' g mb a' c' (l++[p]) F'∧Frm w w' (g::mb::F)∧∀q∈F',q∈F∨q∈G∨w.heap.size≤q:=by
 refine zaf ?_
 intro Q HQ
 obtain⟨i0,hi0,hz0,hz1,hz2⟩:=info_parts zed
 have hA:Below w.heap.size w (w.alloc (.cells #[.int .i64 p.idN,.int .i64 p.idR,.int .i64 p.parN,.int .i64 p.parR,.slice k p.key.length ck,.int .i64 p.kind,.slice n p.name.length cn,.slice t p.text.length ct,.slice s p.attrs.length cs] 117)):=(Below.refl _ _).alloc (Nat.le_refl _) _
 have hA1:Below w.heap.size w (w.alloc (.cells #[.int .i64 p.idN,.int .i64 p.idR,.int .i64 p.parN,.int .i64 p.parR,.slice k p.key.length ck,.int .i64 p.kind,.slice n p.name.length cn,.slice t p.text.length ct,.slice s p.attrs.length cs] 117)).drew:=hA.drew
 have lb:=(Loc.made w #[.int .i64 p.idN,.int .i64 p.idR,.int .i64 p.parN,.int .i64 p.parR,.slice k p.key.length ck,.int .i64 p.kind,.slice n p.name.length cn,.slice t p.text.length ct,.slice s p.attrs.length cs] 117).all ((Below.refl _ _).drew)
 have h1:=h.keep hA1
 obtain⟨w2,hrun,hm2,hg2⟩:=h1.map.put p hid hnew (by omega)
 obtain⟨cs1,lg,hc0,hc1⟩:=h1.set.loc
 have g0:=(lg.cell 0).trans hc0
 have g1:=(lg.cell 1).trans hc1
 have b0:=lb.cell 0
 have b1:=lb.cell 1
 have f2:Frm (w.alloc (.cells #[.int .i64 p.idN,.int .i64 p.idR,.int .i64 p.parN,.int .i64 p.parR,.slice k p.key.length ck,.int .i64 p.kind,.slice n p.name.length cn,.slice t p.text.length ct,.slice s p.attrs.length cs] 117)).drew w2 [mb]:=Frm.ofGrown hg2
 have hgm:=h1.gm
 have hmF:=h1.mF
 have hgF:=h1.gF
 have s2:FSet (mb+1) (.slice a l.length c) (.map (some mb)) w2 g:=h1.set.frm f2 (by simpa using hgm) (fun q hq=>.inl (by have e:q=mb:=(by simpa using hq);omega))
 have r2:=h1.row.frm f2 (fun q hq e=>hmF (by have e9:q=mb:=(by simpa using e);rw [←e9];exact hq))
 have hnb:w.heap.size∉[mb]:=fun e=>by have e9:w.heap.size=mb:=(by simpa using e);have:=h.map.lt;omega
 have lb2:=lb.frm f2 hnb
 have p2:PlQ w0 w2 [.int .i64 p.idN,.int .i64 p.idR,.int .i64 p.parN,.int .i64 p.parR,.slice k p.key.length ck,.int .i64 p.kind,.slice n p.name.length cn,.slice t p.text.length ct,.slice s p.attrs.length cs] p G:=(hp.frm (Frm.ofBelow hA1 []) (fun _ _=>by simp)).frm f2 (fun q hq e=>by
  have e9:q=mb:=by simpa using e
  subst e9
  obtain⟨es,k',e'⟩:=h.map.isMap
  exact (hp.typ q hq).notMap e')
 have hl63:=h.len
 have HX:=hide (And.intro h (And.intro hA1 (And.intro f2 (And.intro s2 (And.intro r2 (And.intro lb2 (And.intro p2 hm2)))))))
 have HG:=hide (And.intro hGn (And.intro hGB (And.intro hFG (And.intro hid hpar))))
 have HM:=hide (And.intro hgm (And.intro hmF hgF))
 unfold zap at hrun
 have hrun':(Instr.mapUpdate 95 (.map (some mb)) (.agg #[.int .i64 p.idN,.int .i64 p.idR]) (.int .i64 (l.length:Int))).run Tryz.prog (w.alloc (.cells #[.int .i64 p.idN,.int .i64 p.idR,.int .i64 p.parN,.int .i64 p.parR,.slice k p.key.length ck,.int .i64 p.kind,.slice n p.name.length cn,.slice t p.text.length ct,.slice s p.attrs.length cs] 117)).drew=.ok () w2:=hrun
 clear h hp hGn hGB hFG hid hpar hnew hA hA1 h1 lg hc0 hc1 lb f2 hgm hmF hgF s2 r2 lb2 p2 hm2 hg2 hrun
 go_enter Tryz.func58,Tryz.ntmps58
 go_wp2_with fail
 go_region
 clear g0 g1 b0 b1 hrun'
 obtain⟨h,hA1,f2,s2,r2,lb2,p2,hm2⟩:=zaa HX
 obtain⟨hGn,hGB,hFG,hid,hpar⟩:=zaa HG
 obtain⟨hgm,hmF,hgF⟩:=zaa HM
 have hd2:Below w2.heap.size w2 w2.drew:=(Below.refl _ _).drew
 have hb23:Below w2.heap.size w2 (w2.alloc (.cells #[.int .i64 p.idN,.int .i64 p.idR,.int .i64 p.parN,.int .i64 p.parR,.slice k p.key.length ck,.int .i64 p.kind,.slice n p.name.length cn,.slice t p.text.length ct,.slice s p.attrs.length cs] 117)).drew:=((Below.refl _ _).alloc (Nat.le_refl _) _).drew
 have hb3:=hb23
 have s3:=s2.frm (Frm.ofBelow hb23 []) (by simp) (fun q hq=>by cases hq)
 have s2d:=s2.frm (Frm.ofBelow hd2 []) (by simp) (fun q hq=>by cases hq)
 obtain⟨cs2,lg2,hc2,_⟩:=s2d.loc
 obtain⟨cs3,lg3,hc3,_⟩:=s3.loc
 have g0:w2.drew.cell? ⟨g,0,none⟩=some (.slice a l.length c):=(lg2.cell 0).trans hc2
 have g0':(w2.alloc (.cells #[.int .i64 p.idN,.int .i64 p.idR,.int .i64 p.parN,.int .i64 p.parR,.slice k p.key.length ck,.int .i64 p.kind,.slice n p.name.length cn,.slice t p.text.length ct,.slice s p.attrs.length cs] 117)).drew.cell? ⟨g,0,none⟩=some (.slice a l.length c):=(lg3.cell 0).trans hc3
 have lbd:=lb2.all hd2
 have p0:w2.drew.cell? ⟨w.heap.size,0,none⟩=_:=lbd.cell 0
 have p1:w2.drew.cell? ⟨w.heap.size,1,none⟩=_:=lbd.cell 1
 have p2_:w2.drew.cell? ⟨w.heap.size,2,none⟩=_:=lbd.cell 2
 have p3:w2.drew.cell? ⟨w.heap.size,3,none⟩=_:=lbd.cell 3
 have p4:w2.drew.cell? ⟨w.heap.size,4,none⟩=_:=lbd.cell 4
 have p5:w2.drew.cell? ⟨w.heap.size,5,none⟩=_:=lbd.cell 5
 have p6:w2.drew.cell? ⟨w.heap.size,6,none⟩=_:=lbd.cell 6
 have p7:w2.drew.cell? ⟨w.heap.size,7,none⟩=_:=lbd.cell 7
 have p8:w2.drew.cell? ⟨w.heap.size,8,none⟩=_:=lbd.cell 8
 have hsz2:w2.drew.heap.size=w2.heap.size:=rfl
 have hvF:∀q∈FB (.slice a l.length c),q∈F:=fun q hq=>by
  obtain⟨_,_,_,_,_,_,e⟩:=r2
  rw [e]
  exact List.mem_append_left _ hq
 have HP:=hide (show PlsQ w0 (w2.alloc (.cells #[.int .i64 p.idN,.int .i64 p.idR,.int .i64 p.parN,.int .i64 p.parR,.slice k p.key.length ck,.int .i64 p.kind,.slice n p.name.length cn,.slice t p.text.length ct,.slice s p.attrs.length cs] 117)).drew (.slice a l.length c) l F∧F.Nodup∧PlQ w0 (w2.alloc (.cells #[.int .i64 p.idN,.int .i64 p.idR,.int .i64 p.parN,.int .i64 p.parR,.slice k p.key.length ck,.int .i64 p.kind,.slice n p.name.length cn,.slice t p.text.length ct,.slice s p.attrs.length cs] 117)).drew [.int .i64 p.idN,.int .i64 p.idR,.int .i64 p.parN,.int .i64 p.parR,.slice k p.key.length ck,.int .i64 p.kind,.slice n p.name.length cn,.slice t p.text.length ct,.slice s p.attrs.length cs] p G∧G.Nodup∧(∀g∈F,g∉G)∧(∀q,q∈F∨q∈G→q<(w2.alloc (.cells #[.int .i64 p.idN,.int .i64 p.idR,.int .i64 p.parN,.int .i64 p.parR,.slice k p.key.length ck,.int .i64 p.kind,.slice n p.name.length cn,.slice t p.text.length ct,.slice s p.attrs.length cs] 117)).drew.heap.size) from by
  refine⟨PlsQ.frm r2 (Frm.ofBelow hb23 []) (fun _ _=>by simp),h.nd,p2.frm (Frm.ofBelow hb23 []) (fun _ _=>by simp),hGn,hFG,fun q hq=> ?_⟩
  have:=hb23.size
  rcases hq with hq | hq
  ·have:=PlsQ.lt r2 q hq
   omega
  ·have:=p2.lt q hq
   omega)
 have hcl:∀(i:Nat) (u:Value),([.int .i64 p.idN,.int .i64 p.idR,.int .i64 p.parN,.int .i64 p.parR,.slice k p.key.length ck,.int .i64 p.kind,.slice n p.name.length cn,.slice t p.text.length ct,.slice s p.attrs.length cs])[i]? = some u→(w2.alloc (.cells #[.int .i64 p.idN,.int .i64 p.idR,.int .i64 p.parN,.int .i64 p.parR,.slice k p.key.length ck,.int .i64 p.kind,.slice n p.name.length cn,.slice t p.text.length ct,.slice s p.attrs.length cs] 117)).drew.cell? ((⟨w2.heap.size,0,none⟩:Addr).add i)=some u:=fun i u hu=>World.news_of_block (w:=(w2.alloc (.cells #[.int .i64 p.idN,.int .i64 p.idR,.int .i64 p.parN,.int .i64 p.parR,.slice k p.key.length ck,.int .i64 p.kind,.slice n p.name.length cn,.slice t p.text.length ct,.slice s p.attrs.length cs] 117)).drew) (heap_alloc_new w2 (.cells #[.int .i64 p.idN,.int .i64 p.idR,.int .i64 p.parN,.int .i64 p.parR,.slice k p.key.length ck,.int .i64 p.kind,.slice n p.name.length cn,.slice t p.text.length ct,.slice s p.attrs.length cs] 117)) i u (by simpa using hu)
 have HF2:=hide f2
 have HS3:=hide (And.intro s3 (And.intro (hm2.frm (Frm.ofBelow hb23 []) (by simp)) (And.intro hcl (f2.trans (Frm.ofBelow hb23 _)))))
 have hgv:g∉FB (.slice a l.length c):=fun e=>hgF (hvF g e)
 have hmv:mb∉FB (.slice a l.length c):=fun e=>hmF (hvF mb e)
 clear hcl s3 s2 s2d lg2 lg3 hc2 hc3 lbd lb2 r2 p2 hm2 f2 hb23 hd2 HX HG HM
 go_wp2_with fail
 go_region_law (refine zbO (R:=PlQ w0) (fun h f d=>PlQ.frm h f d) (by rfl) (.tmp 19) (.tmp 21) 56 (by rfl) 117 i0 (.agg #[.int .i64 0,.int .i64 0,.int .i64 0,.int .i64 0,.slice none 0 0,.int .i64 0,.slice none 0 0,.slice none 0 0,.slice none 0 0]) 9 136 Tryz.underlying56 hi0 hz0 hz1 hz2 rfl (by decide) _ l F (by rfl) (zaa HP).1 (zaa HP).2.1 ⟨w2.heap.size,0,none⟩ 1 [.int .i64 p.idN,.int .i64 p.idR,.int .i64 p.parN,.int .i64 p.parR,.slice k p.key.length ck,.int .i64 p.kind,.slice n p.name.length cn,.slice t p.text.length ct,.slice s p.attrs.length cs] p G (by rfl) rfl (zaa HS3).2.2.1 (by intro y hy;simp at hy;rcases hy with rfl | rfl | rfl | rfl | rfl | rfl | rfl | rfl | rfl<;>rfl) (zaa HP).2.2.1 (zaa HP).2.2.2.1 (zaa HP).2.2.2.2.1 (zaa HP).2.2.2.2.2 (by unfold maxLen;omega) (by omega) ?_;intro g9 cap9 w9 F9 hF9 hN9 hM9 hf9 hg9;have s9:=(zaa HS3).1.frm hf9 hgv (fun q hq=>.inr ((PlsQ.typ (zaa HP).1 q (hvF q hq)).cells));obtain⟨cs9,lg9,hc9,_⟩:=s9.loc;have c09:=(lg9.cell 0).trans hc9;have z09:=lg9.frozen 0)
 all_goals
  have fs:=zab w9 g 0 (.slice (some ⟨g9,0,none⟩) (l.length+1) cap9)
  have hgF9:g∉F9:=fun e=>(PlsQ.typ hF9 g e).notL (by decide) lg9
  have h9:FoQ w0 (w9.setCell ⟨g,0,none⟩ (.slice (some ⟨g9,0,none⟩) (l.length+1) cap9)) g mb (some ⟨g9,0,none⟩) cap9 (l++[p]) F9:=by
   have hll:(l++[p]).length=l.length+1:=by simp
   refine⟨by rw [hll];exact s9.store _,((zaa HS3).2.1.frm hf9 hmv).frm fs (by simpa using fun e=>hgm e.symm),by rw [hll];exact PlsQ.frm hF9 fs (fun q hq e=>hgF9 (by have e9:q=g:=(by simpa using e);rw [←e9];exact hq)),hN9,fun q hq=> ?_,h.geg,h.gem,fun q hq=> ?_,by rw [hll];exact hlen⟩
   ·rcases hM9 q hq with e | e | e
    ·exact h.ge q e
    ·exact hGB q e
    ·have:=h.geg
     have:=h.set.lt
     have:=hA1.size
     have:=(zaa HS3).2.2.2.size
     have e1:(w2.alloc (.cells #[.int .i64 p.idN,.int .i64 p.idR,.int .i64 p.parN,.int .i64 p.parR,.slice k p.key.length ck,.int .i64 p.kind,.slice n p.name.length cn,.slice t p.text.length ct,.slice s p.attrs.length cs] 117)).drew.heap.size=w2.heap.size+1:=by simp [World.drew]
     have:=hb3.size
     have e2:=(show Frm _ w2 [mb] from zaa HF2).size
     omega
   ·rcases List.mem_append.1 hq with hq | hq
    ·exact h.ids q hq
    ·have e:q=p:=by simpa using hq
     rw [e]
     exact⟨hid,hpar⟩
  have hfr:Frm w (w9.setCell ⟨g,0,none⟩ (.slice (some ⟨g9,0,none⟩) (l.length+1) cap9)) (g::mb::F):=by
   refine (Frm.ofBelow hA1 _).trans (((zaa HS3).2.2.2.mono ?_).trans ((hf9.mono ?_).trans (fs.mono ?_)))
   ·intro q hq;have e:q=mb:=(by simpa using hq);simp [e]
   ·intro q hq;simp [hvF q hq]
   ·intro q hq;have e:q=g:=(by simpa using hq);simp [e]
  have hsub:∀q∈F9,q∈F∨q∈G∨w.heap.size≤q:=fun q hq=>by
   rcases hM9 q hq with e | e | e
   ·exact .inl e
   ·exact .inr (.inl e)
   ·right;right
    have:=hA1.size
    have:=(zaa HS3).2.2.2.size
    have:=hb3.size
    have e2:=(show Frm _ w2 [mb] from zaa HF2).size
    omega
  have HE:=hide (zaa HQ (.returned (.tuple #[])) _ ⟨rfl,_,_,F9,h9,hfr,hsub⟩)
  clear h9 hfr hsub fs HQ hF9 hN9 hM9 hf9 s9 lg9 hc9 HP HS3
  go_wp2_with fail
  go_end0
  exact zaa HE
theorem zfu (w:World):Calls Tryz.prog 53 #[] w fun e w'=>e=.returned (.pointer (some ⟨w.heap.size+1,0,none⟩))∧FoS w.heap.size w' (w.heap.size+1) w.heap.size none 0 [] []∧Below w.heap.size w w':=by
 refine zaf ?_
 intro Q HQ
 have hmm:= @run_makeMap Tryz.prog
 have hA:Below w.heap.size w ((w.alloc (.map #[] 0)).alloc (.cells (fs0 (.slice none 0 0) (.map (some w.heap.size))) 112)):=zad ((Below.refl _ _).alloc (Nat.le_refl _) _) ((Below.refl _ _).alloc (Nat.le_refl _) _)
 have lg:=Loc.made (w.alloc (.map #[] 0)) (fs0 (.slice none 0 0) (.map (some w.heap.size))) 112
 simp only [World.size_alloc]at lg
 have hb:Below (w.alloc (.map #[] 0)).heap.size (w.alloc (.map #[] 0)) ((w.alloc (.map #[] 0)).alloc (.cells (fs0 (.slice none 0 0) (.map (some w.heap.size))) 112)):=(Below.refl _ _).alloc (Nat.le_refl _) _
 have hS:FoS w.heap.size ((w.alloc (.map #[] 0)).alloc (.cells (fs0 (.slice none 0 0) (.map (some w.heap.size))) 112)) (w.heap.size+1) w.heap.size none 0 [] []:=
  ⟨.inl lg,(AtM.made w).frm (Frm.ofBelow hb []) (by simp),⟨[],[],rfl,rfl,fun i hi=>(by cases hi),World.ownsRow_nil _ _ _ _,rfl⟩,List.nodup_nil,fun q hq=>(by cases hq),by omega,Nat.le_refl _,fun p hp=>(by cases hp),Nat.zero_le _⟩
 have HE:=hide (zaa HQ (.returned (.pointer (some ⟨w.heap.size+1,0,none⟩))) _ ⟨rfl,hS,hA⟩)
 unfold fs0 at HE
 clear hA lg hb hS HQ
 go_enter Tryz.func53,Tryz.ntmps53
 go_wp2_with fail
 exact zaa HE
theorem zgF (w:World) (v:Value) (l:List Int) (h:Ints w v l) (hl:l.length≤67108864) :
  Calls Tryz.prog 122 #[v] w fun e w'=>∃a c,e=.returned (.slice a l.length c)∧OwnZ w' w.heap.size (.slice a l.length c) l∧Below w.heap.size w w':=by
 have HH:=hide h
 obtain⟨a,c,rfl,_,_⟩:=h.shape
 clear h
 go_enter Tryz.func122,Tryz.ntmps122
 go_wp2_with (at_builtin;refine zgT rfl _ _ rfl w.heap.size _ [] rfl (zeZ _ _) _ l rfl (zaa HH) ?c1 ?c2 ?_)
 case c1=>simp;omega
 case c2=>exact Nat.le_refl _
 intro v1 w1 ho hg
 try rw [List.nil_append]at ho
 obtain⟨a1,c1,rfl,_,_⟩:=ho.ints.shape
 have hB:=Below.ofGrown hg
 go_wp2_with fail
 go_ret
 exact⟨_,_,rfl,ho,hB⟩
theorem zes (w:World) (v:Value) (l:List Int) (h:Byt w v l) (hl:l.length≤67108864) :
  Calls Tryz.prog 123 #[v] w fun e w'=>∃a c,e=.returned (.slice a l.length c)∧Own w' w.heap.size (.slice a l.length c) l∧Below w.heap.size w w':=by
 refine (zdC w v l h hl).mono ?_
 rintro e w' ⟨v',rfl,ho,hB⟩
 obtain⟨a,c,rfl,_,_⟩:=ho.byt.shape
 exact⟨a,c,rfl,ho,hB⟩
set_option maxHeartbeats 6400000 in
theorem zeI (n:Nat) (w:World) (i:IdV) (t:Tr (n+1)) (b c d e:Value) (hrd:RdNode (n+1) w [.int .i64 t.kind,b,c,d,e] t) (hsz:szT (n+1) t≤2097152) :
  Calls Tryz.prog 86 #[zap i,.agg #[.int .i64 t.kind,b,c,d,e]] w fun e w'=>∃p2 k2 p3 k3 p4 k4 Fa,e=.returned (.agg #[.int .i64 i.1,.int .i64 i.2,.int .i64 0,.int .i64 0,.slice none 0 0,.int .i64 t.kind,.slice p2 t.name.length k2,.slice p3 t.text.length k3,.slice p4 t.attrs.length k4])∧
   Own w' 0 (.slice p2 t.name.length k2) t.name∧Own w' 0 (.slice p3 t.text.length k3) t.text∧OwAttrs w' (.slice p4 t.attrs.length k4) t.attrs Fa∧(FB (.slice p2 t.name.length k2)++FB (.slice p3 t.text.length k3)++Fa).Nodup∧(∀q∈FB (.slice p2 t.name.length k2)++FB (.slice p3 t.text.length k3)++Fa,w.heap.size≤q)∧Below w.heap.size w w':=by
 refine zaf ?_
 intro Q HQ
 have hA:Below w.heap.size w (((w.alloc (.cells #[.int .i64 i.1,.int .i64 i.2] 81)).alloc (.cells #[.int .i64 t.kind,b,c,d,e] 37)).alloc (.cells #[.int .i64 0,.int .i64 0,.int .i64 0,.int .i64 0,.slice none 0 0,.int .i64 0,.slice none 0 0,.slice none 0 0,.slice none 0 0] 117)):=zad (zad ((Below.refl _ _).alloc (Nat.le_refl _) _) ((Below.refl _ _).alloc (Nat.le_refl _) _)) ((Below.refl _ _).alloc (Nat.le_refl _) _)
 have l0:=((Loc.made w #[.int .i64 i.1,.int .i64 i.2] 81).alloc (.cells #[.int .i64 t.kind,b,c,d,e] 37)).alloc (.cells #[.int .i64 0,.int .i64 0,.int .i64 0,.int .i64 0,.slice none 0 0,.int .i64 0,.slice none 0 0,.slice none 0 0,.slice none 0 0] 117)
 have l1:=(Loc.made (w.alloc (.cells #[.int .i64 i.1,.int .i64 i.2] 81)) #[.int .i64 t.kind,b,c,d,e] 37).alloc (.cells #[.int .i64 0,.int .i64 0,.int .i64 0,.int .i64 0,.slice none 0 0,.int .i64 0,.slice none 0 0,.slice none 0 0,.slice none 0 0] 117)
 have l2:=Loc.made ((w.alloc (.cells #[.int .i64 i.1,.int .i64 i.2] 81)).alloc (.cells #[.int .i64 t.kind,b,c,d,e] 37)) #[.int .i64 0,.int .i64 0,.int .i64 0,.int .i64 0,.slice none 0 0,.int .i64 0,.slice none 0 0,.slice none 0 0,.slice none 0 0] 117
 simp only [World.size_alloc]at l1 l2
 have hs1:((((w.alloc (.cells #[.int .i64 i.1,.int .i64 i.2] 81)).alloc (.cells #[.int .i64 t.kind,b,c,d,e] 37)).alloc (.cells #[.int .i64 0,.int .i64 0,.int .i64 0,.int .i64 0,.slice none 0 0,.int .i64 0,.slice none 0 0,.slice none 0 0,.slice none 0 0] 117))).heap.size=w.heap.size+3:=by simp
 have HC:=hide (zeg n (((w.alloc (.cells #[.int .i64 i.1,.int .i64 i.2] 81)).alloc (.cells #[.int .i64 t.kind,b,c,d,e] 37)).alloc (.cells #[.int .i64 0,.int .i64 0,.int .i64 0,.int .i64 0,.slice none 0 0,.int .i64 0,.slice none 0 0,.slice none 0 0,.slice none 0 0] 117)) (.int .i64 t.kind) b c d e t (hrd.keep hA) hsz)
 have x0:=l1.cell 0
 have x1:=l1.cell 1
 have x2:=l1.cell 2
 have x3:=l1.cell 3
 have x4:=l1.cell 4
 have LL:=hide (And.intro hA (And.intro l0 (And.intro l1 (And.intro l2 hs1))))
 obtain⟨b',c',d',e',eC,_,_,hb,hc,hd,he⟩:=hrd
 simp only [List.cons.injEq,and_true,true_and]at eC
 obtain⟨rfl,rfl,rfl,rfl⟩:=eC
 obtain⟨_,_,rfl,_⟩:=hb.shape
 obtain⟨_,_,rfl,_⟩:=hc.shape
 obtain⟨_,_,rfl,_⟩:=Elems.shape hd
 obtain⟨_,_,rfl,_⟩:=Elems.shape he
 clear hA l0 l1 l2 hs1 hb hc hd he hsz
 unfold zap
 go_enter Tryz.func86,Tryz.ntmps86
 go_wp2_with fail
 refine (zaa HC).mono ?_
 rintro e w2 ⟨p2,k2,p3,k3,p4,k4,rfl,Fa,o2,o3,o4,hnd,hrg,hb2⟩
 obtain⟨hA,l0,l1,l2,hs1⟩:=zaa LL
 have m0:=l0.all hb2
 have m1:=l1.all hb2
 have m2:=l2.all hb2
 have hB2:=zad hA hb2
 clear HC LL l0 l1 l2 hA x0 x1 x2 x3 x4
 have x0:=m1.cell 0
 have x1:=m1.cell 1
 have x2:=m1.cell 2
 have x3:=m1.cell 3
 have x4:=m1.cell 4
 have xf0:=m1.frozen 0
 have xf1:=m1.frozen 1
 have xf2:=m1.frozen 2
 have xf3:=m1.frozen 3
 have xf4:=m1.frozen 4
 obtain⟨n1,f1⟩:=zby m1 (.int .i64 t.kind) (.slice p2 t.name.length k2) (.slice p3 t.text.length k3) (.slice p4 t.attrs.length k4) (.slice none 0 0)
 have n0:=m0.frm f1 (by simp)
 have n2:=m2.frm f1 (by simp)
 have hrg':∀q∈FB (.slice p2 t.name.length k2)++FB (.slice p3 t.text.length k3)++Fa,w.heap.size+3≤q:=fun q hq=>by have:=(hrg q hq).1;omega
 have hB3:=hB2.trans (f1.below hB2.size (fun q hq=>by have e9:q=w.heap.size+1:=(by simpa using hq);omega))
 have q2:=o2.frm f1 (fun q hq e9=>by have e9:q=w.heap.size+1:=(by simpa using e9);have:=hrg' q (by simp [hq]);omega)
 have q3:=o3.frm f1 (fun q hq e9=>by have e9:q=w.heap.size+1:=(by simpa using e9);have:=hrg' q (by simp [hq]);omega)
 have q4:=OwAttrs.frm o4 f1 (fun q hq e9=>by have e9:q=w.heap.size+1:=(by simpa using e9);have:=hrg' q (by simp [hq]);omega)
 have HK:=hide (And.intro n0 (And.intro n1 (And.intro n2 (And.intro hB3 (And.intro q2 (And.intro q3 (And.intro q4 (And.intro hnd hrg'))))))))
 clear m0 m1 m2 n0 n1 n2 f1 hB2 hB3 o2 o3 o4 q2 q3 q4 hnd hrg hrg' hb2 hs1
 go_upto_region 2 with fail
 obtain⟨n0,n1,n2,hB3,q2,q3,q4,hnd,hrg'⟩:=zaa HK
 clear HK x0 x1 x2 x3 x4 xf0 xf1 xf2 xf3 xf4
 generalize (((((w2.setCell ⟨w.heap.size+1,0,none⟩ (.int .i64 t.kind)).setCell ⟨w.heap.size+1,1,none⟩ (.slice p2 t.name.length k2)).setCell ⟨w.heap.size+1,2,none⟩ (.slice p3 t.text.length k3)).setCell ⟨w.heap.size+1,3,none⟩ (.slice p4 t.attrs.length k4)).setCell ⟨w.heap.size+1,4,none⟩ (.slice none 0 0))=w3 at *
 have i0:=n0.cell 0
 have i1:=n0.cell 1
 have x0:=n1.cell 0
 have x1:=n1.cell 1
 have x2:=n1.cell 2
 have x3:=n1.cell 3
 have z0:=n2.cell 0
 have z1:=n2.cell 1
 have z2:=n2.cell 2
 have z3:=n2.cell 3
 have z4:=n2.cell 4
 have z5:=n2.cell 5
 have z6:=n2.cell 6
 have z7:=n2.cell 7
 have z8:=n2.cell 8
 have y0:=n2.frozen 0
 have y1:=n2.frozen 1
 have y2:=n2.frozen 2
 have y3:=n2.frozen 3
 have y4:=n2.frozen 4
 have y5:=n2.frozen 5
 have y6:=n2.frozen 6
 have y7:=n2.frozen 7
 have y8:=n2.frozen 8
 obtain⟨r1,f2⟩:=zki n2 (.int .i64 i.1) (.int .i64 i.2) (.int .i64 0) (.int .i64 0) (.slice none 0 0) (.int .i64 t.kind) (.slice p2 t.name.length k2) (.slice p3 t.text.length k3) (.slice p4 t.attrs.length k4)
 have hB4:=hB3.trans (f2.below hB3.size (fun q hq=>by have e9:q=w.heap.size+2:=(by simpa using hq);omega))
 have s2:=q2.frm f2 (fun q hq e9=>by have e9:q=w.heap.size+2:=(by simpa using e9);have:=hrg' q (by simp [hq]);omega)
 have s3:=q3.frm f2 (fun q hq e9=>by have e9:q=w.heap.size+2:=(by simpa using e9);have:=hrg' q (by simp [hq]);omega)
 have s4:=OwAttrs.frm q4 f2 (fun q hq e9=>by have e9:q=w.heap.size+2:=(by simpa using e9);have:=hrg' q (by simp [hq]);omega)
 have HE:=hide (And.intro r1 (zaa HQ (.returned (.agg #[.int .i64 i.1,.int .i64 i.2,.int .i64 0,.int .i64 0,.slice none 0 0,.int .i64 t.kind,.slice p2 t.name.length k2,.slice p3 t.text.length k3,.slice p4 t.attrs.length k4])) _ ⟨p2,k2,p3,k3,p4,k4,Fa,rfl,s2,s3,s4,hnd,fun q hq=>by have:=hrg' q hq;omega,hB4⟩))
 clear n0 n1 n2 r1 f2 hB3 hB4 q2 q3 q4 s2 s3 s4 hnd hrg' HQ
 go_wp2_with fail
 have E:=(zaa HE).1
 have e0:=E.cell 0
 have e1:=E.cell 1
 have e2:=E.cell 2
 have e3:=E.cell 3
 have e4:=E.cell 4
 have e5:=E.cell 5
 have e6:=E.cell 6
 have e7:=E.cell 7
 have e8:=E.cell 8
 exact bodyPost_ret (v:=.agg #[.int .i64 i.1,.int .i64 i.2,.int .i64 0,.int .i64 0,.slice none 0 0,.int .i64 t.kind,.slice p2 t.name.length k2,.slice p3 t.text.length k3,.slice p4 t.attrs.length k4]) (by simp [results,Tryz.results86,go_sem,e0,e1,e2,e3,e4,e5,e6,e7,e8]) rfl (zaa HE).2
end Go.Proofs.YtlpnibbdmkeklaaGreatDoor
namespace Go.Proofs.YtlpnibbdmkeklaaGreatDoor
open Go.RowKit
set_option linter.unusedVariables false
set_option maxRecDepth 100000
theorem zpU (w:World) (n r:Int):Calls Tryz.prog 55 #[.agg #[.int .i64 n,.int .i64 r]] w fun e w'=>e=.returned (.bool (idB n r))∧Below w.heap.size w w':=
 (zdZ w n r).mono fun e w' ⟨h1,h2⟩=>⟨h1,by rw [h2];exact ((Below.refl _ _).alloc (Nat.le_refl _) _).alloc (by simp) _⟩
theorem zrF {l:List PlV} (h:l.length<2∨272<l.length):stB l=false:=by
 rw [zgg]
 unfold stI
 rcases h with h | h
 ·rw [decide_eq_false (show ¬ 2≤l.length by omega)];simp
 ·rw [decide_eq_false (show ¬ l.length≤272 by omega)];simp
theorem zrH {l:List PlV} {i:Nat} {p:PlV} (hp:l[i]? = some p) (h:newB l i p=false):stB l=false:=by
 rw [zgg]
 unfold stI
 rw [zhi hp h]
 simp
theorem zqf {l:List PlV} (h:(topI l 0 zak && topI l 1 zag)=false):stB l=false:=by
 rw [zgg]
 unfold stI
 rw [Bool.and_assoc (decide (2≤l.length) && decide (l.length≤272) && zbh l (newB l)),h]
 simp
theorem zmO {l:List PlV} (h:(zbh l (zbq l) && zbh l (zbu l))=false):stB l=false:=by
 rw [zgg]
 unfold stI
 rw [Bool.and_assoc _ (zbh l (zbq l)),h]
 simp
theorem zrm {l:List PlV} (h2:2≤l.length) (hm:l.length≤272) (hn:∀i p,l[i]? = some p→newB l i p=true) (ht:(topI l 0 zak && topI l 1 zag)=true) (ho:(zbh l (zbq l) && zbh l (zbu l))=true):stB l=true:=by
 rw [zgg]
 unfold stI
 rw [Bool.and_eq_true]at ht ho
 rw [decide_eq_true h2,decide_eq_true hm,(zbc l _).2 hn,ht.1,ht.2,ho.1,ho.2]
 rfl
theorem zhX {l:List PlV} {i:Nat} {id:IdV} (h:topI l i id=true):∀p,l[i]? = some p→p.id=id:=fun p hp=>by
 rw [zhU hp]at h
 simp only [Bool.and_eq_true,decide_eq_true_eq]at h
 exact h.1.1.1
theorem FoQ.lt7 {w0 w:World} {g mb:Nat} {a:Option Addr} {c:Nat} {l:List PlV} {F:List Nat} (h:FoQ w0 w g mb a c l F):∀q∈g::mb::F,q<w.heap.size:=fun q hq=>by
 rcases List.mem_cons.1 hq with rfl | hq
 ·exact h.set.lt
 ·rcases List.mem_cons.1 hq with rfl | hq
  ·exact h.map.lt
  ·exact PlsQ.lt h.row q hq
theorem zqb {w w':World} {b off i:Nat} {p:PlV} {k n t q:Option Addr} {ck cn ct cq:Nat} (hb:Below w.heap.size w w') (hbl:b<w.heap.size) (h:∃C:List Value,C.length=9∧(∀j,j<9→w.cell? ⟨b,off+i*9+j,none⟩=C[j]?)∧RdPlC w C p)
  (e4:w'.cell? ⟨b,off+i*9+4,none⟩=some (.slice k p.key.length ck)) (e6:w'.cell? ⟨b,off+i*9+6,none⟩=some (.slice n p.name.length cn)) (e7:w'.cell? ⟨b,off+i*9+7,none⟩=some (.slice t p.text.length ct)) (e8:w'.cell? ⟨b,off+i*9+8,none⟩=some (.slice q p.attrs.length cq)):Ints w (.slice k p.key.length ck) p.key∧Byt w (.slice n p.name.length cn) p.name∧Byt w (.slice t p.text.length ct) p.text∧RdAttrs w (.slice q p.attrs.length cq) p.attrs:=by
 refine⟨?_,zhd hb hbl h e4 e6 e7 e8⟩
 obtain⟨C,_,hc,K,N,X,A,rfl,h1,h2,h3,h4⟩:=h
 have f4:=(hb.cell (p:=⟨b,off+i*9+4,none⟩) hbl).trans (hc 4 (by omega))
 rw [e4]at f4
 injection f4 with f4
 rw [f4]
 exact h1
theorem FoQ.new {B:Nat} {w0 w:World} {g mb:Nat} (h:FoS B w g mb none 0 [] []) (hB:w0.heap.size≤B):FoQ w0 w g mb none 0 [] []:=
 ⟨h.set,h.map,OwElems.naught _ _ _ _,List.nodup_nil,fun q hq=>(by cases hq),by have:=h.geg;omega,by have:=h.gem;omega,fun p hp=>(by cases hp),by simp⟩
set_option maxHeartbeats 12800000 in
theorem zrr (w:World) (a:Option Addr) (c:Nat) (l:List PlV) (h:RdPls w (.slice a l.length c) l) (hK:∀p∈l,-9223372036854775808≤p.kind∧p.kind≤9223372036854775807) (hI:∀p∈l,okI p.id∧okI p.par) (hG:Glo w) :
  Calls Tryz.prog 23 #[.agg #[.slice a l.length c]] w fun e w'=>PjA w l e w':=by
 refine zaf ?_
 intro Q HQ
 have ls:=(Loc.made w #[.slice a l.length c] 58).alloc (.cells #[.int .i64 0,.slice none 0 0,.slice none 0 0,.slice none 0 0,.slice none 0 0] 37)
 have lr:=Loc.made (w.alloc (.cells #[.slice a l.length c] 58)) #[.int .i64 0,.slice none 0 0,.slice none 0 0,.slice none 0 0,.slice none 0 0] 37
 have hA:Below w.heap.size w ((w.alloc (.cells #[.slice a l.length c] 58)).alloc (.cells #[.int .i64 0,.slice none 0 0,.slice none 0 0,.slice none 0 0,.slice none 0 0] 37)):=((Below.refl _ _).alloc (Nat.le_refl _) _).alloc (by simp) _
 simp only [World.size_alloc]at lr
 have hs2:((w.alloc (.cells #[.slice a l.length c] 58)).alloc (.cells #[.int .i64 0,.slice none 0 0,.slice none 0 0,.slice none 0 0,.slice none 0 0] 37)).heap.size=w.heap.size+2:=by simp
 have HX:=hide (And.intro ls (And.intro lr (And.intro hA (And.intro (h.keep hA) (And.intro (hG.keep hA) hs2)))))
 have x0:=ls.cell 0
 simp at x0
 have hgl:2≤w.heap.size:=by have:=zaI hG.2.2.1;exact this
 clear ls lr hA h hG hs2
 by_cases hsh:l.length<2∨272<l.length
 ·have hst:=zrF hsh
  obtain⟨ls,lr,hA,-,-,-⟩:=zaa HX
  have HR:=hide (And.intro lr hA)
  clear HX lr ls hA
  have d2:decide ((l.length:Int)<2)=decide (l.length<2):=by congr 1;simp;omega
  obtain⟨lr,hA⟩:=zaa HR
  have HE:=hide (zaa HQ _ _ (PjA.no hst hA))
  rcases hsh with hsh | hsh
  ·have e2:(l.length:Int)<2:=by omega
   clear d2 hst hK hI HR lr hA
   go_enter Tryz.func23,Tryz.ntmps23
   go_wp2_with fail
   exact bodyPost_ret (v:=.tuple #[.agg #[.int .i64 0,.slice none 0 0,.slice none 0 0,.slice none 0 0,.slice none 0 0],.bool false]) (by simp [results,Tryz.results23,go_sem]) rfl (zaa HE)
  ·have e2:¬ (l.length:Int)<2:=by omega
   have e3:(272:Int)<(l.length:Int):=by omega
   clear d2 hst hK hI HR lr hA
   go_enter Tryz.func23,Tryz.ntmps23
   go_wp2_with fail
   exact bodyPost_ret (v:=.tuple #[.agg #[.int .i64 0,.slice none 0 0,.slice none 0 0,.slice none 0 0,.slice none 0 0],.bool false]) (by simp [results,Tryz.results23,go_sem]) rfl (zaa HE)
 have hn2:¬ (l.length:Int)<2:=by omega
 have hn3:¬ (272:Int)<(l.length:Int):=by omega
 have hle2:2≤l.length:=by omega
 have hle3:l.length≤272:=by omega
 clear hsh
 go_enter Tryz.func23,Tryz.ntmps23
 go_wp2_with fail
 obtain⟨ls,lr,hA,h,hG,hs2⟩:=zaa HX
 have HKK:=hide hK
 have HII:=hide hI
 clear HX hK hI
 generalize ((w.alloc (.cells #[.slice a l.length c] 58)).alloc (.cells #[.int .i64 0,.slice none 0 0,.slice none 0 0,.slice none 0 0,.slice none 0 0] 37))=w2 at *
 refine (zfu w2).mono ?_
 rintro e w3 ⟨rfl,hS,hb3⟩
 have hq3:FoQ w2 w3 (w2.heap.size+1) w2.heap.size none 0 [] []:=FoQ.new hS (Nat.le_refl _)
 clear hS
 obtain⟨g,hg⟩:∃g,g=w2.heap.size+1:=⟨_,rfl⟩
 rw [←hg]at hq3 ⊢
 obtain⟨mb,hmb⟩:∃mb,mb=w2.heap.size:=⟨_,rfl⟩
 rw [←hmb]at hq3
 have x3:=(ls.all hb3).cell 0
 simp at x3
 have HX:=hide (And.intro ls (And.intro lr (And.intro hA (And.intro h (And.intro hG (And.intro hq3 hb3))))))
 have hs2':w.heap.size+2≤w2.heap.size:=by omega
 clear x0 ls lr hA h hG hq3 hb3 hmb hs2 hg
 go_wp2_with fail
 obtain⟨ls,lr,hA,h,hG,hq3,hb3⟩:=zaa HX
 clear HX x3
 obtain⟨h0_,_⟩ | ⟨b,off,cap,hv,_,hbl,hel⟩:=h.cases
 ·rw [h0_]at hle2;simp at hle2
 cases hv
 have hgm:g<w3.heap.size:=hq3.set.lt
 have hgw:w2.heap.size≤g:=hq3.geg
 have HEL:=hide hel
 clear hel h ls
 go_loopw [23] (fun i wr=>∃(j:Nat) (a':Option Addr) (c':Nat) (F':List Nat),j≤l.length∧i=.int .i64 (j:Int)∧(∀i p,i<j→l[i]? = some p→newB l i p=true)∧FoQ w2 wr g mb a' c' (l.take j) F'∧Below w2.heap.size w2 wr) (fun i _=>l.length-(intOf i).toNat)
 case atStart=>exact⟨0,none,0,[],Nat.zero_le _,rfl,fun i p hi=>by omega,hq3,hb3⟩
 case round=>
  obtain⟨j,a',c',F',hj,rfl,hok,hq,hb⟩:=hrel
  replace hA:=hA.trans (hb.mono (by omega))
  have HGG:=hide hG
  have HQ3:=hide (And.intro hq3 hb3)
  clear hq3 hb3
  replace lr:=lr.all hb
  clear hG
  by_cases hlt:j<l.length
  ·obtain⟨k0,ck0,n0,cn0,t0,ct0,q0,cq0,e0,e1,e2,e3,e4,e5,e6,e7,e8,hrd⟩:=zkH hb hbl (zaa HEL j hlt)
   have hro:=zqb hb hbl (zaa HEL j hlt) e4 e6 e7 e8
   have hp:l[j]? = some l[j]:=by simp [hlt]
   have hKj:=zaa HKK l[j] (List.getElem_mem _)
   have hIj:=zaa HII l[j] (List.getElem_mem _)
   have hst1:=fun (hh:newB l j l[j]=false)=>zrH hp hh
   have hnx:newB l j l[j]=true→∀i p,i<j+1→l[i]? = some p→newB l i p=true:=fun hh i p hi hq=>by
    rcases Nat.lt_succ_iff_lt_or_eq.1 hi with h1 | h1
    ·exact hok i p h1 hq
    ·rw [h1,hp]at hq
     rw [h1]
     exact Option.some.inj hq ▸ hh
   have htk:l.take (j+1)=l.take j++[l[j]]:=List.take_succ_eq_append_getElem hlt
   have hnb:newB l j l[j]=(decide (posP (l.take j) l[j].id=none) && idB l[j].idN l[j].idR && zbb l[j]):=rfl
   clear hrd hok hp
   generalize l[j]=p at *
   have hlt':(j:Int)<(l.length:Int):=by omega
   have hj0:(0:Int)≤(j:Int):=by omega
   have hbw:b<wr.heap.size:=zaI e0
   have lx:=Loc.made wr #[.int .i64 p.idN,.int .i64 p.idR,.int .i64 p.parN,.int .i64 p.parR,.slice k0 p.key.length ck0,.int .i64 p.kind,.slice n0 p.name.length cn0,.slice t0 p.text.length ct0,.slice q0 p.attrs.length cq0] 117
   have hx:Below wr.heap.size wr (wr.alloc (.cells #[.int .i64 p.idN,.int .i64 p.idR,.int .i64 p.parN,.int .i64 p.parR,.slice k0 p.key.length ck0,.int .i64 p.kind,.slice n0 p.name.length cn0,.slice t0 p.text.length ct0,.slice q0 p.attrs.length cq0] 117)):=(Below.refl _ _).alloc (Nat.le_refl _) _
   obtain⟨x0,x1,x2,x3,x4,x5,x6,x7,x8⟩:=zej lx _ _ _ _ _ _ _ _ _ rfl
   have hqx:=hq.keep hx
   have hAx:=zad hA hx
   have hbx:=zad hb hx
   have lrx:=lr.all hx
   have HX:=hide (And.intro hqx (And.intro hAx (And.intro hbx (And.intro lrx (And.intro lx (And.intro hro (And.intro hKj hIj)))))))
   have HN:=hide (And.intro hst1 (And.intro hnx (And.intro htk hnb)))
   have HFD:=hide (zcc hqx p.id hIj.1)
   clear hq hA hb lr lx hx hqx hAx hbx lrx hro hKj hIj hst1 hnx htk hnb
   unfold zap at HFD
   go_wp2_with fail
   clear e0 e1 e2 e3 e4 e5 e6 e7 e8
   obtain⟨hq,hA,hb,lr,lx,hro,hKj,hIj⟩:=zaa HX
   obtain⟨hst1,hnx,htk,hnb⟩:=zaa HN
   clear HX HN
   generalize (wr.alloc (.cells #[.int .i64 p.idN,.int .i64 p.idR,.int .i64 p.parN,.int .i64 p.parR,.slice k0 p.key.length ck0,.int .i64 p.kind,.slice n0 p.name.length cn0,.slice t0 p.text.length ct0,.slice q0 p.attrs.length cq0] 117))=wx at *
   refine (zaa HFD).mono ?_
   rintro e w5 ⟨hf0,hf1,hb5⟩
   clear HFD
   replace hq:=hq.keep hb5
   replace hA:=zad hA hb5
   replace hb:=zad hb hb5
   replace lr:=lr.all hb5
   replace lx:=lx.all hb5
   clear x0 x1 x2 x3 x4 x5 x6 x7 x8 hb5
   cases hpos:posP (l.take j) p.id with
   | some k=>
    obtain⟨gr,-,rfl⟩:=hf1 k hpos
    have hst:=hst1 (by rw [hnb,hpos];simp)
    clear hnx htk hnb hq hro lx hpos hf0 hf1 hb hst1
    obtain⟨z0,z1,z2,z3,z4⟩:=lr.five
    have i0_:=lr.frozen 0
    have i1_:=lr.frozen 1
    have i2_:=lr.frozen 2
    have i3_:=lr.frozen 3
    have i4_:=lr.frozen 4
    obtain⟨lX,fX⟩:=zby lr (.int .i64 0) (.slice none 0 0) (.slice none 0 0) (.slice none 0 0) (.slice none 0 0)
    have HE:=hide (zaa HQ _ _ (PjA.no hst (hA.trans (fX.below hA.size (fun q hq=>by simp at hq;omega)))))
    clear lX fX hst lr hA
    go_wp2_with fail
    exact bodyPost_ret (v:=.tuple #[.agg #[.int .i64 0,.slice none 0 0,.slice none 0 0,.slice none 0 0,.slice none 0 0],.bool false]) (by simp [results,Tryz.results23,go_sem,z0,z1,z2,z3,z4]) rfl (zaa HE)
   | none=>
    obtain rfl:=hf0 hpos
    rw [hpos,show decide ((none:Option Nat)=none)=true from rfl,Bool.true_and]at hnb
    obtain⟨x0,x1,x2,x3,x4,x5,x6,x7,x8⟩:=zej lx _ _ _ _ _ _ _ _ _ rfl
    have HX:=hide (And.intro hq (And.intro hA (And.intro hb (And.intro lr (And.intro lx (And.intro hro (And.intro hKj hIj)))))))
    have HN:=hide (And.intro hst1 (And.intro hnx (And.intro htk (And.intro hnb hpos))))
    clear hq hA hb lr lx hro hKj hIj hst1 hnx htk hnb hpos hf0 hf1
    go_wp2_with fail
    refine (zpU _ p.idN p.idR).mono ?_
    rintro e w6 ⟨rfl,hb6⟩
    obtain⟨hq,hA,hb,lr,lx,hro,hKj,hIj⟩:=zaa HX
    obtain⟨hst1,hnx,htk,hnb,hpos⟩:=zaa HN
    clear HX HN x0 x1 x2 x3 x4 x5 x6 x7 x8
    replace hq:=hq.keep hb6
    replace hA:=zad hA hb6
    replace hb:=zad hb hb6
    replace lr:=lr.all hb6
    replace lx:=lx.all hb6
    clear hb6
    cases hid:idB p.idN p.idR with
    | false=>
     have hst:=hst1 (by rw [hnb,hid,Bool.false_and])
     clear hnx htk hnb hq hro lx hpos hb hst1 hid
     obtain⟨z0,z1,z2,z3,z4⟩:=lr.five
     have i0_:=lr.frozen 0
     have i1_:=lr.frozen 1
     have i2_:=lr.frozen 2
     have i3_:=lr.frozen 3
     have i4_:=lr.frozen 4
     obtain⟨lX,fX⟩:=zby lr (.int .i64 0) (.slice none 0 0) (.slice none 0 0) (.slice none 0 0) (.slice none 0 0)
     have HE:=hide (zaa HQ _ _ (PjA.no hst (hA.trans (fX.below hA.size (fun q hq=>by simp at hq;omega)))))
     clear lX fX hst lr hA
     skip
     go_wp2_with fail
     exact bodyPost_ret (v:=.tuple #[.agg #[.int .i64 0,.slice none 0 0,.slice none 0 0,.slice none 0 0,.slice none 0 0],.bool false]) (by simp [results,Tryz.results23,go_sem,z0,z1,z2,z3,z4]) rfl (zaa HE)
    | true=>
     rw [hid,Bool.true_and]at hnb
     obtain⟨x0,x1,x2,x3,x4,x5,x6,x7,x8⟩:=zej lx _ _ _ _ _ _ _ _ _ rfl
     have HX:=hide (And.intro hq (And.intro hA (And.intro hb (And.intro lr (And.intro lx (And.intro hro (And.intro hKj hIj)))))))
     have HN:=hide (And.intro hst1 (And.intro hnx (And.intro htk (And.intro hnb hpos))))
     clear hq hA hb lr lx hro hKj hIj hst1 hnx htk hnb hpos hid
     go_wp2_with fail
     refine (zfh _ p k0 n0 t0 q0 ck0 cn0 ct0 cq0).mono ?_
     rintro e w7 ⟨rfl,hb7⟩
     go_wp2_with fail
     obtain⟨hq,hA,hb,lr,lx,hro,hKj,hIj⟩:=zaa HX
     obtain⟨hst1,hnx,htk,hnb,hpos⟩:=zaa HN
     clear HX HN x0 x1 x2 x3 x4 x5 x6 x7 x8
     replace hb:=zad hb hb7
     refine (znY w2 w7 p n0 t0 q0 cn0 ct0 cq0 hro.2.1 hro.2.2.1 hro.2.2.2 hb hKj).mono ?_
     rintro e w8 ⟨rfl,hb8⟩
     have hb78:=zad hb7 hb8
     replace hq:=hq.keep hb78
     replace hA:=zad hA hb78
     replace hb:=zad hb hb8
     replace lr:=lr.all hb78
     replace lx:=lx.all hb78
     rw [←hnb]
     clear hb7 hb8 hb78
     cases hnv:newB l j p with
     | false=>
      have hst:=hst1 hnv
      clear hnx htk hnb hq hro lx hpos hb hst1 hnv
      obtain⟨z0,z1,z2,z3,z4⟩:=lr.five
      have i0_:=lr.frozen 0
      have i1_:=lr.frozen 1
      have i2_:=lr.frozen 2
      have i3_:=lr.frozen 3
      have i4_:=lr.frozen 4
      obtain⟨lX,fX⟩:=zby lr (.int .i64 0) (.slice none 0 0) (.slice none 0 0) (.slice none 0 0) (.slice none 0 0)
      have HE:=hide (zaa HQ _ _ (PjA.no hst (hA.trans (fX.below hA.size (fun q hq=>by simp at hq;omega)))))
      clear lX fX hst lr hA
      skip
      go_wp2_with fail
      exact bodyPost_ret (v:=.tuple #[.agg #[.int .i64 0,.slice none 0 0,.slice none 0 0,.slice none 0 0,.slice none 0 0],.bool false]) (by simp [results,Tryz.results23,go_sem,z0,z1,z2,z3,z4]) rfl (zaa HE)
     | true=>
      obtain⟨x0,x1,x2,x3,x4,x5,x6,x7,x8⟩:=zej lx _ _ _ _ _ _ _ _ _ rfl
      have hlj:(l.take j).length=j:=by rw [List.length_take];omega
      have HAD:=hide (zqj hq p k0 n0 t0 q0 ck0 cn0 ct0 cq0 [] ⟨⟨_,_,_,_,rfl,hro.1,hro.2.1,hro.2.2.1,hro.2.2.2⟩,rfl⟩ List.nodup_nil (fun q hq=>(by cases hq)) (fun q hq=>by simp) hIj.1 hIj.2 hpos (by omega))
      have hFg:=hq.ge
      have hgg:=hq.geg
      have hgm2:=hq.gem
      have HX:=hide (And.intro hA (And.intro hb (hnx hnv)))
      have HTK:=hide htk
      have HFG:=hide hFg
      clear hq hA hb lr lx hro hKj hIj hst1 hnx htk hnb hpos hnv hFg hlj
      go_wp2_with fail
      refine (zaa HAD).mono ?_
      rintro e w9 ⟨rfl,a9,c9,F9,hq9,hf9,-⟩
      obtain⟨hA,hb,hnx⟩:=zaa HX
      rw [←zaa HTK]at hq9
      have hb9:Below w2.heap.size w2 w9:=hb.trans (hf9.below hb.size (fun q hq=>by
       rcases List.mem_cons.1 hq with rfl | hq
       ·exact hgg
       ·rcases List.mem_cons.1 hq with rfl | hq
        ·exact hgm2
        ·exact zaa HFG q hq))
      have HE:=hide (And.intro hq9 (And.intro hb9 hnx))
      clear HX HAD hA hb hnx hq9 hf9 hb9 x0 x1 x2 x3 x4 x5 x6 x7 x8
      go_wp2_with fail
      go_roundw
      case rel=>exact⟨j+1,a9,c9,F9,by omega,by go_num,(zaa HE).2.2,(zaa HE).1,(zaa HE).2.1⟩
      case measure=>simp [intOf];omega
  ·have hnl:¬ (j:Int)<(l.length:Int):=by omega
   have hnew:∀i p,l[i]? = some p→newB l i p=true:=fun i p hp=>hok i p (by have:=(List.getElem?_eq_some_iff.1 hp).1;omega) hp
   rw [List.take_of_length_le (by omega)]at hq
   have hu:(l.map PlV.id).Nodup:=zdu (fun i p hp=>zhv (fun i p hp=>by
    have:=hnew i p hp
    unfold newB at this
    simp only [Bool.and_eq_true,decide_eq_true_eq]at this
    exact this.1.1) hp)
   obtain⟨gr,rfl,-⟩:=hq.at (by omega)
   have hGr:=((zaa HGG).keep hb)
   have hTP:=zmV hq hb hGr hle2
   have HTP:=hide hTP
   have HX:=hide (And.intro hq (And.intro hA (And.intro hb (And.intro lr (And.intro hGr (And.intro hnew hu))))))
   clear hq hA hb lr hGr hnew hu hok hTP
   go_wp2_with fail
   refine (zaa HTP).mono ?_
   rintro e w5 ⟨rfl,hq,hf5⟩
   obtain⟨hq_,hA,hb,lr,hGr,hnew,hu⟩:=zaa HX
   have hgg:=hq_.geg
   clear hq_ HTP HX
   replace hb:=hb.trans (hf5.below hb.size (fun q hq=>by simp at hq;omega))
   replace hA:=hA.trans (hf5.below hA.size (fun q hq=>by simp at hq;omega))
   replace lr:=lr.frm hf5 (by simp;omega)
   replace hGr:=hGr.frm hf5 (fun q hq=>by simp at hq;omega)
   clear hf5
   cases htp:(topI l 0 zak && topI l 1 zag)with
   | false=>
    have hst:=zqf htp
    clear hq hb hGr hnew hu htp
    obtain⟨z0,z1,z2,z3,z4⟩:=lr.five
    have i0_:=lr.frozen 0
    have i1_:=lr.frozen 1
    have i2_:=lr.frozen 2
    have i3_:=lr.frozen 3
    have i4_:=lr.frozen 4
    obtain⟨lX,fX⟩:=zby lr (.int .i64 0) (.slice none 0 0) (.slice none 0 0) (.slice none 0 0) (.slice none 0 0)
    have HE:=hide (zaa HQ _ _ (PjA.no hst (hA.trans (fX.below hA.size (fun q hq=>by simp at hq;omega)))))
    clear lX fX hst lr hA
    skip
    go_wp2_with fail
    exact bodyPost_ret (v:=.tuple #[.agg #[.int .i64 0,.slice none 0 0,.slice none 0 0,.slice none 0 0,.slice none 0 0],.bool false]) (by simp [results,Tryz.results23,go_sem,z0,z1,z2,z3,z4]) rfl (zaa HE)
   | true=>
    have htp':=htp
    rw [Bool.and_eq_true]at htp'
    have HOT:=hide (zkG hq hb hGr hle2 (by omega) (zhX htp'.1) (zhX htp'.2) hu)
    have HX:=hide (And.intro hq (And.intro hA (And.intro hb (And.intro lr (And.intro hGr (And.intro hnew (And.intro hu (And.intro htp (zhX htp'.1)))))))))
    clear hq hA hb lr hGr hnew hu htp htp'
    go_wp2_with fail
    refine (zaa HOT).mono ?_
    rintro e w6 ⟨rfl,hq,hf5⟩
    obtain⟨hq_,hA,hb,lr,hGr,hnew,hu,htp,hroot⟩:=zaa HX
    clear hq_ HOT HX
    replace hb:=hb.trans (hf5.below hb.size (fun q hq=>by simp at hq;omega))
    replace hA:=hA.trans (hf5.below hA.size (fun q hq=>by simp at hq;omega))
    replace lr:=lr.frm hf5 (by simp;omega)
    replace hGr:=hGr.frm hf5 (fun q hq=>by simp at hq;omega)
    clear hf5
    cases hot:(zbh l (zbq l) && zbh l (zbu l))with
    | false=>
     have hst:=zmO hot
     clear hq hb hGr hnew hu htp hroot hot
     obtain⟨z0,z1,z2,z3,z4⟩:=lr.five
     have i0_:=lr.frozen 0
     have i1_:=lr.frozen 1
     have i2_:=lr.frozen 2
     have i3_:=lr.frozen 3
     have i4_:=lr.frozen 4
     obtain⟨lX,fX⟩:=zby lr (.int .i64 0) (.slice none 0 0) (.slice none 0 0) (.slice none 0 0) (.slice none 0 0)
     have HE:=hide (zaa HQ _ _ (PjA.no hst (hA.trans (fX.below hA.size (fun q hq=>by simp at hq;omega)))))
     clear lX fX hst lr hA
     skip
     go_wp2_with fail
     exact bodyPost_ret (v:=.tuple #[.agg #[.int .i64 0,.slice none 0 0,.slice none 0 0,.slice none 0 0,.slice none 0 0],.bool false]) (by simp [results,Tryz.results23,go_sem,z0,z1,z2,z3,z4]) rfl (zaa HE)
    | true=>
     have hst:=zrm hle2 hle3 hnew htp hot
     have hsm:=zjY hst
     have lp:=Loc.made w6 #[.int .i64 0] 3
     have h7:Below w6.heap.size w6 (w6.alloc (.cells #[.int .i64 0] 3)):=(Below.refl _ _).alloc (Nat.le_refl _) _
     have hp0:l[0]? = some l[0]:=by simp [show 0<l.length by omega]
     have hid0:=hroot _ hp0
     have hin:l[0].idN=0∧l[0].idR=0:=⟨(Prod.mk.inj hid0).1,(Prod.mk.inj hid0).2⟩
     have hHt:=hq.lt7
     have HTR:=hide (zkx 19 w2 (w6.alloc (.cells #[.int .i64 0] 3)) g mb gr c' l F' 0 l[0] 120 0 1 w6.heap.size (hq.keep h7) (zad hb h7) hle2 hu (zaa HKK) hsm (fun e=>by have:=hHt _ e;omega) hb.size lp (by omega) hp0 (by omega) (by omega) (by decide) (by omega))
     rw [hin.1,hin.2]at HTR
     obtain⟨y0,y1,-,-⟩:=hGr.keep h7
     have HX:=hide (And.intro hA (And.intro (lr.all h7) (And.intro h7 hst)))
     have hlr:=lr.lt
     clear hq hA hb lr hGr hnew hu htp hroot hot hsm lp h7 hp0 hid0 hin hst hHt
     go_wp2_with fail
     refine (zaa HTR).mono ?_
     rintro e w9 ⟨kd,a1,n1,c1,a2,n2,c2,a3,n3,c3,a4,n4,c4,rfl,G,hG,ndG,rG,-,hf9⟩
     obtain⟨hA,lr7,h7,hst⟩:=zaa HX
     have lr9:=lr7.frm hf9 (by simp;omega)
     have hA9:Below w.heap.size w w9:=(zad hA h7).trans (hf9.below (zad hA h7).size (fun q hq=>by simp at hq;have:=hA.size;omega))
     have s6:=h7.size
     have s60:=hA.size
     obtain⟨z0,z1,z2,z3,z4⟩:=lr9.five
     have i0_:=lr9.frozen 0
     have i1_:=lr9.frozen 1
     have i2_:=lr9.frozen 2
     have i3_:=lr9.frozen 3
     have i4_:=lr9.frozen 4
     obtain⟨lX,fX⟩:=zby lr9 (.int .i64 kd) (.slice a1 n1 c1) (.slice a2 n2 c2) (.slice a3 n3 c3) (.slice a4 n4 c4)
     have hGX:=OwNode.frm hG fX (fun q hq=>by have:=(rG q hq).1;simp;omega)
     have hAX:=hA9.trans (fX.below hA9.size (fun q hq=>by simp at hq;omega))
     have HE:=hide (zaa HQ (.returned (.tuple #[.agg #[.int .i64 kd,.slice a1 n1 c1,.slice a2 n2 c2,.slice a3 n3 c3,.slice a4 n4 c4],.bool true])) _ ⟨kd,a1,n1,c1,a2,n2,c2,a3,n3,c3,a4,n4,c4,by rw [hst],G,by rw [zgq hst];exact hGX,ndG,rG.mono (by omega) fX.size,hAX⟩)
     clear lX fX hGX hAX lr9 hA9 rG hG lr7 h7 hA HX HTR hst hf9
     go_wp2_with fail
     exact bodyPost_ret (v:=.tuple #[.agg #[.int .i64 kd,.slice a1 n1 c1,.slice a2 n2 c2,.slice a3 n3 c3,.slice a4 n4 c4],.bool true]) (by simp [results,Tryz.results23,go_sem,z0,z1,z2,z3,z4]) rfl (zaa HE)
theorem zfv {P:Program} (w:World) (dT sT ty elem:TypeId) (s g o dLen dCap:Nat) (a:Addr) (sLen sCap:Nat) (cur:Array Value) (t:TypeId) (cs:List Value) (n:Nat)
  (hu:P.underlying dT=some (.slice elem)) (hs:(P.info? elem).map (·.size)=some s) (hg:w.heap[g]? = some (.cells cur t (0,0))) (hn:n=Nat.min sLen dLen) (hcl:cs.length=n*s)
  (hsrc:∀j v,cs[j]? = some v→w.cell? (a.add j)=some v) (hfit:o+cs.length≤cur.size) (h1:∀v∈cs,v.oneCell'=true) :
  (Builtin.copy_ #[dT,sT] ty #[.slice (some ⟨g,o,none⟩) dLen dCap,.slice (some a) sLen sCap]).run P w=.ok (goInt n) (w.setRow g (cur.toList.take o++cs++cur.toList.drop (o+cs.length)).toArray):=by
 have hl:=run_loadCells_list (P:=P) w a cs hsrc
 have hst:=run_storeCells_at P g o t cs 0 cur w hg (by simpa using hfit) h1
 cases hq:P.info? elem with
 | none=>simp [hq]at hs
 | some i=>
  have hi:i.size=s:=by simpa [hq]using hs
  rw [hcl]at hl
  simp [Builtin.copy_,run_underlying hu,Builtin.lenOf,Builtin.firstCells,sizeOf,typeInfo,hq,hi,←hn,hl,hst]
theorem zdN (w:World) (g:Nat) (cs:Array Value):Frm w (w.setRow g cs) [g]:=
 ⟨rfl,rfl,rfl,by simp [World.setRow],fun k _ hk=>setRow_other w g k cs (fun e=>hk (by simp [e]))⟩
theorem zfJ {P:Program} {w:World} {ops:Array Oper} {rest:List Oper} {o:Oper} {a:Act} {Q:Exit→Act→World→Prop} (hgd:o.guard=none) (d s:Operand) (dT sT:TypeId)
  (ho:o.op=.call { callee:=.builtin .copy,args:= #[d,s],argTypes:= #[dT,sT] }) (elem:TypeId) (size:Nat) (hu:P.underlying dT=some (.slice elem)) (hsz:(P.info? elem).map (·.size)=some size)
  (g off dLen dCap:Nat) (ad:Addr) (sLen sCap:Nat) (hd:a.eval d=.slice (some ⟨g,off,none⟩) dLen dCap) (hs:a.eval s=.slice (some ad) sLen sCap)
  (cur:List Value) (t:TypeId) (hg:w.heap[g]? = some (.cells cur.toArray t (0,0))) (cs:List Value) (n:Nat) (hn:n=Nat.min sLen dLen) (hcl:cs.length=n*size)
  (hsrc:∀j v,cs[j]? = some v→w.cell? (ad.add j)=some v) (hfit:off+cs.length≤cur.length) (h1:∀v∈cs,v.oneCell'=true)
  (h:∀w',Hid (w'.heap[g]? = some (.cells (splice cur off cs).toArray t (0,0)))→Frm w w' [g]→wpList P ops Q rest (a.put o.dst (goInt n)) w'):wpList P ops Q (o::rest) a w:=by
 refine wpList_plain hgd fun K hK=> ?_
 have hrun:=zfv (P:=P) w dT sT o.type elem size g off dLen dCap ad sLen sCap cur.toArray t cs n hu hsz hg hn hcl hsrc (by simpa using hfit) h1
 unfold Oper.wp
 simp [execOp,ho,resolve,invoke,builtin,hd,hs,hrun,Result.andThen]
 exact hK _ _ (h _ (show _=_ by simpa [splice]using setRow_heap w g _ _ t _ hg) (zdN _ _ _))
theorem zht {P:Program} {w:World} {ops:Array Oper} {o:Oper} {a:Act} {K:Act→World→Prop} {Q:Exit→Act→World→Prop} {E:Prop} (hgd:o.guard=none) (d s:Operand) (dT sT:TypeId)
  (ho:o.op=.call { callee:=.builtin .copy,args:= #[d,s],argTypes:= #[dT,sT] }) (elem:TypeId) (size:Nat) (hu:P.underlying dT=some (.slice elem)) (hsz:(P.info? elem).map (·.size)=some size)
  (g off dLen dCap:Nat) (ad:Addr) (sLen sCap:Nat) (hd:a.eval d=.slice (some ⟨g,off,none⟩) dLen dCap) (hs:a.eval s=.slice (some ad) sLen sCap)
  (cur:List Value) (t:TypeId) (hg:w.heap[g]? = some (.cells cur.toArray t (0,0))) (cs:List Value) (n:Nat) (hn:n=Nat.min sLen dLen) (hcl:cs.length=n*size)
  (hsrc:∀j v,cs[j]? = some v→w.cell? (ad.add j)=some v) (hfit:off+cs.length≤cur.length) (h1:∀v∈cs,v.oneCell'=true)
  (h:∀w',Hid (w'.heap[g]? = some (.cells (splice cur off cs).toArray t (0,0)))→Frm w w' [g]→K (a.put o.dst (goInt n)) w'):if Region.wanted o (yielded ops a.tmps)=true then Oper.wp P o a w K Q else E:=by
 have hw:Region.wanted o (yielded ops a.tmps)=true:=by simp [Region.wanted,hgd]
 rw [if_pos hw]
 have hrun:=zfv (P:=P) w dT sT o.type elem size g off dLen dCap ad sLen sCap cur.toArray t cs n hu hsz hg hn hcl hsrc (by simpa using hfit) h1
 unfold Oper.wp
 simp [execOp,ho,resolve,invoke,builtin,hd,hs,hrun,Result.andThen]
 exact h _ (show _=_ by simpa [splice]using setRow_heap w g _ _ t _ hg) (zdN _ _ _)
theorem zdL {α:Type} (L cs:List α) (o j:Nat) (h:o+cs.length≤L.length):(splice L o cs)[j]? = if j<o then L[j]? else if j<o+cs.length then cs[j-o]? else L[j]? :=by
 unfold splice
 have hl:(L.take o).length=o:=by simp;omega
 by_cases h1:j<o
 ·rw [if_pos h1,List.getElem?_append_left (by omega),List.getElem?_take,if_pos h1]
 ·rw [if_neg h1,List.getElem?_append_right (by omega),hl]
  by_cases h2:j<o+cs.length
  ·rw [if_pos h2,List.getElem?_append_left (by omega)]
  ·rw [if_neg h2,List.getElem?_append_right (by omega),List.getElem?_drop]
   congr 1
   omega
theorem zhr {α:Type} (L:List α) (R C Y:List α) (a c y:Nat) (hR:R.length=L.length) (hc:C.length=c) (hy:Y.length=y) (h:a+c+y≤L.length)
  (hg:∀j,R[j]? = if j<a then L[j]? else if j<a+c then C[j-a]? else if j<a+c+y then Y[j-(a+c)]? else R[j]?):R.take (a+c+y)=L.take a++(C++Y):=by
 apply List.ext_getElem?
 intro j
 have hl:(L.take a).length=a:=by simp;omega
 rw [List.getElem?_take,List.getElem?_append,hl,List.getElem?_take,List.getElem?_append,hc]
 by_cases h1:j<a
 ·rw [if_pos (by omega),if_pos h1,if_pos h1,hg j,if_pos h1]
 ·rw [if_neg h1]
  by_cases h2:j<a+c
  ·rw [if_pos (by omega),if_pos (by omega),hg j,if_neg h1,if_pos h2]
  ·rw [if_neg (show ¬ (j-a<c) by omega)]
   by_cases h3:j<a+c+y
   ·rw [if_pos h3,hg j,if_neg h1,if_neg h2,if_pos h3];congr 1;omega
   ·rw [if_neg h3,List.getElem?_eq_none (by omega)]
theorem zsf {α:Type} (L C Y:List α) (a c y:Nat) (hc:C.length=c) (hy:Y.length=y) (h:a+c+y≤L.length):(splice (splice L (a+c) Y) a C).take (a+c+y)=L.take a++(C++Y):=by
 have l1:=length_splice L (a+c) Y (by omega)
 refine zhr L _ C Y a c y (by rw [length_splice _ _ _ (by omega),l1]) hc hy h (fun j=> ?_)
 rw [zdL _ _ _ _ (by omega),zdL _ _ _ _ (by omega),hc,hy]
 by_cases h1:j<a
 ·simp only [if_pos h1,if_pos (show j<a+c by omega)]
 ·by_cases h2:j<a+c
  ·simp only [if_neg h1,if_pos h2]
  ·simp only [if_neg h1,if_neg h2]
   split<;>rfl
theorem zqT {α:Type} (L C Y:List α) (a c y:Nat) (hc:C.length=c) (hy:Y.length=y) (h:a+c+y≤L.length):(splice (splice L a C) (a+c) Y).take (a+c+y)=L.take a++(C++Y):=by
 have l1:=length_splice L a C (by omega)
 refine zhr L _ C Y a c y (by rw [length_splice _ _ _ (by omega),l1]) hc hy h (fun j=> ?_)
 rw [zdL _ _ _ _ (by omega),zdL _ _ _ _ (by omega),hc,hy]
 by_cases h1:j<a
 ·simp only [if_pos h1,if_pos (show j<a+c by omega)]
 ·by_cases h2:j<a+c
  ·simp only [if_neg h1,if_pos h2]
  ·simp only [if_neg h1,if_neg h2]
   split<;>rfl
def zgr (w:World) (v:Value) (n:Nat) (ys:List Value) (e:Ending) (w':World):Prop:=
 ∃g cap,e=.returned (.slice (some ⟨g,0,none⟩) (n+1) cap)∧w'.ownsRow 0 144 2 (.slice (some ⟨g,0,none⟩) (n+1) cap) (n+1) ys∧Frm w w' (FB v)∧(v.ownBlock=some g∨w.heap.size≤g)∧g<w'.heap.size
theorem zeU {w:World} {g:Nat} {C:List Value} {T:TypeId} (h:Loc w g C.toArray T) (j:Nat) (u:Value) (hj:C[j]? = some u):w.cell? ((⟨g,0,none⟩:Addr).add j)=some u:=by
 rw [zaX,Nat.zero_add,h.cell j]
 simpa using hj
set_option maxHeartbeats 6400000 in
theorem zqs (w:World) (v:Value) (n vb:Nat) (xs C:List Value) (h:w.ownsRow 0 144 2 v n xs) (hC:C.length=2) (hl:Loc w vb C.toArray 144) (h1:∀u∈C,u.oneCell'=true) (hn:n≤100000) :
  Calls Tryz.prog 152 #[v,.int .i64 n,.slice (some ⟨vb,0,none⟩) 1 1] w (zgr w v n (xs++C)):=by
 obtain⟨i0,hi,hz0,hz1,hz2⟩:=info_parts Tryz.info144
 have hcell:=zeU hl
 have H:=hide h
 have hsh:v=.slice none 0 0∧n=0∨∃g cap,v=.slice (some ⟨g,0,none⟩) n cap∧n≤cap:=by
  rcases h.2 with ⟨rfl,rfl⟩ | ⟨g,cap,cur,rfl,_,_,hc,_⟩
  ·exact .inl ⟨rfl,rfl⟩
  ·exact .inr ⟨g,cap,rfl,hc⟩
 clear h
 rcases hsh with ⟨rfl,rfl⟩ | ⟨g,cap,rfl,hnc⟩
 ·go_enter Tryz.func152,Tryz.ntmps152
  go_wp2_with (at_builtin;refine wpList_append_lies w rfl _ _ 34 rfl 0 144 i0 _ 2 48 Tryz.underlying34 hi hz0 hz1 hz2 rfl (by decide) _ 0 xs rfl (zaa H) ⟨vb,0,none⟩ 1 1 C rfl (by omega) hcell h1 (by omega) (by unfold maxLen;omega) (by omega) (Nat.zero_le _) w.heap.size rfl ?_;intro g cap w' k1 k2 k3 k4)
  go_ret
  exact⟨g,cap,rfl,k1,Frm.ofGrown k2,k3.imp id (fun e=>by omega),k4⟩
 ·go_enter Tryz.func152,Tryz.ntmps152
  go_wp2_with (at_builtin;refine wpList_append_lies w rfl _ _ 34 rfl 0 144 i0 _ 2 48 Tryz.underlying34 hi hz0 hz1 hz2 rfl (by decide) _ n xs rfl (zaa H) ⟨vb,0,none⟩ 1 1 C rfl (by omega) hcell h1 (by omega) (by unfold maxLen;omega) (by omega) (Nat.zero_le _) w.heap.size rfl ?_;intro g' cap' w' k1 k2 k3 k4)
  all_goals (go_ret;exact⟨g',cap',rfl,k1,Frm.ofGrown k2,k3.imp id (fun e=>by omega),k4⟩)
theorem zfi {w:World} {g n cap:Nat} {xs:List Value} (h:w.ownsRow 0 144 2 (.slice (some ⟨g,0,none⟩) n cap) n xs) :
  ∃R:List Value,Loc w g R.toArray 144∧n≤cap∧cap≤maxLen∧R.length=cap*2∧R.take (n*2)=xs:=by
 rcases h.2 with ⟨h,_⟩ | ⟨g',cap',cur,h,_,hg,a,b,c,d⟩
 ·cases h
 ·cases h
  exact⟨cur.toList,by simpa [Loc]using hg,a,b,by simpa using c,d⟩
theorem zfx {w:World} {g n cap:Nat} {R xs:List Value} (h:Loc w g R.toArray 144) (a:n≤cap) (b:cap≤maxLen) (c:R.length=cap*2) (d:R.take (n*2)=xs):w.ownsRow 0 144 2 (.slice (some ⟨g,0,none⟩) n cap) n xs:=by
 refine⟨?_,.inr ⟨g,cap,R.toArray,rfl,Nat.zero_le _,h,a,b,by simpa using c,by simpa using d⟩⟩
 have:n*2≤cap*2:=Nat.mul_le_mul_right _ a
 rw [←d,List.length_take];omega
set_option maxHeartbeats 8000000 in
theorem znv (w:World) (g n cap i vb:Nat) (xs C:List Value) (h:w.ownsRow 0 144 2 (.slice (some ⟨g,0,none⟩) n cap) n xs) (hC:C.length=2) (hl:Loc w vb C.toArray 144) (h1:∀u∈C,u.oneCell'=true) (hx1:∀u∈xs,u.oneCell'=true) (hn:n≤100000) (hi:i<n) (hroom:cap<n+1) :
  Calls Tryz.prog 152 #[.slice (some ⟨g,0,none⟩) n cap,.int .i64 i,.slice (some ⟨vb,0,none⟩) 1 1] w (zgr w (.slice (some ⟨g,0,none⟩) n cap) n (xs.take (i*2)++(C++xs.drop (i*2)))):=by
 obtain⟨i0,hi0,hz0,hzs,hzb⟩:=info_parts Tryz.info144
 have hsz:(Tryz.prog.info? 144).map (·.size)=some 2:=by rw [hi0];simp [hzs]
 have hxl:=h.1
 obtain⟨R0,hg,hnc,hcm,hcs,htk⟩:=zfi h
 have hcells:∀j u,xs[j]? = some u→w.cell? ⟨g,j,none⟩=some u:=fun j u hj=>by
  rw [hg.cell j]
  rw [←htk,List.getElem?_take]at hj
  split at hj
  ·simpa using hj
  ·cases hj
 have hin:i*2≤n*2:=Nat.mul_le_mul_right _ (by omega)
 have hold:(Builtin.firstCells i0.size i (.slice (some ⟨g,0,none⟩) i cap)).run Tryz.prog w.drew=.ok (xs.take (i*2)).toArray w.drew:=by
  rw [hzs]
  exact run_firstCells_some w.drew 2 i ⟨g,0,none⟩ i cap (xs.take (i*2)) (by rw [List.length_take];omega) (fun j v hj=>by
   rw [zaX,Nat.zero_add]
   rw [List.getElem?_take]at hj
   split at hj
   ·exact hcells j v hj
   ·cases hj)
 have hik:i+(n+1-i)=n+1:=by omega
 have hkk:(n:Int)+1-(i:Int)=((n+1-i:Nat):Int):=by omega
 obtain⟨z,hz⟩:∃z:Value,z=.agg #[.slice none 0 0,.slice none 0 0]:=⟨_,rfl⟩
 have hzc:z.cells.size=2:=by rw [hz];rfl
 rw [←hz]at hz0
 obtain⟨G,hG⟩:∃G,G=grownCap w (n+1) cap 144:=⟨_,rfl⟩
 obtain⟨R,hR⟩:∃R:List Value,R=((xs.take (i*2)).toArray++Builtin.zeroCells z.cells (n+1-i)++Builtin.zeroCells z.cells (G-(n+1))).toList:=⟨_,rfl⟩
 have hrz:∀ty,(Builtin.append_ #[34,3] ty #[.slice (some ⟨g,0,none⟩) i cap,.int .i64 ((n:Int)+1-(i:Int))]).run Tryz.prog w=.ok (.slice (some ⟨w.heap.size,0,none⟩) (n+1) G) (w.drew.alloc (.cells R.toArray 144)):=by
  intro ty
  have h:=Lib.run_append_grow_zeros w 34 3 ty 144 i0 z .i64 .i64 Tryz.underlying34 Tryz.underlying3 hi0 hz0 (some ⟨g,0,none⟩) i cap (xs.take (i*2)) hold (n+1-i) (by omega) (by omega) (by omega) (by omega) (by rw [hzb];omega) (by rw [hzb,hik];exact growslice_fits hroom (by omega))
  rw [hik,←hG]at h
  rw [hkk,hR,Array.toArray_toList]
  exact h
 have hGn:n+1≤G:=by rw [hG];exact grownCap_ge w _ _ _
 have hGm:G≤maxLen:=by rw [hG];exact grownCap_le_maxLen w (n+1) cap 144 (by unfold maxLen;omega)
 have hRl:R.length=G*2:=by
  rw [hR]
  simp [Builtin.zeroCells,hzc,List.length_take]
  omega
 have hRt:R.take (i*2)=xs.take (i*2):=by
  rw [hR]
  simp [List.take_append,List.length_take]
  have e:i*2-min (i*2) xs.length=0:=by omega
  rw [e]
  simp [List.take_take]
 have hdl:(xs.drop (i*2)).length=(n-i)*2:=by rw [List.length_drop];omega
 have hGi:¬ (G=i):=by omega
 have hGim:¬ (G=i+1):=by omega
 have hci:¬ (cap=i):=by omega
 have hG63:G≤9223372036854775807:=by unfold maxLen at hGm;omega
 have hW1:((w.alloc (.cells R.toArray 144)).drew).heap[w.heap.size]? = some (.cells R.toArray 144 (0,0)):=heap_alloc_new w _
 have hlv:Loc (w.alloc (.cells R.toArray 144)).drew vb C.toArray 144:=hl.alloc _
 have hgo:Loc (w.alloc (.cells R.toArray 144)).drew g R0.toArray 144:=hg.alloc _
 have hfa:Frm w (w.alloc (.cells R.toArray 144)).drew []:=⟨rfl,rfl,rfl,by simp [World.drew],fun k hk _=>heap_alloc_old w _ hk⟩
 have hglt:=hg.lt
 have hvlt:=hl.lt
 clear hold hkk hik hR hG h hcells
 go_enter Tryz.func152,Tryz.ntmps152
 go_wp2_with (first
  | (at_builtin;refine Lib.wpList_append_run _ rfl _ _ _ _ rfl _ _ rfl rfl _ _ (hrz _) ?_)
  | (refine zfJ rfl _ _ 34 34 rfl 144 2 Tryz.underlying34 hsz w.heap.size (i*2) (n+1-i) (G-i) ⟨vb,0,none⟩ 1 1 ?_ ?_ R 144 ?_ C 1 (by simp only [Nat.min_def];split<;>omega) (by omega) ?_ (by omega) h1 ?_;rfl;rfl;exact hW1;exact zeU hlv;intro w2 hg2 hf2))
 have hg2':=zaa hg2
 have hgo2:=hgo.frm hf2 (by simp;omega)
 have hcells2:∀j u,(xs.drop (i*2))[j]? = some u→w2.cell? ((⟨g,i*2,none⟩:Addr).add j)=some u:=fun j u hj=>by
  rw [zaX,hgo2.cell]
  rw [List.getElem?_drop,←htk,List.getElem?_take]at hj
  split at hj
  ·simpa using hj
  ·cases hj
 have hsl:(splice R (i*2) C).length=G*2:=by rw [length_splice _ _ _ (by omega)];exact hRl
 have hd1:∀u∈xs.drop (i*2),u.oneCell'=true:=fun u hu=>hx1 u (List.mem_of_mem_drop hu)
 have HM:=hide (show n-i=Nat.min (n-i) (n-i) by simp only [Nat.min_def];split<;>omega)
 have hb1:(0:Int)≤(i:Int)+1:=by omega
 have hin':i≤n:=by omega
 have hb3:(i:Int)≤(n:Int):=by omega
 have hgd:w2.drew.heap[w.heap.size]? = some (.cells (splice R (i*2) C).toArray 144 (0,0)):=hg2'
 have hcd:∀j u,(xs.drop (i*2))[j]? = some u→w2.drew.cell? ((⟨g,i*2,none⟩:Addr).add j)=some u:=hcells2
 have hw1:IntKind.i64.wrap ((i:Int)+1)=(i:Int)+1:=by rw [IntKind.wrap_i64];omega
 have htn:((i:Int)+1).toNat=i+1:=by omega
 clear hrz hW1 hlv
 go_region_law (refine zht rfl _ _ 34 34 rfl 144 2 Tryz.underlying34 hsz w.heap.size ((i+1)*2) (n-i) (G-(i+1)) ⟨g,i*2,none⟩ (n-i) (cap-i) (by simp [Act.eval,Act.put]) (by simp [Act.eval,Act.put]) (splice R (i*2) C) 144 hgd (xs.drop (i*2)) (n-i) (zaa HM) hdl hcd (by omega) hd1 ?_;intro w3 hg3 hf3)
 go_wp2
 go_ret
 have hfin:=zqT R C (xs.drop (i*2)) (i*2) 2 ((n-i)*2) hC hdl (by omega)
 rw [hRt]at hfin
 have hg3':Loc w3 w.heap.size (splice (splice R (i*2) C) (i*2+2) (xs.drop (i*2))).toArray 144:=by
  have:=zaa hg3
  rw [show (i+1)*2=i*2+2 by omega]at this
  exact this
 refine⟨w.heap.size,G,rfl,zfx hg3' hGn hGm (by rw [length_splice _ _ _ (by omega)];exact hsl) ?_,?_,.inr (Nat.le_refl _),hg3'.lt⟩
 ·rw [←hfin];congr 1;omega
 ·have f2:Frm w w2 []:=hfa.new hf2 (fun q hq=>by simp at hq;omega)
  have f3:Frm w w3 []:=f2.new (⟨hf3.os,hf3.tape,hf3.output,hf3.size,hf3.block⟩:Frm w2 w3 [w.heap.size]) (fun q hq=>by simp at hq;omega)
  exact f3.mono (fun q hq=>by simp at hq)
theorem zhB {w:World} {g:Nat} {C:List Value} {T:TypeId} (h:Loc w g C.toArray T):w.shape? g=some (T,C.length):=by
 unfold Loc at h
 simp [World.shape?,h]
set_option maxHeartbeats 8000000 in
theorem zmz (w:World) (g n cap i vb:Nat) (xs C:List Value) (h:w.ownsRow 0 144 2 (.slice (some ⟨g,0,none⟩) n cap) n xs) (hC:C.length=2) (hl:Loc w vb C.toArray 144) (h1:∀u∈C,u.oneCell'=true) (hx1:∀u∈xs,u.oneCell'=true) (hn:n≤100000) (hi:i<n) (hroom:n+1≤cap) (hvb:vb≠g) :
  Calls Tryz.prog 152 #[.slice (some ⟨g,0,none⟩) n cap,.int .i64 i,.slice (some ⟨vb,0,none⟩) 1 1] w (zgr w (.slice (some ⟨g,0,none⟩) n cap) n (xs.take (i*2)++(C++xs.drop (i*2)))):=by
 obtain⟨i0,hi0,hz0,hzs,hzb⟩:=info_parts Tryz.info144
 have hsz:(Tryz.prog.info? 144).map (·.size)=some 2:=by rw [hi0];simp [hzs]
 have hsz':∀w,(sizeOf 144).run Tryz.prog w=.ok 2 w:=fun w=>by simp [sizeOf,typeInfo,hi0,hzs]
 have hxl:=h.1
 obtain⟨R0,hg,hnc,hcm,hcs,htk⟩:=zfi h
 have hov:∀lb cb,(callFunc 169 #[.slice (some ⟨vb,0,none⟩) 1 1,.slice (some ⟨g,(i+1)*2,none⟩) lb cb]).run Tryz.prog w=.ok (.value (.bool false)) w:=fun lb cb=>by
  rw [run_callFunc_extern Tryz.func169 (by kernel_rfl) (by kernel_rfl) (by kernel_rfl) (e:=Extern.SlicesOverlaps.overlaps #[34,34] #[4]) (by kernel_rfl),
   Lib.run_overlaps_apart w 34 4 144 Tryz.underlying34 2 hsz' ⟨vb,0,none⟩ ⟨g,(i+1)*2,none⟩ 1 1 lb cb hvb _ _ _ _ (zhB hl) (zhB hg) (by rw [hcs];omega) (hl.frozen 0) (hl.frozen _)]
  rfl
 have hin:i*2≤n*2:=Nat.mul_le_mul_right _ (by omega)
 have hRt:R0.take (i*2)=xs.take (i*2):=by rw [←htk,List.take_take,Nat.min_eq_left (by omega)]
 have hdl:(xs.drop (i*2)).length=(n-i)*2:=by rw [List.length_drop];omega
 have hd1:∀u∈xs.drop (i*2),u.oneCell'=true:=fun u hu=>hx1 u (List.mem_of_mem_drop hu)
 have hcells:∀j u,(xs.drop (i*2))[j]? = some u→w.drew.cell? ((⟨g,i*2,none⟩:Addr).add j)=some u:=fun j u hj=>by
  have:w.cell? ((⟨g,i*2,none⟩:Addr).add j)=some u:=by
   rw [zaX,hg.cell]
   rw [List.getElem?_drop,←htk,List.getElem?_take]at hj
   split at hj
   ·simpa using hj
   ·cases hj
  exact this
 have hgd:w.drew.heap[g]? = some (.cells R0.toArray 144 (0,0)):=hg
 have hfd:Frm w w.drew []:=⟨rfl,rfl,rfl,Nat.le_refl _,fun _ _ _=>rfl⟩
 have hld:Loc w.drew vb C.toArray 144:=hl
 have HM:=hide (show n-i=Nat.min (n+1-i) (n-i) by simp only [Nat.min_def];split<;>omega)
 have HM2:=hide (show 1=Nat.min 1 (n+1-i) by simp only [Nat.min_def];split<;>omega)
 have hw1:IntKind.i64.wrap ((i:Int)+1)=(i:Int)+1:=by rw [IntKind.wrap_i64];omega
 have htn:((i:Int)+1).toNat=i+1:=by omega
 have hb1:(0:Int)≤(i:Int)+1:=by omega
 have hin':i≤n:=by omega
 have hb3:(i:Int)≤(n:Int):=by omega
 have hb2:¬ (cap=i+1):=by omega
 have hb4:¬ (cap=i):=by omega
 have hb5:(i:Int)≤(n:Int)+1:=by omega
 have hc63:cap≤9223372036854775807:=by unfold maxLen at hcm;omega
 have hlen:=length_splice R0 ((i+1)*2) (xs.drop (i*2)) (by omega)
 clear h
 go_enter Tryz.func152,Tryz.ntmps152
 go_wp2_with (simp only [hov])
 go_region_law (refine zht rfl _ _ 34 34 rfl 144 2 Tryz.underlying34 hsz g ((i+1)*2) (n-i) (cap-(i+1)) ⟨g,i*2,none⟩ (n+1-i) (cap-i) (by simp [Act.eval,Act.put]) (by simp [Act.eval,Act.put]) R0 144 hgd (xs.drop (i*2)) (n-i) (zaa HM) hdl hcells (by omega) hd1 ?_;intro w3 hg3 hf3)
 have hg3':=zaa hg3
 have hl3:Loc w3 vb C.toArray 144:=hld.frm hf3 (by simpa using hvb)
 go_wp2_with (refine zfJ rfl _ _ 34 34 rfl 144 2 Tryz.underlying34 hsz g (i*2) (n+1-i) (cap-i) ⟨vb,0,none⟩ 1 1 ?_ ?_ (splice R0 ((i+1)*2) (xs.drop (i*2))) 144 ?_ C 1 (zaa HM2) (by omega) ?_ (by omega) h1 ?_;rfl;rfl;exact hg3';exact zeU hl3;intro w4 hg4 hf4)
 go_ret
 have hfin:=zsf R0 C (xs.drop (i*2)) (i*2) 2 ((n-i)*2) hC hdl (by omega)
 rw [hRt]at hfin
 have hg4':Loc w4 g (splice (splice R0 (i*2+2) (xs.drop (i*2))) (i*2) C).toArray 144:=by
  have:=zaa hg4
  rw [show (i+1)*2=i*2+2 by omega]at this
  exact this
 refine⟨g,cap,rfl,zfx hg4' hroom hcm ?_ ?_,?_,.inl rfl,hg4'.lt⟩
 ·rw [show (i+1)*2=i*2+2 by omega]at hlen
  rw [length_splice _ _ _ (by omega),hlen];exact hcs
 ·rw [←hfin];congr 1;omega
 ·exact ((hfd.mono (fun q hq=>by simp at hq)).trans hf3).trans hf4
theorem zds (size:Nat):∀(Cs:List (List Value)) (i:Nat),(∀k,k<Cs.length→(Cs.getD k []).length=size)→i≤Cs.length→(Cs.take i).flatten=Cs.flatten.take (i*size)∧(Cs.drop i).flatten=Cs.flatten.drop (i*size)
 | Cs,0,_,_=>by simp
 | [],i+1,_,h=>by simp at h
 | C::Cs,i+1,hl,h=>by
  have h0:C.length=size:=by simpa using hl 0 (by simp)
  obtain⟨a,b⟩:=zds size Cs i (fun k hk=>by simpa using hl (k+1) (by simpa using hk)) (by simpa using h)
  have e:(i+1)*size=C.length+i*size:=by rw [h0,Nat.succ_mul];omega
  constructor
  ·rw [List.take_succ_cons,List.flatten_cons,List.flatten_cons,e,List.take_length_add_append,a]
  ·rw [List.drop_succ_cons,List.flatten_cons,e,List.drop_length_add_append,b]
theorem zim {α:Type} (l:List (List α)) (x:List α) (i k:Nat) (hi:i≤l.length):(l.take i++(x::l.drop i)).getD k []=if k<i then l.getD k [] else if k=i then x else l.getD (k-1) []:=by
 have hl:(l.take i).length=i:=by simp;omega
 rw [List.getD_eq_getElem?_getD,List.getElem?_append,hl]
 by_cases h1:k<i
 ·rw [if_pos h1,if_pos h1,List.getElem?_take,if_pos h1,List.getD_eq_getElem?_getD]
 ·rw [if_neg h1,if_neg h1]
  by_cases h2:k=i
  ·subst h2;simp
  ·rw [if_neg h2,show k-i=(k-i-1)+1 by omega,List.getElem?_cons_succ,List.getElem?_drop,List.getD_eq_getElem?_getD]
   congr 2
   omega
theorem zpo {α:Type} (l:List α) (x:α) (i k:Nat) (hi:i≤l.length) (hk:k<(l.take i++(x::l.drop i)).length):(∃h:k<l.length,k<i∧(l.take i++(x::l.drop i))[k]=l[k])∨(k=i∧(l.take i++(x::l.drop i))[k]=x)∨(∃h:k-1<l.length,i<k∧(l.take i++(x::l.drop i))[k]=l[k-1]):=by
 have hl:(l.take i).length=i:=by simp;omega
 have hk':k<l.length+1:=by simp at hk;omega
 by_cases h1:k<i
 ·refine .inl ⟨by omega,h1,?_⟩
  rw [List.getElem_append_left (by omega),List.getElem_take]
 ·by_cases h2:k=i
  ·subst h2
   refine .inr (.inl ⟨rfl,?_⟩)
   rw [List.getElem_append_right (by omega)]
   simp [hl]
  ·refine .inr (.inr ⟨by omega,by omega,?_⟩)
   have:(l.take i++(x::l.drop i))[k]? = l[k-1]? :=by
    rw [List.getElem?_append_right (by omega),hl,show k-i=(k-i-1)+1 by omega,List.getElem?_cons_succ,List.getElem?_drop]
    congr 1
    omega
   rw [List.getElem?_eq_getElem hk,List.getElem?_eq_getElem (by omega)]at this
   exact Option.some.inj this
theorem flat_ins_memA {Fs:List (List Nat)} {G:List Nat} {i q:Nat}:q∈(Fs.take i++(G::Fs.drop i)).flatten↔q∈Fs.flatten∨q∈G:=by
 have e:Fs.flatten=(Fs.take i).flatten++(Fs.drop i).flatten:=by rw [←List.flatten_append,List.take_append_drop]
 rw [List.flatten_append,List.flatten_cons,e]
 simp only [List.mem_append]
 constructor
 ·rintro (h | h | h)
  ·exact .inl (.inl h)
  ·exact .inr h
  ·exact .inl (.inr h)
 ·rintro ((h | h) | h)
  ·exact .inl h
  ·exact .inr (.inr h)
  ·exact .inr (.inl h)
theorem zhs {Fs:List (List Nat)} {G:List Nat} {i:Nat} (h:Fs.flatten.Nodup) (hG:G.Nodup) (hd:∀q∈Fs.flatten,q∉G):(Fs.take i++(G::Fs.drop i)).flatten.Nodup:=by
 have e:Fs.flatten=(Fs.take i).flatten++(Fs.drop i).flatten:=by rw [←List.flatten_append,List.take_append_drop]
 rw [e]at h hd
 have h':=List.nodup_append.1 h
 rw [List.flatten_append,List.flatten_cons]
 refine List.nodup_append.2 ⟨h'.1,List.nodup_append.2 ⟨hG,h'.2.1,fun a ha b hb e=>hd b (List.mem_append_right _ hb) (e ▸ ha)⟩,fun a ha b hb e=> ?_⟩
 rcases List.mem_append.1 hb with hb | hb
 ·exact hd a (List.mem_append_left _ ha) (e ▸ hb)
 ·exact h'.2.2 a ha b hb e
theorem zel {w:World} {C:List Value} {o:List Int×List Int} {F:List Nat} (h:OwAttr w C o F):∀u∈C,u.oneCell'=true:=by
 obtain⟨a,b,rfl,h1,h2,_⟩:=h
 obtain⟨p4,k4,rfl,_,_⟩:=h1.byt.shape
 obtain⟨p5,k5,rfl,_,_⟩:=h2.byt.shape
 intro u hu
 simp at hu
 rcases hu with rfl | rfl<;>rfl
theorem zfo {w:World} {C:List Value} {o:List Int×List Int} {F:List Nat} (h:OwAttr w C o F):C.length=2:=by
 obtain⟨a,b,rfl,_⟩:=h;rfl
theorem zpE (w:World) (v:Value) (l:List (List Int×List Int)) (F:List Nat) (i vb:Nat) (C:List Value) (o:List Int×List Int) (G:List Nat) (h:OwAttrs w v l F) (hN:F.Nodup) (hi:i≤l.length) (hn:l.length≤100000)
  (hl:Loc w vb C.toArray 144) (ho:OwAttr w C o G) (hG:G.Nodup) (hFG:∀q∈F,q∉G) (hvF:vb∉F) :
  Calls Tryz.prog 152 #[v,.int .i64 i,.slice (some ⟨vb,0,none⟩) 1 1] w fun e w'=>∃u F',e=.returned u∧OwAttrs w' u (l.take i++(o::l.drop i)) F'∧F'.Nodup∧(∀q∈F',q∈F∨q∈G∨(w.heap.size≤q∧q<w'.heap.size))∧Frm w w' (FB v):=by
 have hlt:=h.lt
 have hR:=h.rd
 obtain⟨Cs,Fs,e1,e2,e3,e4,rfl⟩:=h
 have hC:∀k,k<Cs.length→(Cs.getD k []).length=2:=fun k hk=>(e3 k (by omega)).1
 have hx1:∀u∈Cs.flatten,u.oneCell'=true:=by
  intro u hu
  obtain⟨D,hD,hu⟩:=List.mem_flatten.1 hu
  obtain⟨k,hk,rfl⟩:=List.getElem_of_mem hD
  have e':Cs.getD k []=Cs[k]:=by simp [List.getD_eq_getElem?_getD,hk]
  have:=(e3 k (by omega)).2
  rw [e']at this
  exact zel this u hu
 have hmain:Calls Tryz.prog 152 #[v,.int .i64 i,.slice (some ⟨vb,0,none⟩) 1 1] w (zgr w v l.length (Cs.flatten.take (i*2)++(C++Cs.flatten.drop (i*2)))):=by
  by_cases hin:i=l.length
  ·have e:i*2=Cs.flatten.length:=by rw [e4.1,hin]
   rw [e,List.take_length,List.drop_length,List.append_nil,hin]
   exact zqs w v l.length vb _ C e4 (zfo ho) hl (zel ho) hn
  ·rcases e4.2 with ⟨rfl,h0⟩ | ⟨g,cap,cur,rfl,_,hg,hnc,_⟩
   ·omega
   ·by_cases hroom:cap<l.length+1
    ·exact znv w g l.length cap i vb _ C e4 (zfo ho) hl (zel ho) hx1 hn (by omega) hroom
    ·exact zmz w g l.length cap i vb _ C e4 (zfo ho) hl (zel ho) hx1 hn (by omega) (by omega) (fun e=>hvF (List.mem_append_left _ (by simp [FB,Value.ownBlock,e])))
 refine hmain.mono ?_
 rintro e w' ⟨g,cap,rfl,k1,k2,k3,k4⟩
 have hFd:∀q∈Fs.flatten,q∉FB v:=fun q hq hv=>(List.nodup_append.1 hN).2.2 q hv q hq rfl
 have hGd:∀q∈G,q∉FB v:=fun q hq hv=>hFG q (List.mem_append_left _ hv) hq
 obtain⟨t1,t2⟩:=zds 2 Cs i hC (by omega)
 refine⟨_,FB (.slice (some ⟨g,0,none⟩) (l.length+1) cap)++(Fs.take i++(G::Fs.drop i)).flatten,rfl,⟨Cs.take i++(C::Cs.drop i),Fs.take i++(G::Fs.drop i),by simp;omega,by simp;omega,fun k hk=> ?_,?_,?_⟩,?_,?_,k2⟩
 ·rw [zim Cs C i k (by omega),zim Fs G i k (by omega)]
  rcases zpo l o i k hi hk with ⟨h,hlt',e⟩ | ⟨rfl,e⟩ | ⟨h,hlt',e⟩
  ·rw [e,if_pos hlt',if_pos hlt']
   exact⟨(e3 k h).1,(e3 k h).2.frm k2 (fun q hq=>hFd q (zau hq))⟩
  ·rw [e,if_neg (Nat.lt_irrefl _),if_pos rfl,if_neg (Nat.lt_irrefl _),if_pos rfl]
   exact⟨zfo ho,ho.frm k2 hGd⟩
  ·rw [e,if_neg (by omega),if_neg (by omega),if_neg (by omega),if_neg (by omega)]
   exact⟨(e3 _ h).1,(e3 _ h).2.frm k2 (fun q hq=>hFd q (zau hq))⟩
 ·have e:(l.take i++(o::l.drop i)).length=l.length+1:=by simp;omega
  rw [e,List.flatten_append,List.flatten_cons,t1,t2]
  exact k1
 ·have e:(l.take i++(o::l.drop i)).length=l.length+1:=by simp;omega
  rfl
 ·refine List.nodup_append.2 ⟨zaE _,zhs (List.nodup_append.1 hN).2.1 hG (fun q hq=>hFG q (List.mem_append_right _ hq)),fun a ha b hb e=> ?_⟩
  have ea:a=g:=by simpa [FB,Value.ownBlock]using ha
  subst e
  subst ea
  rcases flat_ins_memA.1 hb with hb | hb
  ·rcases k3 with k3 | k3
   ·exact hFd a hb (by simp [FB,k3])
   ·have:=hlt a (List.mem_append_right _ hb);omega
  ·rcases k3 with k3 | k3
   ·exact hGd a hb (by simp [FB,k3])
   ·obtain⟨kk,nn,_,a1,a2,rfl⟩:=ho
    have:a<w.heap.size:=by
     rcases List.mem_append.1 hb with hb | hb
     ·exact (a1.rng a hb).2
     ·exact (a2.rng a hb).2
    omega
 ·intro q hq
  rcases List.mem_append.1 hq with hq | hq
  ·have eq:q=g:=by simpa [FB,Value.ownBlock]using hq
   subst eq
   rcases k3 with k3 | k3
   ·exact .inl (List.mem_append_left _ (by simp [FB,k3]))
   ·exact .inr (.inr ⟨k3,k4⟩)
  ·rcases flat_ins_memA.1 hq with hq | hq
   ·exact .inl (List.mem_append_right _ hq)
   ·exact .inr (.inl hq)
theorem zdS {α:Type} (L cs:List α) (o:Nat) (h:o+cs.length≤L.length):(splice L o cs).length=L.length:=by unfold splice;simp;omega
theorem zeF {α:Type} (L cs:List α) (o:Nat) (h:o+cs.length≤L.length):(splice L o cs).take o=L.take o:=by
 unfold splice
 rw [List.take_append_of_le_length (by simp;omega),List.take_take,Nat.min_self]
theorem zkN {α:Type} (L cs:List α) (o:Nat) (h:o+cs.length≤L.length):(splice L o cs).take (o+cs.length)=L.take o++cs:=by
 unfold splice
 rw [←List.append_assoc,List.take_append_of_le_length (by simp;omega),List.take_of_length_le (by simp;omega)]
theorem zno {P:Program} (w:World) (t ty e:TypeId) (i:TypeInfo) (s g n cap:Nat) (ht:P.underlying t=some (.slice e)) (hi:P.info? e=some i) (hs:i.size=s) (cur:List Value) (T:TypeId) (hg:Loc w g cur.toArray T)
  (ad:Addr) (m c:Nat) (cs:List Value) (hcl:cs.length=m*s) (hsrc:∀j v,cs[j]? = some v→w.cell? (ad.add j)=some v) (hroom:n+m≤cap) (hfit:n*s+cs.length≤cur.length) (h1:∀v∈cs,v.oneCell'=true) :
  (Builtin.append_ #[t,t] ty #[.slice (some ⟨g,0,none⟩) n cap,.slice (some ad) m c]).run P w=.ok (.slice (some ⟨g,0,none⟩) (n+m) cap) (w.setRow g (splice cur (n*s) cs).toArray):=by
 subst hs
 have hfc:=run_firstCells_some (P:=P) w i.size m ad m c cs hcl hsrc
 have hst:=run_storeCells_at P g (n*i.size) T cs 0 cur.toArray w hg (by simpa using hfit) h1
 simp [Builtin.append_,run_underlying ht,sizeOf,typeInfo,hi,Builtin.lenOf,hroom,hfc,Addr.add_lit]
 simp at hst
 rw [hst]
 simp [splice]
theorem zgW {P:Program} {w:World} {ops:Array Oper} {o:Oper} {a:Act} {K:Act→World→Prop} {Q:Exit→Act→World→Prop} {E:Prop} (hgd:o.guard=none) (x1 x2:Operand) (t:TypeId)
  (ho:o.op=.call { callee:=.builtin .append,args:= #[x1,x2],argTypes:= #[t,t] }) (e:TypeId) (i:TypeInfo) (s g n cap:Nat) (ht:P.underlying t=some (.slice e)) (hi:P.info? e=some i) (hs:i.size=s) (cur:List Value) (T:TypeId) (hg:Loc w g cur.toArray T)
  (ad:Addr) (m c:Nat) (cs:List Value) (hcl:cs.length=m*s) (hsrc:∀j v,cs[j]? = some v→w.cell? (ad.add j)=some v) (hroom:n+m≤cap) (hfit:n*s+cs.length≤cur.length) (h1:∀v∈cs,v.oneCell'=true)
  (he1:a.eval x1=.slice (some ⟨g,0,none⟩) n cap) (he2:a.eval x2=.slice (some ad) m c)
  (h:∀w',Hid (Loc w' g (splice cur (n*s) cs).toArray T)→Frm w w' [g]→K (a.put o.dst (.slice (some ⟨g,0,none⟩) (n+m) cap)) w'):if Region.wanted o (yielded ops a.tmps)=true then Oper.wp P o a w K Q else E:=by
 have hw:Region.wanted o (yielded ops a.tmps)=true:=by simp [Region.wanted,hgd]
 rw [if_pos hw]
 have hrun:=zno (P:=P) w t o.type e i s g n cap ht hi hs cur T hg ad m c cs hcl hsrc hroom hfit h1
 unfold Oper.wp
 simp [execOp,ho,resolve,invoke,builtin,he1,he2,hrun,Result.andThen]
 exact h _ (show _=_ by simpa [splice]using setRow_heap w g _ _ T _ hg) (zdN _ _ _)
theorem zhz (w:World) (ty:TypeId) (g off c:Nat) (cur:List Value) (T:TypeId) (hg:Loc w g cur.toArray T) (hfit:off+2≤cur.length) :
  ∃w',(Builtin.clear_ #[34] ty #[.slice (some ⟨g,off,none⟩) 1 c]).run Tryz.prog w=.ok (.tuple #[]) w'∧Loc w' g (splice cur off [.slice none 0 0,.slice none 0 0]).toArray T∧Frm w w' [g]:=by
 have hst:=run_storeCells_at Tryz.prog g off T [.slice none 0 0,.slice none 0 0] 0 cur.toArray w hg (by simpa using hfit) (by intro v hv;simp at hv;rw [hv];rfl)
 have hv:∀w,(zeroValue 144).run Tryz.prog w=.ok (.agg #[.slice none 0 0,.slice none 0 0]) w:=fun _=>by kernel_rfl
 have hzc:(Builtin.zeroCells (Value.agg #[.slice none 0 0,.slice none 0 0]).cells 1) = #[.slice none 0 0,.slice none 0 0]:=by kernel_rfl
 refine⟨w.setRow g (splice cur off [.slice none 0 0,.slice none 0 0]).toArray,?_,(show _=_ by simpa [splice]using setRow_heap w g _ _ T _ hg),zdN _ _ _⟩
 simp [Builtin.clear_,run_underlying Tryz.underlying34,hv,hzc]
 simp at hst
 rw [hst]
 simp [splice]
set_option maxHeartbeats 6400000 in
theorem zqK (w:World) (g n cap i:Nat) (R:List Value) (hg:Loc w g R.toArray 144) (hn:n≤100000) (hnc:n≤cap) (hcm:cap≤maxLen) (hR:R.length=cap*2) (h1:∀u∈R.take (n*2),u.oneCell'=true) (hi:i<n) :
  Calls Tryz.prog 141 #[.slice (some ⟨g,0,none⟩) n cap,.int .i64 (i:Int),.int .i64 ((i:Int)+1)] w fun e w'=>e=.returned (.slice (some ⟨g,0,none⟩) (n-1) cap)∧(∃R':List Value,Loc w' g R'.toArray 144∧R'.length=cap*2∧R'.take ((n-1)*2)=R.take (i*2)++(R.take (n*2)).drop ((i+1)*2))∧Frm w w' [g]:=by
 refine zaf ?_
 intro Q HQ
 obtain⟨i0,hi0,hz0,hz1,hz2⟩:=info_parts Tryz.info144
 have hi1:(0:Int)≤(i:Int):=by omega
 have hi2:(i:Int)+1≤(n:Int):=by omega
 have hi3:(n:Int)≤(cap:Int):=by omega
 have hne:((i:Int) == (i:Int)+1)=false:=by simp;omega
 obtain⟨cs,hcs⟩:∃cs,cs=(R.take (n*2)).drop ((i+1)*2):=⟨_,rfl⟩
 have hcl:cs.length=(n-(i+1))*2:=by rw [hcs,List.length_drop,List.length_take,Nat.min_eq_left (by rw [hR];exact Nat.mul_le_mul_right _ hnc),Nat.sub_mul]
 have hc1:∀v∈cs,v.oneCell'=true:=fun v hv=>h1 v (List.mem_of_mem_drop (by rw [←hcs];exact hv))
 have hgd:Loc w.drew g R.toArray 144:=hg.all ((Below.refl _ _).drew)
 have hfit:i*2+cs.length≤R.length:=by rw [hcl,hR];omega
 have hic:i≤cap:=by omega
 have hic1:i+1≤n:=by omega
 have hic2:i+1≤cap:=by omega
 have hi4:(0:Int)≤(i:Int)+1:=by omega
 by_cases hce:cap=i+1
 ·obtain rfl:n=i+1:=by omega
  subst hce
  have hii:i≤i+1:=by omega
  have hk1:(i:Int)≤(i:Int)+1:=by omega
  clear hfit hcl hcs hc1 cs
  go_enter Tryz.func141,Tryz.ntmps141
  go_wp2_with fail
  go_region_law (refine zgW rfl _ _ 34 rfl 144 i0 2 g i (i+1) Tryz.underlying34 hi0 hz1 R 144 hgd ⟨g,0,none⟩ 0 0 [] rfl (fun j v h=>by simp at h) (by omega) (by rw [hR];simp;omega) (fun v h=>by cases h) (by simp [Act.eval,Act.put]) (by simp [Act.eval,Act.put]) ?_;intro w5 H5 f5)
  have HF5:=hide f5
  clear f5
  have hkd:i+1-i=1:=by omega
  have hkcap:¬ i+1=i:=by omega
  have HL5:Loc w5 g (splice R (i*2) []).toArray 144:=zaa H5
  have hsl:(splice R (i*2) []).length=(i+1)*2:=by rw [zdS _ _ _ (by simp [hR];omega),hR]
  obtain⟨w6,hrun6,H6,f6⟩:=zhz w5 0 g (i*2) 1 _ _ HL5 (by rw [hsl];omega)
  have H6:=hide H6
  have HE:=hide (zaa HQ (.returned (.slice (some ⟨g,0,none⟩) i (i+1))) w6 ⟨rfl,⟨splice (splice R (i*2) []) (i*2) [.slice none 0 0,.slice none 0 0],zaa H6,by rw [zdS _ _ _ (by rw [hsl];simp;omega),hsl],by rw [show (i+1-1)*2=i*2 by omega,zeF _ _ _ (by rw [hsl];simp;omega),zeF _ _ _ (by simp [hR];omega),List.drop_of_length_le (by rw [List.length_take];omega),List.append_nil]⟩,((Frm.ofBelow ((Below.refl _ _).drew) _).trans (zaa HF5)).trans f6⟩)
  clear HQ H6 f6 HF5 H5 HL5
  go_wp2_with fail
  exact zaa HE
 ·have hsrc:∀j v,cs[j]? = some v→w.drew.cell? ((⟨g,(i+1)*2,none⟩:Addr).add j)=some v:=fun j v hj=>by
   have hlt:j<cs.length:=(List.getElem?_eq_some_iff.1 hj).1
   rw [zaX,hgd.cell]
   rw [hcs,List.getElem?_drop,List.getElem?_take,if_pos (by rw [hcl]at hlt;omega)]at hj
   simpa using hj
  go_enter Tryz.func141,Tryz.ntmps141
  go_wp2_with fail
  go_region_law (refine zgW rfl _ _ 34 rfl 144 i0 2 g i cap Tryz.underlying34 hi0 hz1 R 144 hgd ⟨g,(i+1)*2,none⟩ (n-(i+1)) (cap-(i+1)) cs hcl hsrc (by omega) hfit hc1 (by simp [Act.eval,Act.put]) (by simp [Act.eval,Act.put, *]) ?_;intro w5 H5 f5)
  have HF5:=hide f5
  clear f5 hsrc
  generalize hk:i+(n-(i+1))=k
  have hkn:k+1=n:=by omega
  have HK:=hide hk
  clear hk
  have hk1:(k:Int)≤(n:Int):=by omega
  have hk0:(0:Int)≤(k:Int):=by omega
  have hkc:k≤n:=by omega
  have hkd:n-k=1:=by omega
  have hkcap:¬ cap=k:=by omega
  have HKN:=hide hkn
  have HL5:Loc w5 g (splice R (i*2) cs).toArray 144:=zaa H5
  have hsl:(splice R (i*2) cs).length=cap*2:=by rw [zdS _ _ _ hfit,hR]
  clear hkn
  obtain⟨w6,hrun6,H6,f6⟩:=zhz w5 0 g (k*2) (cap-k) _ _ HL5 (by rw [hsl];have:=zaa HKN;omega)
  have H6:=hide H6
  have hsub:n-1=k:=by have:=zaa HKN;omega
  have HE:=hide (zaa HQ (.returned (.slice (some ⟨g,0,none⟩) k cap)) w6 ⟨by rw [hsub],⟨splice (splice R (i*2) cs) (k*2) [.slice none 0 0,.slice none 0 0],zaa H6,by rw [zdS _ _ _ (by rw [hsl];simp;have:=zaa HKN;omega),hsl],by rw [hsub,zeF _ _ _ (by rw [hsl];simp;have:=zaa HKN;omega),show k*2=i*2+cs.length by rw [hcl];have:=zaa HKN;omega,zkN _ _ _ hfit,←hcs]⟩,((Frm.ofBelow ((Below.refl _ _).drew) _).trans (zaa HF5)).trans f6⟩)
  clear HQ H6 f6 HF5 H5 HL5
  go_wp2_with fail
  exact zaa HE
theorem OwElems.one {α:Type} {R:World→List Value→α→List Nat→Prop} (hRf:∀{w w':World} {S:List Nat} {C:List Value} {x:α} {G:List Nat},R w C x G→Frm w w' S→(∀g∈G,g∉S)→R w' C x G)
  {w:World} {T:TypeId} {size g cap:Nat} {l:List α} {F:List Nat} (h:OwElems w T size (.slice (some ⟨g,0,none⟩) l.length cap) l (R w) F) (hN:F.Nodup) (k:Nat) (hk:k<l.length) :
  ∃Cs C G,RowJ w T size g l.length cap Cs k C∧R w C l[k] G∧G.Nodup∧(∀q∈G,q∈F)∧g∈F∧g∉G∧
   ∀(w':World) (S:List Nat) (D:List Value) (p':α) (G':List Nat),RowJ w' T size g l.length cap Cs k D→Frm w w' S→(∀q∈F,q∉G→q≠g→q∉S)→R w' D p' G'→G'.Nodup→(∀q∈G',q∈G∨q∉F)→
    ∃F',OwElems w' T size (.slice (some ⟨g,0,none⟩) (l.set k p').length cap) (l.set k p') (R w') F'∧F'.Nodup∧∀q∈F',q∈F∨q∈G':=by
 obtain⟨Cs,Fs,e1,e2,e3,e4,rfl⟩:=h
 have hC:∀i,i<Cs.length→(Cs.getD i []).length=size:=fun i hi=>(e3 i (by omega)).1
 have hgF:g∉Fs.flatten:=fun hq=>(List.nodup_append.1 hN).2.2 g (by simp [FB,Value.ownBlock]) g hq rfl
 have hNf:=(List.nodup_append.1 hN).2.1
 refine⟨Cs,Cs.getD k [],Fs.getD k [],RowJ.start e1 hC k hk e4,(e3 k hk).2,zdf hNf,fun q hq=>List.mem_append_right _ (zau hq),by simp [FB,Value.ownBlock],fun hq=>hgF (zau hq),?_⟩
 intro w' S D p' G' hR f hS hp hGN hG'
 have hgG:g∉G':=fun hq=>by
  rcases hG' g hq with h1 | h1
  ·exact hgF (zau h1)
  ·exact h1 (by simp [FB,Value.ownBlock])
 refine⟨FB (.slice (some ⟨g,0,none⟩) l.length cap)++(Fs.set k G').flatten,⟨Cs.set k D,Fs.set k G',by simp [e1],by simp [e2],fun i hi=> ?_,?_,?_⟩,?_,?_⟩
 ·have hi':i<l.length:=by simpa using hi
  by_cases e:i=k
  ·subst e
   rw [zbD _ _ _ (by omega),zbD _ _ _ (by omega),List.getElem_set_self]
   exact⟨hR.lenD,hp⟩
  ·rw [zbt _ _ _ _ e,zbt _ _ _ _ e,List.getElem_set_ne (Ne.symm e)]
   exact⟨(e3 i hi').1,hRf (e3 i hi').2 f (fun q hq=>hS q (List.mem_append_right _ (zau hq)) (zbQ hNf e q hq) (fun e9=>hgF (by rw [←e9];exact zau hq)))⟩
 ·rw [List.length_set]
  exact hR.row
 ·rw [List.length_set]
 ·refine List.nodup_append.2 ⟨zaE _,zda hNf hGN (fun q hq=>(hG' q hq).imp id (fun h1 h2=>h1 (List.mem_append_right _ h2))),fun a ha b hb e=> ?_⟩
  have ea:a=g:=by simpa [FB,Value.ownBlock]using ha
  subst e
  subst ea
  rcases zcs hb with hb | hb
  ·exact hgF hb
  ·exact hgG hb
 ·intro q hq
  rcases List.mem_append.1 hq with hq | hq
  ·exact .inl (List.mem_append_left _ hq)
  ·rcases zcs hq with hq | hq
   ·exact .inl (List.mem_append_right _ hq)
   ·exact .inr hq
theorem zen {Fs:List (List Nat)} {i q:Nat} (h:q∈(Fs.eraseIdx i).flatten):q∈Fs.flatten:=by
 obtain⟨G,hG,hq⟩:=List.mem_flatten.1 h
 exact List.mem_flatten.2 ⟨G,List.mem_of_mem_eraseIdx hG,hq⟩
theorem zeK:∀{Fs:List (List Nat)} {i:Nat},Fs.flatten.Nodup→(Fs.eraseIdx i).flatten.Nodup
 | [],_,h=>by simp
 | A::r,0,h=>by
  rw [List.flatten_cons]at h
  exact (List.nodup_append.1 h).2.1
 | A::r,i+1,h=>by
  rw [List.flatten_cons]at h
  obtain⟨h1,h2,h3⟩:=List.nodup_append.1 h
  rw [List.eraseIdx_cons_succ,List.flatten_cons]
  exact List.nodup_append.2 ⟨h1,zeK h2,fun a ha b hb=>h3 a ha b (zen hb)⟩
theorem zkr {α:Type} (l:List (List α)) (i k:Nat):(l.eraseIdx i).getD k []=if k<i then l.getD k [] else l.getD (k+1) []:=by
 simp only [List.getD_eq_getElem?_getD,List.getElem?_eraseIdx]
 split<;>rfl
theorem zpA (w:World) (v:Value) (l:List AtV) (F:List Nat) (i:Nat) (h:OwAttrs w v l F) (hN:F.Nodup) (hi:i<l.length) (hn:l.length≤100000) :
  Calls Tryz.prog 141 #[v,.int .i64 (i:Int),.int .i64 ((i:Int)+1)] w fun e w'=>∃u F',e=.returned u∧OwAttrs w' u (l.eraseIdx i) F'∧F'.Nodup∧(∀q∈F',q∈F)∧Frm w w' (FB v):=by
 obtain⟨Cs,Fs,e1,e2,e3,e4,rfl⟩:=h
 obtain⟨g,cap,rfl,_,_⟩:=e4.form (by omega)
 obtain⟨R,hg,hnc,hcm,hR,htk⟩:=zfi e4
 have hC:∀i,i<Cs.length→(Cs.getD i []).length=2:=fun i hi=>(e3 i (by omega)).1
 have hx1:∀u∈Cs.flatten,u.oneCell'=true:=by
  intro u hu
  obtain⟨D,hD,hu⟩:=List.mem_flatten.1 hu
  obtain⟨k,hk,rfl⟩:=List.getElem_of_mem hD
  have e':Cs.getD k []=Cs[k]:=by simp [List.getD_eq_getElem?_getD,hk]
  have:=(e3 k (by omega)).2
  rw [e']at this
  exact zel this u hu
 have hgF:g∉Fs.flatten:=fun hq=>(List.nodup_append.1 hN).2.2 g (by simp [FB,Value.ownBlock]) g hq rfl
 have hNf:=(List.nodup_append.1 hN).2.1
 refine (zqK w g l.length cap i R hg hn hnc hcm hR (by rw [htk];exact hx1) hi).mono ?_
 rintro e w' ⟨rfl,⟨R',hg',hR',htk'⟩,f⟩
 have hll:(l.eraseIdx i).length=l.length-1:=by rw [List.length_eraseIdx,if_pos hi]
 obtain⟨t1,_⟩:=zds 2 Cs i hC (by omega)
 obtain⟨_,t2⟩:=zds 2 Cs (i+1) hC (by omega)
 have hrow:w'.ownsRow 0 144 2 (.slice (some ⟨g,0,none⟩) (l.length-1) cap) (l.length-1) (Cs.eraseIdx i).flatten:=by
  refine zfx hg' (by omega) hcm hR' ?_
  rw [htk',htk,List.eraseIdx_eq_take_drop_succ,List.flatten_append,t1,t2,←htk,List.take_take,Nat.min_eq_left (by omega)]
 refine⟨_,FB (.slice (some ⟨g,0,none⟩) (l.length-1) cap)++(Fs.eraseIdx i).flatten,rfl,⟨Cs.eraseIdx i,Fs.eraseIdx i,?_,?_,fun k hk=> ?_,?_,?_⟩,?_,?_,f⟩
 ·rw [hll,List.length_eraseIdx,if_pos (by omega),e1]
 ·rw [hll,List.length_eraseIdx,if_pos (by omega),e2]
 ·rw [zkr,zkr,List.getElem_eraseIdx]
  have hk':k<l.length-1:=by omega
  by_cases hki:k<i
  ·simp only [hki,if_true,dite_true]
   exact⟨(e3 k (by omega)).1,OwAttr.frm (e3 k (by omega)).2 f (fun q hq e=>by simp at e;subst e;exact hgF (zau hq))⟩
  ·simp only [hki,if_false,dite_false]
   exact⟨(e3 (k+1) (by omega)).1,OwAttr.frm (e3 (k+1) (by omega)).2 f (fun q hq e=>by simp at e;subst e;exact hgF (zau hq))⟩
 ·rw [hll];exact hrow
 ·rfl
 ·refine List.nodup_append.2 ⟨zaE _,zeK hNf,fun a ha b hb e=> ?_⟩
  have ea:a=g:=by simpa [FB,Value.ownBlock]using ha
  subst e
  subst ea
  exact hgF (zen hb)
 ·intro q hq
  rcases List.mem_append.1 hq with hq | hq
  ·exact List.mem_append_left _ hq
  ·exact List.mem_append_right _ (zen hq)
end Go.Proofs.YtlpnibbdmkeklaaGreatDoor
