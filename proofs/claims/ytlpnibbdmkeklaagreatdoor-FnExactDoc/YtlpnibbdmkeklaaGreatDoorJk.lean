/- Own texts joined: FqW, TpI, KeyI, OtI, PjP, FoA, FqA, FoP, PrI, CopyW, InsM. -/
import Derived.Test.YtlpnibbdmkeklaaGreatDoorJa
import Derived.Test.YtlpnibbdmkeklaaGreatDoorJb
import Derived.Test.YtlpnibbdmkeklaaGreatDoorJc
import Derived.Test.YtlpnibbdmkeklaaGreatDoorJd
import Derived.Test.YtlpnibbdmkeklaaGreatDoorJe
import Derived.Test.YtlpnibbdmkeklaaGreatDoorJf
import Derived.Test.YtlpnibbdmkeklaaGreatDoorJg
import Derived.Test.YtlpnibbdmkeklaaGreatDoorJh
import Derived.Test.YtlpnibbdmkeklaaGreatDoorJi
import Derived.Test.YtlpnibbdmkeklaaGreatDoorJj
import Derived.WalkMore
import Derived.Test.YtlpnibbdmkeklaaGreatDoorChecked
import Derived.Deep.RegionLaw
import Derived.Laws.CopyOwn
namespace Go.Proofs.YtlpnibbdmkeklaaGreatDoor
open Go.RowKit Go.Maps
set_option linter.unusedVariables false
set_option maxRecDepth 100000
set_option maxHeartbeats 6400000 in
theorem zly {w0:Xe} {w:Xe} {g mb:Nat} {a:Xc} {c:Nat} {l:List PlV} {F:Xb} (h:FoQ w0 w g mb a c l F) (hF:FrW l) (hG:Glo w) (i o:IdV) (hi:okI i) (k0:Nat) (hk0:posP l i=some k0) :
  Calls Tryz.prog 93 #[.pointer (some ⟨g,0,none⟩),zaq i,zaq o] w fun e w'=>e=.returned (.bool (zaw l l.length i o))∧Below w.heap.size w w':=by
 refine zaf ?_
 intro Q HQ
 have hA:Below w.heap.size w ((w.alloc (.cells #[.int .i64 i.1,.int .i64 i.2] 81)).alloc (.cells #[.int .i64 o.1,.int .i64 o.2] 81)):=zad ((Below.refl _ _).alloc (Nat.le_refl _) _) ((Below.refl _ _).alloc (Nat.le_refl _) _)
 have l0:=(Loc.made w #[.int .i64 i.1,.int .i64 i.2] 81).alloc (.cells #[.int .i64 o.1,.int .i64 o.2] 81)
 have l1:=Loc.made (w.alloc (.cells #[.int .i64 i.1,.int .i64 i.2] 81)) #[.int .i64 o.1,.int .i64 o.2] 81
 simp only [World.size_alloc]at l1
 have h1:=h.keep hA
 have hG1:=hG.keep hA
 obtain⟨cs,lg,hc0,_⟩:=h1.set.loc
 have g0:(((w.alloc (.cells #[.int .i64 i.1,.int .i64 i.2] 81)).alloc (.cells #[.int .i64 o.1,.int .i64 o.2] 81))).cell? ⟨g,0,none⟩=some (.slice a l.length c):=(lg.cell 0).trans hc0
 have hlen:=h1.len
 have LL:=hide (And.intro hA (And.intro l0 (And.intro l1 (And.intro h1 hG1))))
 have HF:=hide hF
 have HI:=hide (And.intro hi hk0)
 have HGG:=hide (show g≠w.heap.size∧g≠w.heap.size+1∧2<=w.heap.size from ⟨by have:=h.set.lt;omega,by have:=h.set.lt;omega,by have h9:=zaJ hG.2.2.1;exact h9⟩)
 clear h hA l0 l1 h1 hG hG1 lg hc0 hF hi hk0
 unfold zaq at *
 go_enter Tryz.func93,Tryz.ntmps93
 go_wp2_with fail
 go_step3
 go_wp2_with fail
 go_step3
 go_wp2_with fail
 obtain⟨hA,l0,l1,h1,hG1⟩:=zaa LL
 clear LL
 generalize ((w.alloc (.cells #[.int .i64 i.1,.int .i64 i.2] 81)).alloc (.cells #[.int .i64 o.1,.int .i64 o.2] 81))=w1 at *
 have LZ:=hide l0
 go_loopw [12] (fun x wr=>∃(j:Nat) (i':IdV),j<=l.length∧x=.int .i64 (j:Int)∧Hid (zaw l (l.length-j) i' o=zaw l l.length i o)∧Hid (okI i')∧(∃k,posP l i'=some k)∧Loc wr w.heap.size #[.int .i64 i'.1,.int .i64 i'.2] 81∧Frm w1 wr [w.heap.size]) (fun x _=>l.length-(intOf x).toNat)
 case atStart=>exact⟨0,i,Nat.zero_le _,rfl,hide rfl,hide (zaa HI).1,⟨k0,(zaa HI).2⟩,l0,Frm.refl _ _⟩
 case round=>
  clear l0 g0
  obtain⟨j,i',hj,rfl,HW,HO,⟨k,hk⟩,l0,hf⟩:=hrel
  have l1r:=l1.frm hf (by simp)
  have hGr:=hG1.frm hf (fun q hq=>by have e:q=w.heap.size:=(by simpa using hq);have:=(zaa HGG).2.2;omega)
  have hr:=h1.frm hf (by simpa using (zaa HGG).1) (fun e=>by have e9:mb=w.heap.size:=(by simpa using e);exact h1.box (q:=mb) (cs:=_) (T:=81) (by rw [e9];exact (show Loc w1 w.heap.size _ 81 from zaa LZ)) (by decide) (by decide) (by simp)) (fun q hq e=>by have e9:q=w.heap.size:=(by simpa using e);exact h1.box (q:=q) (by rw [e9];exact (zaa LZ)) (by decide) (by decide) (by simp [hq])) (fun q hq=>by have e9:q=w.heap.size:=(by simpa using hq);rw [e9];exact Cells.ofL (zaa LZ))
  obtain⟨iN,iR⟩:=i'
  obtain⟨oN,oR⟩:=o
  have b0:wr.cell? ⟨w.heap.size,0,none⟩=some (.int .i64 iN):=l0.cell 0
  have b1:wr.cell? ⟨w.heap.size,1,none⟩=some (.int .i64 iR):=l0.cell 1
  have c0:wr.cell? ⟨w.heap.size+1,0,none⟩=some (.int .i64 oN):=l1r.cell 0
  have c1:wr.cell? ⟨w.heap.size+1,1,none⟩=some (.int .i64 oR):=l1r.cell 1
  obtain⟨y0,y1,y2,y3⟩:=hGr
  have hBr:Below w.heap.size w wr:=hA.trans (hf.below hA.size (fun q hq=>by have e:q=w.heap.size:=(by simpa using hq);omega))
  by_cases hlt:j<l.length
  ·have hlt':(j:Int)<(l.length:Int):=by omega
   obtain⟨n,hn⟩:∃n,l.length-j=n+1:=⟨l.length-j-1,by omega⟩
   have hw:=zaa HW
   rw [hn]at hw
   by_cases e1:iN=oN
   ·by_cases e2:iR=oR
    ·have heq:(iN,iR)=(oN,oR):=by rw [e1,e2]
     have d1:(iN == oN)=true:=by simpa using e1
     have d2:(iR == oR)=true:=by simpa using e2
     have HE:=hide (zaa HQ (.returned (.bool true)) wr ⟨by rw [<-hw,heq,zhJ],hBr⟩)
     clear hw HW HQ HO hr l1r l0 hf hBr h1 l1 hA hk HI HF hn
     clear heq e1 e2
     go_wp2_with fail
     exact zaa HE
    ·have hne:(iN,iR)≠(oN,oR):=fun e=>e2 (Prod.mk.inj e).2
     have d1:(iN == oN)=true:=by simpa using e1
     have d2:(iR == oR)=false:=by simpa using e2
     clear e1 e2
     by_cases z1:iN=0
     ·by_cases z2:iR=0
      ·have htop:(iN,iR)=zak∨(iN,iR)=zag:=.inl (by rw [z1,z2];rfl)
       have w1_:(iN == 0)=true:=by simpa using z1
       have w2_:(iR == 0)=true:=by simpa using z2
       clear z1 z2
       have HE:=hide (zaa HQ (.returned (.bool false)) wr ⟨by rw [<-hw,zbO hne htop],hBr⟩)
       clear hw HW HQ HO hr l1r l0 hf hBr h1 l1 hA hk HI HF hn
       clear hne htop
       go_wp2_with fail
       exact zaa HE
      ·by_cases z3:iR=1
       ·have htop:(iN,iR)=zak∨(iN,iR)=zag:=.inr (by rw [z1,z3];rfl)
        have w1_:(iN == 0)=true:=by simpa using z1
        have w2_:(iR == 0)=false:=by simpa using z2
        have w3_:(iR == 1)=true:=by simpa using z3
        clear z1 z2 z3
        have HE:=hide (zaa HQ (.returned (.bool false)) wr ⟨by rw [<-hw,zbO hne htop],hBr⟩)
        clear hw HW HQ HO hr l1r l0 hf hBr h1 l1 hA hk HI HF hn
        clear hne htop
        go_wp2_with fail
        exact zaa HE
       ·have htop:¬ ((iN,iR)=zak∨(iN,iR)=zag):=fun e=>by rcases e with e | e;(exact z2 (Prod.mk.inj e).2);(exact z3 (Prod.mk.inj e).2)
        have w1_:(iN == 0)=true:=by simpa using z1
        have w2_:(iR == 0)=false:=by simpa using z2
        have w3_:(iR == 1)=false:=by simpa using z3
        clear z1 z2 z3
        have hkl:k<l.length:=(posP_some.1 hk).1
        have h2k:2<=k:=by
         rcases Nat.lt_or_ge k 2 with h9 | h9
         ·exact absurd (((zaa HF).low hk).1 h9) htop
         ·exact h9
        have hup:=hw.symm.trans (zce (n:=n) hne htop hk hkl)
        obtain⟨k',hk'⟩:=(zaa HF).par k l[k] h2k (by simp [hkl])
        have hop:=(hr.ids l[k] (List.getElem_mem hkl)).2
        have HFD:=hide (zcg hr (iN,iR) (zaa HO))
        unfold zaq at HFD
        have HK:=hide (And.intro hk (And.intro h2k (And.intro hup (And.intro hk' (And.intro hop (And.intro hr (And.intro l0 hf)))))))
        clear hw HW HQ HO hr l1r l0 hf hBr hk hne htop h2k hup hk' hop h1 l1 hA
        go_wp2_with fail
        refine (zaa HFD).mono ?_
        rintro e w4 ⟨hn4,hs4,hb4⟩
        obtain⟨hk,h2k,hup,hk',hop,hr,l0,hf⟩:=zaa HK
        obtain⟨gr,rfl,rfl⟩:=hs4 k hk
        have hb:=hb4
        have h4:=hr.keep hb
        obtain⟨k1,ck,n1,cn,t1,ct,a1,ca,Fa,_,_,p2,p3,_⟩:=h4.own hkl
        have l4:=l0.all hb
        have q0:=l4.cell 0
        have q1:=l4.cell 1
        have qf0:=l4.frozen 0
        have qf1:=l4.frozen 1
        have lX:=(l4.set 0 (.int .i64 l[k].parN)).set 1 (.int .i64 l[k].parR)
        have fX:=hf.trans ((Frm.ofBelow hb _).trans ((zab w4 w.heap.size 0 (.int .i64 l[k].parN)).trans (zab _ w.heap.size 1 (.int .i64 l[k].parR))))
        have HE:=hide (And.intro lX (And.intro fX (And.intro hup (And.intro hk' hop))))
        clear hk h2k hup hk' hop hr l0 hf h4 l4 lX fX HK HFD hn4 hs4 hb4 hb
        generalize l[k]=pk at *
        go_wp2_with fail
        go_roundw
        case rel=>exact⟨j+1,(pk.parN,pk.parR),by omega,by go_num,hide (by rw [show l.length-(j+1)=n by omega];exact (zaa HE).2.2.1.symm),hide (zaa HE).2.2.2.2,⟨k',(zaa HE).2.2.2.1⟩,(zaa HE).1,(zaa HE).2.1⟩
        case measure=>simp [intOf];omega
     ·have htop:¬ ((iN,iR)=zak∨(iN,iR)=zag):=fun e=>by rcases e with e | e<;>exact z1 (Prod.mk.inj e).1
      have w1_:(iN == 0)=false:=by simpa using z1
      clear z1
      have hkl:k<l.length:=(posP_some.1 hk).1
      have h2k:2<=k:=by
       rcases Nat.lt_or_ge k 2 with h9 | h9
       ·exact absurd (((zaa HF).low hk).1 h9) htop
       ·exact h9
      have hup:=hw.symm.trans (zce (n:=n) hne htop hk hkl)
      obtain⟨k',hk'⟩:=(zaa HF).par k l[k] h2k (by simp [hkl])
      have hop:=(hr.ids l[k] (List.getElem_mem hkl)).2
      have HFD:=hide (zcg hr (iN,iR) (zaa HO))
      unfold zaq at HFD
      have HK:=hide (And.intro hk (And.intro h2k (And.intro hup (And.intro hk' (And.intro hop (And.intro hr (And.intro l0 hf)))))))
      clear hw HW HQ HO hr l1r l0 hf hBr hk hne htop h2k hup hk' hop h1 l1 hA
      go_wp2_with fail
      refine (zaa HFD).mono ?_
      rintro e w4 ⟨hn4,hs4,hb4⟩
      obtain⟨hk,h2k,hup,hk',hop,hr,l0,hf⟩:=zaa HK
      obtain⟨gr,rfl,rfl⟩:=hs4 k hk
      have hb:=hb4
      have h4:=hr.keep hb
      obtain⟨k1,ck,n1,cn,t1,ct,a1,ca,Fa,_,_,p2,p3,_⟩:=h4.own hkl
      have l4:=l0.all hb
      have q0:=l4.cell 0
      have q1:=l4.cell 1
      have qf0:=l4.frozen 0
      have qf1:=l4.frozen 1
      have lX:=(l4.set 0 (.int .i64 l[k].parN)).set 1 (.int .i64 l[k].parR)
      have fX:=hf.trans ((Frm.ofBelow hb _).trans ((zab w4 w.heap.size 0 (.int .i64 l[k].parN)).trans (zab _ w.heap.size 1 (.int .i64 l[k].parR))))
      have HE:=hide (And.intro lX (And.intro fX (And.intro hup (And.intro hk' hop))))
      clear hk h2k hup hk' hop hr l0 hf h4 l4 lX fX HK HFD hn4 hs4 hb4 hb
      generalize l[k]=pk at *
      go_wp2_with fail
      go_roundw
      case rel=>exact⟨j+1,(pk.parN,pk.parR),by omega,by go_num,hide (by rw [show l.length-(j+1)=n by omega];exact (zaa HE).2.2.1.symm),hide (zaa HE).2.2.2.2,⟨k',(zaa HE).2.2.2.1⟩,(zaa HE).1,(zaa HE).2.1⟩
      case measure=>simp [intOf];omega
   ·have hne:(iN,iR)≠(oN,oR):=fun e=>e1 (Prod.mk.inj e).1
    have d1:(iN == oN)=false:=by simpa using e1
    clear e1
    by_cases z1:iN=0
    ·by_cases z2:iR=0
     ·have htop:(iN,iR)=zak∨(iN,iR)=zag:=.inl (by rw [z1,z2];rfl)
      have w1_:(iN == 0)=true:=by simpa using z1
      have w2_:(iR == 0)=true:=by simpa using z2
      clear z1 z2
      have HE:=hide (zaa HQ (.returned (.bool false)) wr ⟨by rw [<-hw,zbO hne htop],hBr⟩)
      clear hw HW HQ HO hr l1r l0 hf hBr h1 l1 hA hk HI HF hn
      clear hne htop
      go_wp2_with fail
      exact zaa HE
     ·by_cases z3:iR=1
      ·have htop:(iN,iR)=zak∨(iN,iR)=zag:=.inr (by rw [z1,z3];rfl)
       have w1_:(iN == 0)=true:=by simpa using z1
       have w2_:(iR == 0)=false:=by simpa using z2
       have w3_:(iR == 1)=true:=by simpa using z3
       clear z1 z2 z3
       have HE:=hide (zaa HQ (.returned (.bool false)) wr ⟨by rw [<-hw,zbO hne htop],hBr⟩)
       clear hw HW HQ HO hr l1r l0 hf hBr h1 l1 hA hk HI HF hn
       clear hne htop
       go_wp2_with fail
       exact zaa HE
      ·have htop:¬ ((iN,iR)=zak∨(iN,iR)=zag):=fun e=>by rcases e with e | e;(exact z2 (Prod.mk.inj e).2);(exact z3 (Prod.mk.inj e).2)
       have w1_:(iN == 0)=true:=by simpa using z1
       have w2_:(iR == 0)=false:=by simpa using z2
       have w3_:(iR == 1)=false:=by simpa using z3
       clear z1 z2 z3
       have hkl:k<l.length:=(posP_some.1 hk).1
       have h2k:2<=k:=by
        rcases Nat.lt_or_ge k 2 with h9 | h9
        ·exact absurd (((zaa HF).low hk).1 h9) htop
        ·exact h9
       have hup:=hw.symm.trans (zce (n:=n) hne htop hk hkl)
       obtain⟨k',hk'⟩:=(zaa HF).par k l[k] h2k (by simp [hkl])
       have hop:=(hr.ids l[k] (List.getElem_mem hkl)).2
       have HFD:=hide (zcg hr (iN,iR) (zaa HO))
       unfold zaq at HFD
       have HK:=hide (And.intro hk (And.intro h2k (And.intro hup (And.intro hk' (And.intro hop (And.intro hr (And.intro l0 hf)))))))
       clear hw HW HQ HO hr l1r l0 hf hBr hk hne htop h2k hup hk' hop h1 l1 hA
       go_wp2_with fail
       refine (zaa HFD).mono ?_
       rintro e w4 ⟨hn4,hs4,hb4⟩
       obtain⟨hk,h2k,hup,hk',hop,hr,l0,hf⟩:=zaa HK
       obtain⟨gr,rfl,rfl⟩:=hs4 k hk
       have hb:=hb4
       have h4:=hr.keep hb
       obtain⟨k1,ck,n1,cn,t1,ct,a1,ca,Fa,_,_,p2,p3,_⟩:=h4.own hkl
       have l4:=l0.all hb
       have q0:=l4.cell 0
       have q1:=l4.cell 1
       have qf0:=l4.frozen 0
       have qf1:=l4.frozen 1
       have lX:=(l4.set 0 (.int .i64 l[k].parN)).set 1 (.int .i64 l[k].parR)
       have fX:=hf.trans ((Frm.ofBelow hb _).trans ((zab w4 w.heap.size 0 (.int .i64 l[k].parN)).trans (zab _ w.heap.size 1 (.int .i64 l[k].parR))))
       have HE:=hide (And.intro lX (And.intro fX (And.intro hup (And.intro hk' hop))))
       clear hk h2k hup hk' hop hr l0 hf h4 l4 lX fX HK HFD hn4 hs4 hb4 hb
       generalize l[k]=pk at *
       go_wp2_with fail
       go_roundw
       case rel=>exact⟨j+1,(pk.parN,pk.parR),by omega,by go_num,hide (by rw [show l.length-(j+1)=n by omega];exact (zaa HE).2.2.1.symm),hide (zaa HE).2.2.2.2,⟨k',(zaa HE).2.2.2.1⟩,(zaa HE).1,(zaa HE).2.1⟩
       case measure=>simp [intOf];omega
    ·have htop:¬ ((iN,iR)=zak∨(iN,iR)=zag):=fun e=>by rcases e with e | e<;>exact z1 (Prod.mk.inj e).1
     have w1_:(iN == 0)=false:=by simpa using z1
     clear z1
     have hkl:k<l.length:=(posP_some.1 hk).1
     have h2k:2<=k:=by
      rcases Nat.lt_or_ge k 2 with h9 | h9
      ·exact absurd (((zaa HF).low hk).1 h9) htop
      ·exact h9
     have hup:=hw.symm.trans (zce (n:=n) hne htop hk hkl)
     obtain⟨k',hk'⟩:=(zaa HF).par k l[k] h2k (by simp [hkl])
     have hop:=(hr.ids l[k] (List.getElem_mem hkl)).2
     have HFD:=hide (zcg hr (iN,iR) (zaa HO))
     unfold zaq at HFD
     have HK:=hide (And.intro hk (And.intro h2k (And.intro hup (And.intro hk' (And.intro hop (And.intro hr (And.intro l0 hf)))))))
     clear hw HW HQ HO hr l1r l0 hf hBr hk hne htop h2k hup hk' hop h1 l1 hA
     go_wp2_with fail
     refine (zaa HFD).mono ?_
     rintro e w4 ⟨hn4,hs4,hb4⟩
     obtain⟨hk,h2k,hup,hk',hop,hr,l0,hf⟩:=zaa HK
     obtain⟨gr,rfl,rfl⟩:=hs4 k hk
     have hb:=hb4
     have h4:=hr.keep hb
     obtain⟨k1,ck,n1,cn,t1,ct,a1,ca,Fa,_,_,p2,p3,_⟩:=h4.own hkl
     have l4:=l0.all hb
     have q0:=l4.cell 0
     have q1:=l4.cell 1
     have qf0:=l4.frozen 0
     have qf1:=l4.frozen 1
     have lX:=(l4.set 0 (.int .i64 l[k].parN)).set 1 (.int .i64 l[k].parR)
     have fX:=hf.trans ((Frm.ofBelow hb _).trans ((zab w4 w.heap.size 0 (.int .i64 l[k].parN)).trans (zab _ w.heap.size 1 (.int .i64 l[k].parR))))
     have HE:=hide (And.intro lX (And.intro fX (And.intro hup (And.intro hk' hop))))
     clear hk h2k hup hk' hop hr l0 hf h4 l4 lX fX HK HFD hn4 hs4 hb4 hb
     generalize l[k]=pk at *
     go_wp2_with fail
     go_roundw
     case rel=>exact⟨j+1,(pk.parN,pk.parR),by omega,by go_num,hide (by rw [show l.length-(j+1)=n by omega];exact (zaa HE).2.2.1.symm),hide (zaa HE).2.2.2.2,⟨k',(zaa HE).2.2.2.1⟩,(zaa HE).1,(zaa HE).2.1⟩
     case measure=>simp [intOf];omega
  ·have hlt':¬ (j:Int)<(l.length:Int):=by omega
   have hw:=zaa HW
   rw [show l.length-j=0 by omega]at hw
   have HE:=hide (zaa HQ (.returned (.bool false)) wr ⟨by rw [<-hw];rfl,hBr⟩)
   clear hw HW HQ hr l1r l0 hf hBr h1 l1 hA
   go_wp2_with fail
   exact zaa HE
end Go.Proofs.YtlpnibbdmkeklaaGreatDoor
namespace Go.Proofs.YtlpnibbdmkeklaaGreatDoor
open Go.RowKit
set_option linter.unusedVariables false
set_option maxRecDepth 100000
theorem zil {l:List PlV} {i:Nat} {p:PlV} {id:IdV} (hp:l[i]? = some p):topI l i id=(decide (p.id=id) && decide (p.par=(0,0)) && decide (p.key.length=0) && zae l id):=by
 unfold topI
 rw [hp]
theorem zqk:okI zak:=⟨by kernel_rfl,by kernel_rfl⟩
theorem zoA:okI zag:=⟨by kernel_rfl,by kernel_rfl⟩
set_option maxHeartbeats 6400000 in
theorem zmM {w0 w:Xe} {g mb gr:Nat} {c:Nat} {l:List PlV} {F:Xb} (h:FoQ w0 w g mb (some ⟨gr,0,none⟩) c l F) (hB0:Below w0.heap.size w0 w) (hG:Glo w) (h2:2<=l.length) :
  Calls Tryz.prog 59 #[.pointer (some ⟨g,0,none⟩)] w fun e w'=>e=.returned (.bool (topI l 0 zak && topI l 1 zag))∧FoQ w0 w' g mb (some ⟨gr,0,none⟩) c l F∧Frm w w' [g]:=by
 refine zaf ?_
 intro Q HQ
 obtain⟨y0,y1,y2,y3⟩:=hG
 have hA:=(Below.refl w.heap.size w).alloc (Nat.le_refl _) (.cells #[.int .i64 0,.int .i64 0,.int .i64 0,.int .i64 1] 81)
 have ls:=Loc.made w #[.int .i64 0,.int .i64 0,.int .i64 0,.int .i64 1] 81
 have hgl:g<w.heap.size:=h.set.lt
 have HX:=hide (And.intro hA (And.intro ls (And.intro (h.keep hA) (And.intro hB0 hgl))))
 have hgw:=h.geg
 clear hA ls h hB0 hgl
 go_enter Tryz.func59,Tryz.ntmps59
 go_wp2_with fail
 obtain⟨hA,ls,h1,hB0,hgl⟩:=zaa HX
 clear HX y0 y1 y2 y3
 generalize (w.alloc (.cells #[.int .i64 0,.int .i64 0,.int .i64 0,.int .i64 1] 81))=w1 at *
 have hlw:=ls.lt
 have hB01:=hB0.trans (hA.mono hB0.size)
 go_loopw [10] (fun i wr=>∃j:Nat,j<=2∧i=.int .i64 (j:Int)∧(0<j->topI l 0 zak=true)∧(1<j->topI l 1 zag=true)∧FoQ w0 wr g mb (some ⟨gr,0,none⟩) c l F∧Frm w1 wr [g]) (fun i _=>2-(intOf i).toNat)
 case atStart=>exact⟨0,by omega,rfl,fun h=>by omega,fun h=>by omega,h1,Frm.refl _ _⟩
 case round=>
  obtain⟨j,hj,rfl,ht0,ht1,hq,hf⟩:=hrel
  have hb0r:Below w0.heap.size w0 wr:=hB01.trans (hf.below hB01.size (fun q hq=>by simp at hq;omega))
  have lsr:=ls.frm hf (by simp;omega)
  have hswr:=hf.size
  have hgr:g<wr.heap.size:=by omega
  obtain⟨cs,lg,hc0,_⟩:=hq.set.loc
  have g0:wr.cell? ⟨g,0,none⟩=some (.slice (some ⟨gr,0,none⟩) l.length c):=(lg.cell 0).trans hc0
  clear lg hc0
  have hcases:j=0∨j=1∨j=2:=by omega
  rcases hcases with rfl | rfl | rfl
  ·have hJ:0<l.length:=by omega
   obtain⟨k1,ck,n1,cn,t1,ct,a1,ca,-,e0,e1,e2,e3,e4,e5,e6,e7,e8,r1,r2,r3,r4⟩:=hq.own (k:=0) hJ
   have hp:l[0]? = some l[0]:=by simp [hJ]
   generalize l[0]=p at *
   clear r1 r2 r3 r4
   have hti:=zil (id:=zak) hp
   have hzl:((0:Nat):Int)<(l.length:Int):=by omega
   have s0:=lsr.cell 0
   have s1:=lsr.cell 1
   simp at s0 s1
   simp only [Nat.zero_mul,Nat.zero_add]at e0 e1 e2 e3 e4 e5 e6 e7 e8
   have hgrl:gr<wr.heap.size:=zaJ e0
   have li:=(Loc.made wr #[.int .i64 0,.int .i64 0] 81).alloc (.cells #[.int .i64 p.idN,.int .i64 p.idR,.int .i64 p.parN,.int .i64 p.parR,.slice k1 p.key.length ck,.int .i64 p.kind,.slice n1 p.name.length cn,.slice t1 p.text.length ct,.slice a1 p.attrs.length ca] 117)
   have lp:=Loc.made (wr.alloc (.cells #[.int .i64 0,.int .i64 0] 81)) #[.int .i64 p.idN,.int .i64 p.idR,.int .i64 p.parN,.int .i64 p.parR,.slice k1 p.key.length ck,.int .i64 p.kind,.slice n1 p.name.length cn,.slice t1 p.text.length ct,.slice a1 p.attrs.length ca] 117
   have hA3:Below wr.heap.size wr ((wr.alloc (.cells #[.int .i64 0,.int .i64 0] 81)).alloc (.cells #[.int .i64 p.idN,.int .i64 p.idR,.int .i64 p.parN,.int .i64 p.parR,.slice k1 p.key.length ck,.int .i64 p.kind,.slice n1 p.name.length cn,.slice t1 p.text.length ct,.slice a1 p.attrs.length ca] 117)):=((Below.refl _ _).alloc (Nat.le_refl _) _).alloc (by simp) _
   have hq3:=hq.keep hA3
   have hb03:=hb0r.trans (hA3.mono hb0r.size)
   have hf3:=hf.trans (Frm.ofBelow hA3 [g])
   have HT:=hide (zfa hq3 hb03 zak zqk)
   have HB:=hide (And.intro hq3 hf3)
   have HF:=hide (fun (hh:topI l 0 zak=false) W (hq:FoQ w0 W g mb (some ⟨gr,0,none⟩) c l F) (hf:Frm w1 W [g])=>(show Q (.returned (.bool false)) W by
    have:=zaa HQ (.returned (.bool (topI l 0 zak && topI l 1 zag))) W ⟨rfl,hq,(Frm.ofBelow hA [g]).trans hf⟩
    rw [hh,Bool.false_and]at this
    exact this))
   have HTI:=hide hti
   have HTT:=hide (And.intro ht0 ht1)
   clear li lp hA3 hq3 hb03 hf3 hq hf hp lsr hti ht0 ht1 h1 ls hb0r hB0 hB01 hA
   generalize hnK:p.key.length=nK at *
   clear hnK
   by_cases q1:p.idN=0
   case neg=>
    have d1:(p.idN == 0)=false:=by simpa using q1
    have HE:=hide (zaa HF (by rw [zaa HTI,decide_eq_false (show ¬ p.id=zak from fun e=>q1 (Prod.mk.inj e).1)];rfl) _ (zaa HB).1 (zaa HB).2)
    clear q1
    go_wp2_with fail
    exact zaa HE
   by_cases q2:p.idR=0
   case neg=>
    have d1:(p.idN == 0)=true:=by simpa using q1
    have d2:(p.idR == 0)=false:=by simpa using q2
    have HE:=hide (zaa HF (by rw [zaa HTI,decide_eq_false (show ¬ p.id=zak from fun e=>q2 (Prod.mk.inj e).2)];rfl) _ (zaa HB).1 (zaa HB).2)
    clear q1 q2
    go_wp2_with fail
    exact zaa HE
   have d1:(p.idN == 0)=true:=by simpa using q1
   have d2:(p.idR == 0)=true:=by simpa using q2
   have hid:decide (p.id=zak)=true:=decide_eq_true (show (p.idN,p.idR)=_ by rw [q1,q2];rfl)
   rw [hid,Bool.true_and]at HTI
   clear hid q1 q2
   by_cases q3:p.parN=0
   case neg=>
    have d3:(p.parN == 0)=false:=by simpa using q3
    have HE:=hide (zaa HF (by rw [zaa HTI,decide_eq_false (show ¬ p.par=(0,0) from fun e=>q3 (Prod.mk.inj e).1)];rfl) _ (zaa HB).1 (zaa HB).2)
    clear q3
    go_wp2_with fail
    exact zaa HE
   by_cases q4:p.parR=0
   case neg=>
    have d3:(p.parN == 0)=true:=by simpa using q3
    have d4:(p.parR == 0)=false:=by simpa using q4
    have HE:=hide (zaa HF (by rw [zaa HTI,decide_eq_false (show ¬ p.par=(0,0) from fun e=>q4 (Prod.mk.inj e).2)];rfl) _ (zaa HB).1 (zaa HB).2)
    clear q3 q4
    go_wp2_with fail
    exact zaa HE
   have d3:(p.parN == 0)=true:=by simpa using q3
   have d4:(p.parR == 0)=true:=by simpa using q4
   have hid:decide (p.par=(0,0))=true:=decide_eq_true (show (p.parN,p.parR)=_ by rw [q3,q4])
   rw [hid,Bool.true_and]at HTI
   clear hid q3 q4
   by_cases q5:nK=0
   case neg=>
    have d5:0<nK:=by omega
    have HE:=hide (zaa HF (by rw [zaa HTI,decide_eq_false q5];rfl) _ (zaa HB).1 (zaa HB).2)
    clear q5
    go_wp2_with fail
    exact zaa HE
   subst q5
   rw [show decide ((0:Nat)=0)=true from rfl,Bool.true_and]at HTI
   unfold zaq at HT
   go_wp2_with fail
   refine (zaa HT).mono ?_
   rintro e W ⟨rfl,hqW,hfW⟩
   have hfw:=(zaa HB).2.trans hfW
   have hti:=zaa HTI
   rw [<-hti]
   clear HT HB
   cases htv:topI l 0 zak with
   | false=>
    have HE:=hide (zaa HF htv W hqW hfw)
    clear hqW hfw hfW hti htv
    go_wp2_with fail
    exact zaa HE
   | true=>
    have HE:=hide (And.intro hqW hfw)
    have HV:=hide htv
    clear hqW hfw hfW hti htv
    go_wp2_with fail
    go_roundw
    case rel=>exact⟨0+1,by omega,by go_num,fun _=>zaa HV,fun h=>by omega,(zaa HE).1,(zaa HE).2⟩
    case measure=>simp [intOf]
  ·have hJ:1<l.length:=by omega
   obtain⟨k1,ck,n1,cn,t1,ct,a1,ca,-,e0,e1,e2,e3,e4,e5,e6,e7,e8,r1,r2,r3,r4⟩:=hq.own (k:=1) hJ
   have hp:l[1]? = some l[1]:=by simp [hJ]
   generalize l[1]=p at *
   clear r1 r2 r3 r4
   have hti:=zil (id:=zag) hp
   have hzl:((1:Nat):Int)<(l.length:Int):=by omega
   have s0:=lsr.cell 2
   have s1:=lsr.cell 3
   simp at s0 s1
   simp only [Nat.one_mul]at e0 e1 e2 e3 e4 e5 e6 e7 e8
   have hgrl:gr<wr.heap.size:=zaJ e0
   have li:=(Loc.made wr #[.int .i64 0,.int .i64 1] 81).alloc (.cells #[.int .i64 p.idN,.int .i64 p.idR,.int .i64 p.parN,.int .i64 p.parR,.slice k1 p.key.length ck,.int .i64 p.kind,.slice n1 p.name.length cn,.slice t1 p.text.length ct,.slice a1 p.attrs.length ca] 117)
   have lp:=Loc.made (wr.alloc (.cells #[.int .i64 0,.int .i64 1] 81)) #[.int .i64 p.idN,.int .i64 p.idR,.int .i64 p.parN,.int .i64 p.parR,.slice k1 p.key.length ck,.int .i64 p.kind,.slice n1 p.name.length cn,.slice t1 p.text.length ct,.slice a1 p.attrs.length ca] 117
   have hA3:Below wr.heap.size wr ((wr.alloc (.cells #[.int .i64 0,.int .i64 1] 81)).alloc (.cells #[.int .i64 p.idN,.int .i64 p.idR,.int .i64 p.parN,.int .i64 p.parR,.slice k1 p.key.length ck,.int .i64 p.kind,.slice n1 p.name.length cn,.slice t1 p.text.length ct,.slice a1 p.attrs.length ca] 117)):=((Below.refl _ _).alloc (Nat.le_refl _) _).alloc (by simp) _
   have hq3:=hq.keep hA3
   have hb03:=hb0r.trans (hA3.mono hb0r.size)
   have hf3:=hf.trans (Frm.ofBelow hA3 [g])
   have HT:=hide (zfa hq3 hb03 zag zoA)
   have HB:=hide (And.intro hq3 hf3)
   have HF:=hide (fun (hh:topI l 1 zag=false) W (hq:FoQ w0 W g mb (some ⟨gr,0,none⟩) c l F) (hf:Frm w1 W [g])=>(show Q (.returned (.bool false)) W by
    have:=zaa HQ (.returned (.bool (topI l 0 zak && topI l 1 zag))) W ⟨rfl,hq,(Frm.ofBelow hA [g]).trans hf⟩
    rw [hh,Bool.and_false]at this
    exact this))
   have HTI:=hide hti
   have HTT:=hide (And.intro ht0 ht1)
   clear li lp hA3 hq3 hb03 hf3 hq hf hp lsr hti ht0 ht1 h1 ls hb0r hB0 hB01 hA
   generalize hnK:p.key.length=nK at *
   clear hnK
   by_cases q1:p.idN=0
   case neg=>
    have d1:(p.idN == 0)=false:=by simpa using q1
    have HE:=hide (zaa HF (by rw [zaa HTI,decide_eq_false (show ¬ p.id=zag from fun e=>q1 (Prod.mk.inj e).1)];rfl) _ (zaa HB).1 (zaa HB).2)
    clear q1
    go_wp2_with fail
    exact zaa HE
   by_cases q2:p.idR=1
   case neg=>
    have d1:(p.idN == 0)=true:=by simpa using q1
    have d2:(p.idR == 1)=false:=by simpa using q2
    have HE:=hide (zaa HF (by rw [zaa HTI,decide_eq_false (show ¬ p.id=zag from fun e=>q2 (Prod.mk.inj e).2)];rfl) _ (zaa HB).1 (zaa HB).2)
    clear q1 q2
    go_wp2_with fail
    exact zaa HE
   have d1:(p.idN == 0)=true:=by simpa using q1
   have d2:(p.idR == 1)=true:=by simpa using q2
   have hid:decide (p.id=zag)=true:=decide_eq_true (show (p.idN,p.idR)=_ by rw [q1,q2];rfl)
   rw [hid,Bool.true_and]at HTI
   clear hid q1 q2
   by_cases q3:p.parN=0
   case neg=>
    have d3:(p.parN == 0)=false:=by simpa using q3
    have HE:=hide (zaa HF (by rw [zaa HTI,decide_eq_false (show ¬ p.par=(0,0) from fun e=>q3 (Prod.mk.inj e).1)];rfl) _ (zaa HB).1 (zaa HB).2)
    clear q3
    go_wp2_with fail
    exact zaa HE
   by_cases q4:p.parR=0
   case neg=>
    have d3:(p.parN == 0)=true:=by simpa using q3
    have d4:(p.parR == 0)=false:=by simpa using q4
    have HE:=hide (zaa HF (by rw [zaa HTI,decide_eq_false (show ¬ p.par=(0,0) from fun e=>q4 (Prod.mk.inj e).2)];rfl) _ (zaa HB).1 (zaa HB).2)
    clear q3 q4
    go_wp2_with fail
    exact zaa HE
   have d3:(p.parN == 0)=true:=by simpa using q3
   have d4:(p.parR == 0)=true:=by simpa using q4
   have hid:decide (p.par=(0,0))=true:=decide_eq_true (show (p.parN,p.parR)=_ by rw [q3,q4])
   rw [hid,Bool.true_and]at HTI
   clear hid q3 q4
   by_cases q5:nK=0
   case neg=>
    have d5:0<nK:=by omega
    have HE:=hide (zaa HF (by rw [zaa HTI,decide_eq_false q5];rfl) _ (zaa HB).1 (zaa HB).2)
    clear q5
    go_wp2_with fail
    exact zaa HE
   subst q5
   rw [show decide ((0:Nat)=0)=true from rfl,Bool.true_and]at HTI
   unfold zaq at HT
   go_wp2_with fail
   refine (zaa HT).mono ?_
   rintro e W ⟨rfl,hqW,hfW⟩
   have hfw:=(zaa HB).2.trans hfW
   have hti:=zaa HTI
   rw [<-hti]
   clear HT HB
   cases htv:topI l 1 zag with
   | false=>
    have HE:=hide (zaa HF htv W hqW hfw)
    clear hqW hfw hfW hti htv
    go_wp2_with fail
    exact zaa HE
   | true=>
    have HE:=hide (And.intro hqW hfw)
    have HV:=hide htv
    clear hqW hfw hfW hti htv
    go_wp2_with fail
    go_roundw
    case rel=>exact⟨1+1,by omega,by go_num,fun _=>(zaa HTT).1 (by omega),fun _=>zaa HV,(zaa HE).1,(zaa HE).2⟩
    case measure=>simp [intOf]
  ·have HE:=hide (zaa HQ (.returned (.bool (topI l 0 zak && topI l 1 zag))) wr ⟨rfl,hq,(Frm.ofBelow hA [g]).trans hf⟩)
   rw [ht0 (by omega),ht1 (by omega)]at HE
   clear hq hf h1 ls lsr hb0r hB0 hB01 hA g0
   go_wp2_with fail
   exact zaa HE
theorem zmJ (w:Xe) (a:Xc) (n cap:Nat) (h:n<1∨12<n) :
  Calls Tryz.prog 92 #[.slice a n cap] w fun e w'=>e=.returned (.bool false)∧w'=w:=by
 by_cases h1:n<1
 ·have h1':(n:Int)<1:=by omega
  go_enter Tryz.func92,Tryz.ntmps92
  go_wp2
  go_ret
  exact⟨rfl,rfl⟩
 ·have h1':decide ((n:Int)<1)=false:=by simp;omega
  have h2:(12:Int)<(n:Int):=by omega
  go_enter Tryz.func92,Tryz.ntmps92
  go_wp2
  go_ret
  exact⟨rfl,rfl⟩
open Classical in
set_option maxHeartbeats 1600000 in
theorem zqE (w:Xe) (b off cap:Nat) (l:Xa) (hok:okZ l) (h1:1<=l.length) (h8:l.length<=12)
  (hc:∀i,i<l.length->w.cell? ⟨b,off+i,none⟩=some (.int .i64 (l.getD i 0))) :
  Calls Tryz.prog 92 #[.slice (some ⟨b,off,none⟩) l.length cap] w fun e w'=>e=.returned (.bool (decide (zbJ l)))∧w'=w:=by
 have d1:decide ((l.length:Int)<1)=false:=by simp;omega
 have d2:decide ((12:Int)<(l.length:Int))=false:=by simp;omega
 obtain⟨n,hn⟩:∃n,l.length=n+1:=⟨l.length-1,by omega⟩
 obtain⟨z,hz⟩:∃z,z=l.getD n 0:=⟨_,rfl⟩
 have hcz:w.cell? ⟨b,off+n,none⟩=some (.int .i64 z):=by rw [hz];exact hc _ (by omega)
 have HZ:=hide hz
 have HC:=hide hc
 have HN:=hide hn
 have e1:(l.length:Int)-1=(n:Int):=by omega
 have hlt0:n<l.length:=by omega
 clear hc hz hn
 go_enter Tryz.func92,Tryz.ntmps92
 go_wp2
 go_loop [15] (fun i=>∃k:Nat,k<=l.length∧i=.int .i64 k∧zcD zcC l k) (fun i=>l.length-(intOf i).toNat)
 case atStart=>exact⟨0,Nat.zero_le _,rfl,fun i hi=>by omega⟩
 case round=>
  obtain⟨k,hk,rfl,ha⟩:=hrel
  have HA:=hide ha
  clear ha
  by_cases hlt:k<l.length
  ·obtain⟨x,hx⟩:∃x,x=l.getD k 0:=⟨_,rfl⟩
   have hcx:w.cell? ⟨b,off+k,none⟩=some (.int .i64 x):=by rw [hx];exact zaa HC _ hlt
   have HX:=hide hx
   have hlt':(k:Int)<(l.length:Int):=by omega
   clear hx hcz
   by_cases hn:zcC k x
   ·have HN:=hide hn
    have q1:decide (x<0)=false:=by unfold zcC at hn;simp;omega
    have q2:decide (999<x)=false:=by unfold zcC at hn;simp;omega
    clear hn
    go_wp2
    go_round
    case rel=>exact⟨k+1,by omega,by go_num,zcj (zaa HA) (by rw [<-zaa HX];exact zaa HN)⟩
    case measure=>simp [intOf];omega
   ·have HF:=hide (show decide (zbJ l)=false by
     simp only [decide_eq_false_iff_not]
     rintro⟨_,_,_,h⟩
     exact hn (by rw [zaa HX];exact h k hlt))
    have hcase:decide (x<0)=true∨(decide (x<0)=false∧decide (999<x)=true):=by
     unfold zcC at hn;simp;omega
    clear hn
    rcases hcase with q1 | ⟨q1,q2⟩
    all_goals
     go_wp2
     go_ret
     exact⟨by rw [zaa HF];rfl,rfl⟩
  ·have e:k=l.length:=by omega
   subst e
   by_cases hz0:z=0
   ·have HF:=hide (show decide (zbJ l)=false by
     simp only [decide_eq_false_iff_not]
     rintro⟨_,_,h,_⟩
     rw [zaa HN,Nat.add_sub_cancel,<-zaa HZ]at h
     exact h hz0)
    have dz:(z != 0)=false:=by simp [hz0]
    clear hz0
    go_wp2
    go_ret
    exact⟨by rw [zaa HF];rfl,rfl⟩
   ·have HF:=hide (show decide (zbJ l)=true by
     simp only [decide_eq_true_eq]
     exact⟨h1,h8,by rw [zaa HN,Nat.add_sub_cancel,<-zaa HZ];exact hz0,zaa HA⟩)
    have dz:(z != 0)=true:=by simp [hz0]
    clear hz0
    go_wp2
    go_ret
    exact⟨by rw [zaa HF];rfl,rfl⟩
open Classical in
theorem zqy (w:Xe) (v:Xf) (l:Xa) (h:Ints w v l) :
  Calls Tryz.prog 92 #[v] w fun e w'=>e=.returned (.bool (decide (zbJ l)))∧w'=w:=by
 by_cases hl:l.length<1∨12<l.length
 ·obtain⟨a,cap,rfl,_⟩:=h.shape
  have hd:decide (zbJ l)=false:=by simp only [decide_eq_false_iff_not];rintro⟨_,_,_⟩;omega
  rw [hd]
  exact zmJ w a _ cap hl
 ·obtain⟨hok,hm,⟨rfl,rfl⟩ | ⟨x,cap,rfl,hc,rfl⟩ | ⟨b,off,cap,rfl,_,_,_,_,h5⟩⟩:=h
  ·simp at hl
  ·simp at hl
  ·exact zqE w b off cap l hok (by omega) (by omega) h5
theorem zkw (w:Xe) (v:Xf) (l:Xa) (h:Ints w v l):Calls Tryz.prog 92 #[v] w fun e w'=>e=.returned (.bool (keyB l))∧w'=w:=by
 refine (zqy w v l h).mono ?_
 rintro e w' ⟨rfl,h⟩
 refine⟨?_,h⟩
 by_cases hn:zbJ l
 ·rw [(zeo l).2 hn];simp [hn]
 ·rw [Bool.eq_false_iff.2 (fun k=>hn ((zeo l).1 k))];simp [hn]
theorem zhl {l:List PlV} {f:Nat->PlV->Bool} {i:Nat} {p:PlV} (hp:l[i]? = some p) (h:f i p=false):zbl l f=false:=by
 rw [Bool.eq_false_iff]
 intro h'
 rw [(zbj l f).1 h' i p hp]at h
 cases h
theorem zhr {l:List PlV} {i:Nat} {p:PlV} (h:2<=i):zbu l i p=(keyB p.key && zae l p.par):=by unfold zbu;rw [decide_eq_false (by omega),Bool.false_or]
theorem zqc {l:List PlV} {i:Nat} {p:PlV} (h:2<=i):zbx l i p = !zaw l l.length p.par p.id:=by unfold zbx;rw [decide_eq_false (by omega),Bool.false_or]
theorem zkn {l:List PlV} {i:Nat} {p:PlV} (h:i<2):zbu l i p=true:=by unfold zbu;rw [decide_eq_true h,Bool.true_or]
theorem zko {l:List PlV} {i:Nat} {p:PlV} (h:i<2):zbx l i p=true:=by unfold zbx;rw [decide_eq_true h,Bool.true_or]
set_option maxHeartbeats 6400000 in
theorem zjS {w0 w:Xe} {g mb gr:Nat} {c:Nat} {l:List PlV} {F:Xb} (h:FoQ w0 w g mb (some ⟨gr,0,none⟩) c l F) (hB0:Below w0.heap.size w0 w) (hG:Glo w) (h2:2<=l.length) (hgw2:2<=g) (hr:∀p,l[0]? = some p->p.id=zak) (ht:∀p,l[1]? = some p->p.id=zag) (hu:(l.map PlV.id).Nodup) :
  Calls Tryz.prog 60 #[.pointer (some ⟨g,0,none⟩)] w fun e w'=>e=.returned (.bool (zbl l (zbu l) && zbl l (zbx l)))∧FoQ w0 w' g mb (some ⟨gr,0,none⟩) c l F∧Frm w w' [g]:=by
 refine zaf ?_
 intro Q HQ
 obtain⟨cs,lg,hc0,_⟩:=h.set.loc
 have g0:w.cell? ⟨g,0,none⟩=some (.slice (some ⟨gr,0,none⟩) l.length c):=(lg.cell 0).trans hc0
 have hcap:l.length<=c:=by
  obtain⟨_,_,_,_,_,hrow,_⟩:=h.row
  rcases hrow.2 with ⟨e,_⟩ | ⟨g',cap',cur,e,_,_,hn,_⟩
  ·cases e
  ·injection e with _ _ e3;omega
 have hgw:=h.geg
 have hgl:g<w.heap.size:=h.set.lt
 have z2:(2:Int)<=(l.length:Int):=by omega
 have zc:(l.length:Int)<=(c:Int):=by omega
 have HX:=hide (And.intro h (And.intro hB0 hG))
 clear h hB0 hG lg hc0
 by_cases hc2:c=2
 ·have hl2:l.length-2=0:=by omega
  have HE:=hide (zaa HQ (.returned (.bool (zbl l (zbu l) && zbl l (zbx l)))) w ⟨rfl,(zaa HX).1,Frm.refl _ _⟩)
  rw [(zbj l _).2 (fun i p hp=>zkn (by have:=(List.getElem?_eq_some_iff.1 hp).1;omega)),(zbj l _).2 (fun i p hp=>zko (by have:=(List.getElem?_eq_some_iff.1 hp).1;omega))]at HE
  subst hc2
  go_enter Tryz.func60,Tryz.ntmps60
  go_wp2_with fail
  refine wp_loop_rounds 1 ?_
  rw [rounds_succ]
  go_wp2_with fail
  refine wp_loop_rounds 1 ?_
  rw [rounds_succ]
  go_wp2_with fail
  exact zaa HE
 obtain⟨m,hm⟩:∃m,l.length=m+2:=⟨l.length-2,by omega⟩
 have hm2:l.length-2=m:=by omega
 have HMM:=hide hm
 have hmb:m<=100000:=by have:=(zaa HX).1.len;omega
 clear hm
 go_enter Tryz.func60,Tryz.ntmps60
 go_wp2_with fail
 obtain⟨h,hB0,hG⟩:=zaa HX
 clear g0
 try rw [hm2]
 clear hm2
 go_loopw [15] (fun i wr=>∃j:Nat,j<=m∧i=.int .i64 (j:Int)∧(∀i p,i<j+2->l[i]? = some p->zbu l i p=true)∧FoQ w0 wr g mb (some ⟨gr,0,none⟩) c l F∧Frm w wr [g]) (fun i _=>m-(intOf i).toNat)
 case atStart=>exact⟨0,Nat.zero_le _,rfl,fun i p hi hp=>zkn (by omega),h,Frm.refl _ _⟩
 case round=>
  obtain⟨j,hj,rfl,hok,hq,hf⟩:=hrel
  have hm:=zaa HMM
  have hb0r:Below w0.heap.size w0 wr:=hB0.trans (hf.below hB0.size (fun q hq=>by simp at hq;omega))
  have hswr:=hf.size
  by_cases hlt:j<m
  ·have hj2:j+2<l.length:=by omega
   obtain⟨k1,ck,n1,cn,t1,ct,a1,ca,-,e0,e1,e2,e3,e4,e5,e6,e7,e8,r1,r2,r3,r4⟩:=hq.own hj2
   rw [show (j+2)*9=18+j*9 by omega]at e0 e1 e2 e3 e4 e5 e6 e7 e8
   have hp:l[j+2]? = some l[j+2]:=by simp [hj2]
   have hids:=hq.ids l[j+2] (List.getElem_mem _)
   generalize l[j+2]=p at *
   have hlt':(j:Int)<(m:Int):=by omega
   have hj0:(0:Int)<=(j:Int):=by omega
   have hgrl:gr<wr.heap.size:=zaJ e0
   have lp:=Loc.made wr #[.int .i64 p.idN,.int .i64 p.idR,.int .i64 p.parN,.int .i64 p.parR,.slice k1 p.key.length ck,.int .i64 p.kind,.slice n1 p.name.length cn,.slice t1 p.text.length ct,.slice a1 p.attrs.length ca] 117
   have hA3:Below wr.heap.size wr (wr.alloc (.cells #[.int .i64 p.idN,.int .i64 p.idR,.int .i64 p.parN,.int .i64 p.parR,.slice k1 p.key.length ck,.int .i64 p.kind,.slice n1 p.name.length cn,.slice t1 p.text.length ct,.slice a1 p.attrs.length ca] 117)):=(Below.refl _ _).alloc (Nat.le_refl _) _
   have hq3:=hq.keep hA3
   have hb03:=hb0r.trans (hA3.mono hb0r.size)
   have hf3:=hf.trans (Frm.ofBelow hA3 [g])
   obtain⟨x0,x1,x2,x3,x4,x5,x6,x7,x8⟩:=zeu lp _ _ _ _ _ _ _ _ _ rfl
   clear hm
   have hki:=zhr (l:=l) (p:=p) (show 2<=j+2 by omega)
   have HK:=hide (fun (hh:zbu l (j+2) p=true) i q (hi:i<j+1+2) (hq:l[i]? = some q)=>(show zbu l i q=true by
    rcases Nat.lt_or_ge i (j+2)with h1 | h1
    ·exact hok i q h1 hq
    ·have e:i=j+2:=by omega
     subst e
     rw [hp]at hq
     exact Option.some.inj hq ▸ hh))
   have HF:=hide (fun (hh:zbu l (j+2) p=false) W (hq:FoQ w0 W g mb (some ⟨gr,0,none⟩) c l F) (hf:Frm w W [g])=>(show Q (.returned (.bool false)) W by
    have:=zaa HQ (.returned (.bool (zbl l (zbu l) && zbl l (zbx l)))) W ⟨rfl,hq,hf⟩
    rw [zhl hp hh,Bool.false_and]at this
    exact this))
   have HKY:=hide (zkw _ _ p.key (r1.keep hb03))
   have HT:=hide (zfa hq3 hb03 p.par hids.2)
   have HB:=hide (And.intro hq3 hf3)
   clear r1 r2 r3 r4 lp hA3 hq3 hb03 hf3 hq hf hp hok hids hb0r hB0 h
   unfold zaq at HT
   go_wp2_with fail
   refine (zaa HKY).mono ?_
   rintro e W ⟨rfl,rfl⟩
   clear HKY
   cases hkb:keyB p.key with
   | false=>
    have HE:=hide (zaa HF (by rw [hki,hkb];rfl) _ (zaa HB).1 (zaa HB).2)
    clear hki hkb
    go_wp2_with fail
    exact zaa HE
   | true=>
    rw [hkb,Bool.true_and]at hki
    have HKI:=hide hki
    clear hki hkb
    go_wp2_with fail
    refine (zaa HT).mono ?_
    rintro e W ⟨rfl,hqW,hfW⟩
    have hfw:=(zaa HB).2.trans hfW
    rw [<-zaa HKI]
    clear HT HB HKI
    cases htv:zbu l (j+2) p with
    | false=>
     have HE:=hide (zaa HF htv W hqW hfw)
     clear hqW hfw hfW htv
     go_wp2_with fail
     exact zaa HE
    | true=>
     have HE:=hide (And.intro hqW hfw)
     have HV:=hide (zaa HK htv)
     clear hqW hfw hfW htv
     go_wp2_with fail
     go_roundw
     case rel=>exact⟨j+1,by omega,by go_num,zaa HV,(zaa HE).1,(zaa HE).2⟩
     case measure=>simp [intOf];omega
  ·have hnl:¬ (j:Int)<(m:Int):=by omega
   have hkeys:∀i p,l[i]? = some p->zbu l i p=true:=fun i p hp=>hok i p (by have:=(List.getElem?_eq_some_iff.1 hp).1;omega) hp
   have hFW:FrW l:=⟨h2,hr,ht,hu,fun i p hi hp=>by
    have:=hkeys i p hp
    rw [zhr hi,Bool.and_eq_true]at this
    exact zcE this.2⟩
   have hek:zbl l (zbu l)=true:=(zbj l _).2 hkeys
   have hGr:=hG.frm hf (fun q hq=>by simp at hq;omega)
   have HQ2:=hide (fun e W (hh:e=.returned (.bool (zbl l (zbx l)))∧FoQ w0 W g mb (some ⟨gr,0,none⟩) c l F∧Frm w W [g])=>zaa HQ e W ⟨by rw [hek,Bool.true_and];exact hh.1,hh.2.1,hh.2.2⟩)
   have HY:=hide (And.intro hq (And.intro hf (And.intro hb0r (And.intro hGr (And.intro hkeys hFW)))))
   clear hok hek hkeys hFW hGr hq hf hb0r hB0 h hG hm HQ
   go_wp2_with fail
   obtain⟨hq,hf,hb0r,hGr,hkeys,hFW⟩:=zaa HY
   clear HY
   generalize wr=w5 at *
   go_loopw [33] (fun i wr'=>∃j':Nat,j'<=m∧i=.int .i64 (j':Int)∧(∀i p,i<j' + 2->l[i]? = some p->zbx l i p=true)∧Below w5.heap.size w5 wr') (fun i _=>m-(intOf i).toNat)
   case atStart=>exact⟨0,Nat.zero_le _,rfl,fun i p hi hp=>zko (by omega),Below.refl _ _⟩
   case round=>
    clear hnl hlt hj
    obtain⟨j,hj,rfl,hok,hB5⟩:=hrel
    have hm:=zaa HMM
    replace hq:=hq.keep hB5
    replace hf:=hf.trans (Frm.ofBelow hB5 [g])
    replace hb0r:=hb0r.trans (hB5.mono hb0r.size)
    replace hGr:=hGr.keep hB5
    by_cases hlt:j<m
    ·have hj2:j+2<l.length:=by omega
     obtain⟨k1,ck,n1,cn,t1,ct,a1,ca,-,e0,e1,e2,e3,e4,e5,e6,e7,e8,r1,r2,r3,r4⟩:=hq.own hj2
     rw [show (j+2)*9=18+j*9 by omega]at e0 e1 e2 e3 e4 e5 e6 e7 e8
     have hp:l[j+2]? = some l[j+2]:=by simp [hj2]
     have hids:=hq.ids l[j+2] (List.getElem_mem _)
     generalize l[j+2]=p at *
     have hlt':(j:Int)<(m:Int):=by omega
     have hj0:(0:Int)<=(j:Int):=by omega
     have hgrl:gr<wr.heap.size:=zaJ e0
     have lp:=Loc.made wr #[.int .i64 p.idN,.int .i64 p.idR,.int .i64 p.parN,.int .i64 p.parR,.slice k1 p.key.length ck,.int .i64 p.kind,.slice n1 p.name.length cn,.slice t1 p.text.length ct,.slice a1 p.attrs.length ca] 117
     have hA3:Below wr.heap.size wr (wr.alloc (.cells #[.int .i64 p.idN,.int .i64 p.idR,.int .i64 p.parN,.int .i64 p.parR,.slice k1 p.key.length ck,.int .i64 p.kind,.slice n1 p.name.length cn,.slice t1 p.text.length ct,.slice a1 p.attrs.length ca] 117)):=(Below.refl _ _).alloc (Nat.le_refl _) _
     have hq3:=hq.keep hA3
     have hb03:=hb0r.trans (hA3.mono hb0r.size)
     have hf3:=hf.trans (Frm.ofBelow hA3 [g])
     obtain⟨x0,x1,x2,x3,x4,x5,x6,x7,x8⟩:=zeu lp _ _ _ _ _ _ _ _ _ rfl
     clear hm
     have hki:=zqc (l:=l) (p:=p) (show 2<=j+2 by omega)
     have hkk:=hkeys _ _ hp
     rw [zhr (by omega),Bool.and_eq_true]at hkk
     obtain⟨kp,hkp⟩:=zcE hkk.2
     have HK:=hide (fun (hh:zbx l (j+2) p=true) i q (hi:i<j+1+2) (hq:l[i]? = some q)=>(show zbx l i q=true by
      rcases Nat.lt_or_ge i (j+2)with h1 | h1
      ·exact hok i q h1 hq
      ·have e:i=j+2:=by omega
       subst e
       rw [hp]at hq
       exact Option.some.inj hq ▸ hh))
     have HF:=hide (fun (hh:zbx l (j+2) p=false) W (hq:FoQ w0 W g mb (some ⟨gr,0,none⟩) c l F) (hf:Frm w W [g])=>(show Q (.returned (.bool false)) W by
      have:=zaa HQ2 (.returned (.bool (zbl l (zbx l)))) W ⟨rfl,hq,hf⟩
      rw [zhl hp hh]at this
      exact this))
     have HT:=hide (zly hq3 hFW (hGr.keep hA3) p.par p.id hids.2 kp hkp)
     have HB:=hide (And.intro hq3 (And.intro hf3 (zad hB5 hA3)))
     have HY:=hide (And.intro hkeys hFW)
     clear r1 r2 r3 r4 lp hA3 hq3 hb03 hf3 hq hf hp hok hids hb0r hkeys hFW hkk hkp hGr
     unfold zaq at HT
     go_wp2_with fail
     refine (zaa HT).mono ?_
     rintro e W ⟨rfl,hbW⟩
     have hqW:=(zaa HB).1.keep hbW
     have hfw:=(zaa HB).2.1.trans (Frm.ofBelow hbW [g])
     have h5W:=zad (zaa HB).2.2 hbW
     clear HT HB
     cases htv:zaw l l.length p.par p.id with
     | true=>
      have HE:=hide (zaa HF (by rw [hki,htv];rfl) W hqW hfw)
      clear hqW hfw h5W hbW htv hki
      go_wp2_with fail
      exact zaa HE
     | false=>
      have HE:=hide h5W
      have HV:=hide (zaa HK (by rw [hki,htv];rfl))
      clear hqW hfw h5W hbW htv hki
      go_wp2_with fail
      go_roundw
      case rel=>exact⟨j+1,by omega,by go_num,zaa HV,zaa HE⟩
      case measure=>simp [intOf];omega
    ·have hnl:¬ (j:Int)<(m:Int):=by omega
     have HE:=hide (zaa HQ2 (.returned (.bool (zbl l (zbx l)))) wr ⟨rfl,hq,hf⟩)
     rw [(zbj l _).2 (fun i p hp=>hok i p (by have:=(List.getElem?_eq_some_iff.1 hp).1;omega) hp)]at HE
     clear hq hf hok hkeys hFW hb0r hGr hm
     go_wp2_with fail
     exact zaa HE
def PjA (w:Xe) (l:List PlV) (e:Ending) (w':Xe):Prop:=∃(kd:Int) (a1:Xc) (n1 c1:Nat) (a2:Xc) (n2 c2:Nat) (a3:Xc) (n3 c3:Nat) (a4:Xc) (n4 c4:Nat),e=.returned (.tuple #[.agg #[.int .i64 kd,.slice a1 n1 c1,.slice a2 n2 c2,.slice a3 n3 c3,.slice a4 n4 c4],.bool (stB l)])∧∃G,OwNode 20 w' [.int .i64 kd,.slice a1 n1 c1,.slice a2 n2 c2,.slice a3 n3 c3,.slice a4 n4 c4] (pjR l) G∧G.Nodup∧Rng G w.heap.size w'.heap.size∧Below w.heap.size w w'
theorem zfh (w:Xe) (base:Nat):Own w base (.slice none 0 0) []:=⟨zbL,rfl,.inl ⟨rfl,rfl⟩⟩
theorem PjA.no {w w':Xe} {l:List PlV} (h:stB l=false) (hb:Below w.heap.size w w'):PjA w l (.returned (.tuple #[.agg #[.int .i64 0,.slice none 0 0,.slice none 0 0,.slice none 0 0,.slice none 0 0],.bool false])) w':=by
 refine⟨0,none,0,0,none,0,0,none,0,0,none,0,0,by rw [h],[],?_,List.nodup_nil,fun q hq=>(by cases hq),hb⟩
 rw [zpl h]
 exact⟨_,_,_,_,[],[],rfl,by show (-9223372036854775808:Int)<=0;omega,by show (0:Int)<=9223372036854775807;omega,zfh _ _,zfh _ _,OwElems.naught _ _ _ _,OwElems.naught _ _ _ _,rfl⟩
end Go.Proofs.YtlpnibbdmkeklaaGreatDoor
namespace Go.Proofs.YtlpnibbdmkeklaaGreatDoor
open Go.RowKit Go.Maps
set_option linter.unusedVariables false
set_option maxRecDepth 100000
theorem FSet.store {B:Nat} {o p:Xf} {w:Xe} {g:Nat} (h:FSet B o p w g) (o':Xf):FSet B o' p (w.setCell ⟨g,0,none⟩ o') g:=by
 rcases h with h | ⟨m,hm,h,hv⟩
 ·exact .inl (h.set 0 o')
 ·refine .inr ⟨m,hm,h.set 0 o',(heap_setCell_other w ⟨g,0,none⟩ m o' (fun e=> ?_)).trans hv⟩
  have e:m=g:=e
  unfold Loc at h
  obtain⟨es,c,ev⟩:=zkC
  rw [<-e,hv,ev]at h
  cases h
set_option maxHeartbeats 6400000 in
theorem zgF {B:Nat} {w:Xe} {g mb:Nat} {a:Xc} {c:Nat} {l:List PlV} {F:Xb} (h:FoS B w g mb a c l F) (p:PlV) (k n t s:Xc) (ck cn ct cs:Nat) (G:Xb)
  (hp:OwPlM w [.int .i64 p.idN,.int .i64 p.idR,.int .i64 p.parN,.int .i64 p.parR,.slice k p.key.length ck,.int .i64 p.kind,.slice n p.name.length cn,.slice t p.text.length ct,.slice s p.attrs.length cs] p G) (hGn:G.Nodup) (hGB:∀q∈G,B<=q) (hFG:∀q∈F,q∉G) (hid:okI p.id) (hpar:okI p.par) (hnew:posP l p.id=none) (hlen:l.length+1<=100000) :
  Calls Tryz.prog 58 #[.pointer (some ⟨g,0,none⟩),.agg #[.int .i64 p.idN,.int .i64 p.idR,.int .i64 p.parN,.int .i64 p.parR,.slice k p.key.length ck,.int .i64 p.kind,.slice n p.name.length cn,.slice t p.text.length ct,.slice s p.attrs.length cs]] w fun e w'=>e=.returned (.tuple #[])∧∃a' c' F',FoS B w' g mb a' c' (l++[p]) F'∧Frm w w' (g::mb::F)∧∀q∈F',q∈F∨q∈G∨w.heap.size<=q:=by
 refine zaf ?_
 intro Q HQ
 obtain⟨i0,hi0,hz0,hz1,hz2⟩:=info_parts zeg
 have hA:Below w.heap.size w (w.alloc (.cells #[.int .i64 p.idN,.int .i64 p.idR,.int .i64 p.parN,.int .i64 p.parR,.slice k p.key.length ck,.int .i64 p.kind,.slice n p.name.length cn,.slice t p.text.length ct,.slice s p.attrs.length cs] 117)):=(Below.refl _ _).alloc (Nat.le_refl _) _
 have hA1:Below w.heap.size w (w.alloc (.cells #[.int .i64 p.idN,.int .i64 p.idR,.int .i64 p.parN,.int .i64 p.parR,.slice k p.key.length ck,.int .i64 p.kind,.slice n p.name.length cn,.slice t p.text.length ct,.slice s p.attrs.length cs] 117)).drew:=hA.drew
 have lb:=(Loc.made w #[.int .i64 p.idN,.int .i64 p.idR,.int .i64 p.parN,.int .i64 p.parR,.slice k p.key.length ck,.int .i64 p.kind,.slice n p.name.length cn,.slice t p.text.length ct,.slice s p.attrs.length cs] 117).all ((Below.refl _ _).drew)
 have h1:=h.keep hA1
 obtain⟨w2,hrun,hm2,hg2⟩:=h1.map.put p hid hnew (by omega)
 obtain⟨cs1,lg,hc0,hc1⟩:=h1.set.loc
 have g0:=(lg.cell 0).trans hc0
 have g1:=(lg.cell 1).trans hc1
 have b0:=lb.cell 0
 have b1:=lb.cell 1
 have f2:Frm (w.alloc (.cells #[.int .i64 p.idN,.int .i64 p.idR,.int .i64 p.parN,.int .i64 p.parR,.slice k p.key.length ck,.int .i64 p.kind,.slice n p.name.length cn,.slice t p.text.length ct,.slice s p.attrs.length cs] 117)).drew w2 [mb]:=Frm.ofGrown hg2
 have hgm:=h1.gm
 have hmF:=h1.mF
 have hgF:=h1.gF
 have s2:FSet (mb+1) (.slice a l.length c) (.map (some mb)) w2 g:=h1.set.frm f2 (by simpa using hgm) (fun q hq=>.inl (by have e:q=mb:=(by simpa using hq);omega))
 have r2:=h1.row.frm f2 (fun q hq e=>hmF (by have e9:q=mb:=(by simpa using e);rw [<-e9];exact hq))
 have hnb:w.heap.size∉[mb]:=fun e=>by have e9:w.heap.size=mb:=(by simpa using e);have:=h.map.lt;omega
 have lb2:=lb.frm f2 hnb
 have p2:OwPlM w2 [.int .i64 p.idN,.int .i64 p.idR,.int .i64 p.parN,.int .i64 p.parR,.slice k p.key.length ck,.int .i64 p.kind,.slice n p.name.length cn,.slice t p.text.length ct,.slice s p.attrs.length cs] p G:=(hp.frm (Frm.ofBelow hA1 []) (fun _ _=>by simp)).frm f2 (fun q hq e=>by
  have e9:q=mb:=by simpa using e
  subst e9
  obtain⟨es,k',e'⟩:=h.map.isMap
  exact (hp.typ q hq).notMap e')
 have hl63:=h.len
 have HX:=hide (And.intro h (And.intro hA1 (And.intro f2 (And.intro s2 (And.intro r2 (And.intro lb2 (And.intro p2 hm2)))))))
 have HG:=hide (And.intro hGn (And.intro hGB (And.intro hFG (And.intro hid hpar))))
 have HM:=hide (And.intro hgm (And.intro hmF hgF))
 unfold zaq at hrun
 have hrun':(Instr.mapUpdate 95 (.map (some mb)) (.agg #[.int .i64 p.idN,.int .i64 p.idR]) (.int .i64 (l.length:Int))).run Tryz.prog (w.alloc (.cells #[.int .i64 p.idN,.int .i64 p.idR,.int .i64 p.parN,.int .i64 p.parR,.slice k p.key.length ck,.int .i64 p.kind,.slice n p.name.length cn,.slice t p.text.length ct,.slice s p.attrs.length cs] 117)).drew=.ok () w2:=hrun
 clear h hp hGn hGB hFG hid hpar hnew hA hA1 h1 lg hc0 hc1 lb f2 hgm hmF hgF s2 r2 lb2 p2 hm2 hg2 hrun
 go_enter Tryz.func58,Tryz.ntmps58
 go_wp2_with fail
 go_region
 clear g0 g1 b0 b1 hrun'
 obtain⟨h,hA1,f2,s2,r2,lb2,p2,hm2⟩:=zaa HX
 obtain⟨hGn,hGB,hFG,hid,hpar⟩:=zaa HG
 obtain⟨hgm,hmF,hgF⟩:=zaa HM
 have hd2:Below w2.heap.size w2 w2.drew:=(Below.refl _ _).drew
 have hb23:Below w2.heap.size w2 (w2.alloc (.cells #[.int .i64 p.idN,.int .i64 p.idR,.int .i64 p.parN,.int .i64 p.parR,.slice k p.key.length ck,.int .i64 p.kind,.slice n p.name.length cn,.slice t p.text.length ct,.slice s p.attrs.length cs] 117)).drew:=((Below.refl _ _).alloc (Nat.le_refl _) _).drew
 have hb3:=hb23
 have s3:=s2.frm (Frm.ofBelow hb23 []) (by simp) (fun q hq=>by cases hq)
 have s2d:=s2.frm (Frm.ofBelow hd2 []) (by simp) (fun q hq=>by cases hq)
 obtain⟨cs2,lg2,hc2,_⟩:=s2d.loc
 obtain⟨cs3,lg3,hc3,_⟩:=s3.loc
 have g0:w2.drew.cell? ⟨g,0,none⟩=some (.slice a l.length c):=(lg2.cell 0).trans hc2
 have g0':(w2.alloc (.cells #[.int .i64 p.idN,.int .i64 p.idR,.int .i64 p.parN,.int .i64 p.parR,.slice k p.key.length ck,.int .i64 p.kind,.slice n p.name.length cn,.slice t p.text.length ct,.slice s p.attrs.length cs] 117)).drew.cell? ⟨g,0,none⟩=some (.slice a l.length c):=(lg3.cell 0).trans hc3
 have lbd:=lb2.all hd2
 have p0:w2.drew.cell? ⟨w.heap.size,0,none⟩=_:=lbd.cell 0
 have p1:w2.drew.cell? ⟨w.heap.size,1,none⟩=_:=lbd.cell 1
 have p2_:w2.drew.cell? ⟨w.heap.size,2,none⟩=_:=lbd.cell 2
 have p3:w2.drew.cell? ⟨w.heap.size,3,none⟩=_:=lbd.cell 3
 have p4:w2.drew.cell? ⟨w.heap.size,4,none⟩=_:=lbd.cell 4
 have p5:w2.drew.cell? ⟨w.heap.size,5,none⟩=_:=lbd.cell 5
 have p6:w2.drew.cell? ⟨w.heap.size,6,none⟩=_:=lbd.cell 6
 have p7:w2.drew.cell? ⟨w.heap.size,7,none⟩=_:=lbd.cell 7
 have p8:w2.drew.cell? ⟨w.heap.size,8,none⟩=_:=lbd.cell 8
 have hsz2:w2.drew.heap.size=w2.heap.size:=rfl
 have hvF:∀q∈FB (.slice a l.length c),q∈F:=fun q hq=>by
  obtain⟨_,_,_,_,_,_,e⟩:=r2
  rw [e]
  exact List.mem_append_left _ hq
 have HP:=hide (show OwPlsM (w2.alloc (.cells #[.int .i64 p.idN,.int .i64 p.idR,.int .i64 p.parN,.int .i64 p.parR,.slice k p.key.length ck,.int .i64 p.kind,.slice n p.name.length cn,.slice t p.text.length ct,.slice s p.attrs.length cs] 117)).drew (.slice a l.length c) l F∧F.Nodup∧OwPlM (w2.alloc (.cells #[.int .i64 p.idN,.int .i64 p.idR,.int .i64 p.parN,.int .i64 p.parR,.slice k p.key.length ck,.int .i64 p.kind,.slice n p.name.length cn,.slice t p.text.length ct,.slice s p.attrs.length cs] 117)).drew [.int .i64 p.idN,.int .i64 p.idR,.int .i64 p.parN,.int .i64 p.parR,.slice k p.key.length ck,.int .i64 p.kind,.slice n p.name.length cn,.slice t p.text.length ct,.slice s p.attrs.length cs] p G∧G.Nodup∧(∀g∈F,g∉G)∧(∀q,q∈F∨q∈G->q<(w2.alloc (.cells #[.int .i64 p.idN,.int .i64 p.idR,.int .i64 p.parN,.int .i64 p.parR,.slice k p.key.length ck,.int .i64 p.kind,.slice n p.name.length cn,.slice t p.text.length ct,.slice s p.attrs.length cs] 117)).drew.heap.size) from by
  refine⟨OwPlsM.frm r2 (Frm.ofBelow hb23 []) (fun _ _=>by simp),h.nd,p2.frm (Frm.ofBelow hb23 []) (fun _ _=>by simp),hGn,hFG,fun q hq=> ?_⟩
  have:=hb23.size
  rcases hq with hq | hq
  ·have:=OwPlsM.lt r2 q hq
   omega
  ·have:=p2.lt q hq
   omega)
 have hcl:∀(i:Nat) (u:Xf),([.int .i64 p.idN,.int .i64 p.idR,.int .i64 p.parN,.int .i64 p.parR,.slice k p.key.length ck,.int .i64 p.kind,.slice n p.name.length cn,.slice t p.text.length ct,.slice s p.attrs.length cs])[i]? = some u->(w2.alloc (.cells #[.int .i64 p.idN,.int .i64 p.idR,.int .i64 p.parN,.int .i64 p.parR,.slice k p.key.length ck,.int .i64 p.kind,.slice n p.name.length cn,.slice t p.text.length ct,.slice s p.attrs.length cs] 117)).drew.cell? ((⟨w2.heap.size,0,none⟩:Addr).add i)=some u:=fun i u hu=>World.news_of_block (w:=(w2.alloc (.cells #[.int .i64 p.idN,.int .i64 p.idR,.int .i64 p.parN,.int .i64 p.parR,.slice k p.key.length ck,.int .i64 p.kind,.slice n p.name.length cn,.slice t p.text.length ct,.slice s p.attrs.length cs] 117)).drew) (heap_alloc_new w2 (.cells #[.int .i64 p.idN,.int .i64 p.idR,.int .i64 p.parN,.int .i64 p.parR,.slice k p.key.length ck,.int .i64 p.kind,.slice n p.name.length cn,.slice t p.text.length ct,.slice s p.attrs.length cs] 117)) i u (by simpa using hu)
 have HF2:=hide f2
 have HS3:=hide (And.intro s3 (And.intro (hm2.frm (Frm.ofBelow hb23 []) (by simp)) (And.intro hcl (f2.trans (Frm.ofBelow hb23 _)))))
 have hgv:g∉FB (.slice a l.length c):=fun e=>hgF (hvF g e)
 have hmv:mb∉FB (.slice a l.length c):=fun e=>hmF (hvF mb e)
 clear hcl s3 s2 s2d lg2 lg3 hc2 hc3 lbd lb2 r2 p2 hm2 f2 hb23 hd2 HX HG HM
 go_wp2_with fail
 go_region_law (refine zbQ (R:=OwPlM) (fun h f d=>OwPlM.frm h f d) (by rfl) (.tmp 19) (.tmp 21) 56 (by rfl) 117 i0 (.agg #[.int .i64 0,.int .i64 0,.int .i64 0,.int .i64 0,.slice none 0 0,.int .i64 0,.slice none 0 0,.slice none 0 0,.slice none 0 0]) 9 136 Tryz.underlying56 hi0 hz0 hz1 hz2 rfl (by decide) _ l F (by rfl) (zaa HP).1 (zaa HP).2.1 ⟨w2.heap.size,0,none⟩ 1 [.int .i64 p.idN,.int .i64 p.idR,.int .i64 p.parN,.int .i64 p.parR,.slice k p.key.length ck,.int .i64 p.kind,.slice n p.name.length cn,.slice t p.text.length ct,.slice s p.attrs.length cs] p G (by rfl) rfl (zaa HS3).2.2.1 (by intro y hy;simp at hy;rcases hy with rfl | rfl | rfl | rfl | rfl | rfl | rfl | rfl | rfl<;>rfl) (zaa HP).2.2.1 (zaa HP).2.2.2.1 (zaa HP).2.2.2.2.1 (zaa HP).2.2.2.2.2 (by unfold maxLen;omega) (by omega) ?_;intro g9 cap9 w9 F9 hF9 hN9 hM9 hf9 hg9;have s9:=(zaa HS3).1.frm hf9 hgv (fun q hq=>.inr ((OwPlsM.typ (zaa HP).1 q (hvF q hq)).cells));obtain⟨cs9,lg9,hc9,_⟩:=s9.loc;have c09:=(lg9.cell 0).trans hc9;have z09:=lg9.frozen 0)
 all_goals
  have fs:=zab w9 g 0 (.slice (some ⟨g9,0,none⟩) (l.length+1) cap9)
  have hgF9:g∉F9:=fun e=>(OwPlsM.typ hF9 g e).notL (by decide) lg9
  have h9:FoS B (w9.setCell ⟨g,0,none⟩ (.slice (some ⟨g9,0,none⟩) (l.length+1) cap9)) g mb (some ⟨g9,0,none⟩) cap9 (l++[p]) F9:=by
   have hll:(l++[p]).length=l.length+1:=by simp
   refine⟨by rw [hll];exact s9.store _,((zaa HS3).2.1.frm hf9 hmv).frm fs (by simpa using fun e=>hgm e.symm),by rw [hll];exact OwPlsM.frm hF9 fs (fun q hq e=>hgF9 (by have e9:q=g:=(by simpa using e);rw [<-e9];exact hq)),hN9,fun q hq=> ?_,h.geg,h.gem,fun q hq=> ?_,by rw [hll];exact hlen⟩
   ·rcases hM9 q hq with e | e | e
    ·exact h.ge q e
    ·exact hGB q e
    ·have:=h.geg
     have:=h.set.lt
     have:=hA1.size
     have:=(zaa HS3).2.2.2.size
     have e1:(w2.alloc (.cells #[.int .i64 p.idN,.int .i64 p.idR,.int .i64 p.parN,.int .i64 p.parR,.slice k p.key.length ck,.int .i64 p.kind,.slice n p.name.length cn,.slice t p.text.length ct,.slice s p.attrs.length cs] 117)).drew.heap.size=w2.heap.size+1:=by simp [World.drew]
     have:=hb3.size
     have e2:=(show Frm _ w2 [mb] from zaa HF2).size
     omega
   ·rcases List.mem_append.1 hq with hq | hq
    ·exact h.ids q hq
    ·have e:q=p:=by simpa using hq
     rw [e]
     exact⟨hid,hpar⟩
  have hfr:Frm w (w9.setCell ⟨g,0,none⟩ (.slice (some ⟨g9,0,none⟩) (l.length+1) cap9)) (g::mb::F):=by
   refine (Frm.ofBelow hA1 _).trans (((zaa HS3).2.2.2.mono ?_).trans ((hf9.mono ?_).trans (fs.mono ?_)))
   ·intro q hq;have e:q=mb:=(by simpa using hq);simp [e]
   ·intro q hq;simp [hvF q hq]
   ·intro q hq;have e:q=g:=(by simpa using hq);simp [e]
  have hsub:∀q∈F9,q∈F∨q∈G∨w.heap.size<=q:=fun q hq=>by
   rcases hM9 q hq with e | e | e
   ·exact .inl e
   ·exact .inr (.inl e)
   ·right;right
    have:=hA1.size
    have:=(zaa HS3).2.2.2.size
    have:=hb3.size
    have e2:=(show Frm _ w2 [mb] from zaa HF2).size
    omega
  have HE:=hide (zaa HQ (.returned (.tuple #[])) _ ⟨rfl,_,_,F9,h9,hfr,hsub⟩)
  clear h9 hfr hsub fs HQ hF9 hN9 hM9 hf9 s9 lg9 hc9 HP HS3
  go_wp2_with fail
  go_end0
  exact zaa HE
set_option maxHeartbeats 6400000 in
theorem zqB {w0:Xe} {w:Xe} {g mb:Nat} {a:Xc} {c:Nat} {l:List PlV} {F:Xb} (h:FoQ w0 w g mb a c l F) (p:PlV) (k n t s:Xc) (ck cn ct cs:Nat) (G:Xb)
  (hp:PlQ w0 w [.int .i64 p.idN,.int .i64 p.idR,.int .i64 p.parN,.int .i64 p.parR,.slice k p.key.length ck,.int .i64 p.kind,.slice n p.name.length cn,.slice t p.text.length ct,.slice s p.attrs.length cs] p G) (hGn:G.Nodup) (hGB:∀q∈G,w0.heap.size<=q) (hFG:∀q∈F,q∉G) (hid:okI p.id) (hpar:okI p.par) (hnew:posP l p.id=none) (hlen:l.length+1<=100000) :
  Calls Tryz.prog 58 #[.pointer (some ⟨g,0,none⟩),.agg #[.int .i64 p.idN,.int .i64 p.idR,.int .i64 p.parN,.int .i64 p.parR,.slice k p.key.length ck,.int .i64 p.kind,.slice n p.name.length cn,.slice t p.text.length ct,.slice s p.attrs.length cs]] w fun e w'=>e=.returned (.tuple #[])∧∃a' c' F',FoQ w0 w' g mb a' c' (l++[p]) F'∧Frm w w' (g::mb::F)∧∀q∈F',q∈F∨q∈G∨w.heap.size<=q:=by
 refine zaf ?_
 intro Q HQ
 obtain⟨i0,hi0,hz0,hz1,hz2⟩:=info_parts zeg
 have hA:Below w.heap.size w (w.alloc (.cells #[.int .i64 p.idN,.int .i64 p.idR,.int .i64 p.parN,.int .i64 p.parR,.slice k p.key.length ck,.int .i64 p.kind,.slice n p.name.length cn,.slice t p.text.length ct,.slice s p.attrs.length cs] 117)):=(Below.refl _ _).alloc (Nat.le_refl _) _
 have hA1:Below w.heap.size w (w.alloc (.cells #[.int .i64 p.idN,.int .i64 p.idR,.int .i64 p.parN,.int .i64 p.parR,.slice k p.key.length ck,.int .i64 p.kind,.slice n p.name.length cn,.slice t p.text.length ct,.slice s p.attrs.length cs] 117)).drew:=hA.drew
 have lb:=(Loc.made w #[.int .i64 p.idN,.int .i64 p.idR,.int .i64 p.parN,.int .i64 p.parR,.slice k p.key.length ck,.int .i64 p.kind,.slice n p.name.length cn,.slice t p.text.length ct,.slice s p.attrs.length cs] 117).all ((Below.refl _ _).drew)
 have h1:=h.keep hA1
 obtain⟨w2,hrun,hm2,hg2⟩:=h1.map.put p hid hnew (by omega)
 obtain⟨cs1,lg,hc0,hc1⟩:=h1.set.loc
 have g0:=(lg.cell 0).trans hc0
 have g1:=(lg.cell 1).trans hc1
 have b0:=lb.cell 0
 have b1:=lb.cell 1
 have f2:Frm (w.alloc (.cells #[.int .i64 p.idN,.int .i64 p.idR,.int .i64 p.parN,.int .i64 p.parR,.slice k p.key.length ck,.int .i64 p.kind,.slice n p.name.length cn,.slice t p.text.length ct,.slice s p.attrs.length cs] 117)).drew w2 [mb]:=Frm.ofGrown hg2
 have hgm:=h1.gm
 have hmF:=h1.mF
 have hgF:=h1.gF
 have s2:FSet (mb+1) (.slice a l.length c) (.map (some mb)) w2 g:=h1.set.frm f2 (by simpa using hgm) (fun q hq=>.inl (by have e:q=mb:=(by simpa using hq);omega))
 have r2:=h1.row.frm f2 (fun q hq e=>hmF (by have e9:q=mb:=(by simpa using e);rw [<-e9];exact hq))
 have hnb:w.heap.size∉[mb]:=fun e=>by have e9:w.heap.size=mb:=(by simpa using e);have:=h.map.lt;omega
 have lb2:=lb.frm f2 hnb
 have p2:PlQ w0 w2 [.int .i64 p.idN,.int .i64 p.idR,.int .i64 p.parN,.int .i64 p.parR,.slice k p.key.length ck,.int .i64 p.kind,.slice n p.name.length cn,.slice t p.text.length ct,.slice s p.attrs.length cs] p G:=(hp.frm (Frm.ofBelow hA1 []) (fun _ _=>by simp)).frm f2 (fun q hq e=>by
  have e9:q=mb:=by simpa using e
  subst e9
  obtain⟨es,k',e'⟩:=h.map.isMap
  exact (hp.typ q hq).notMap e')
 have hl63:=h.len
 have HX:=hide (And.intro h (And.intro hA1 (And.intro f2 (And.intro s2 (And.intro r2 (And.intro lb2 (And.intro p2 hm2)))))))
 have HG:=hide (And.intro hGn (And.intro hGB (And.intro hFG (And.intro hid hpar))))
 have HM:=hide (And.intro hgm (And.intro hmF hgF))
 unfold zaq at hrun
 have hrun':(Instr.mapUpdate 95 (.map (some mb)) (.agg #[.int .i64 p.idN,.int .i64 p.idR]) (.int .i64 (l.length:Int))).run Tryz.prog (w.alloc (.cells #[.int .i64 p.idN,.int .i64 p.idR,.int .i64 p.parN,.int .i64 p.parR,.slice k p.key.length ck,.int .i64 p.kind,.slice n p.name.length cn,.slice t p.text.length ct,.slice s p.attrs.length cs] 117)).drew=.ok () w2:=hrun
 clear h hp hGn hGB hFG hid hpar hnew hA hA1 h1 lg hc0 hc1 lb f2 hgm hmF hgF s2 r2 lb2 p2 hm2 hg2 hrun
 go_enter Tryz.func58,Tryz.ntmps58
 go_wp2_with fail
 go_region
 clear g0 g1 b0 b1 hrun'
 obtain⟨h,hA1,f2,s2,r2,lb2,p2,hm2⟩:=zaa HX
 obtain⟨hGn,hGB,hFG,hid,hpar⟩:=zaa HG
 obtain⟨hgm,hmF,hgF⟩:=zaa HM
 have hd2:Below w2.heap.size w2 w2.drew:=(Below.refl _ _).drew
 have hb23:Below w2.heap.size w2 (w2.alloc (.cells #[.int .i64 p.idN,.int .i64 p.idR,.int .i64 p.parN,.int .i64 p.parR,.slice k p.key.length ck,.int .i64 p.kind,.slice n p.name.length cn,.slice t p.text.length ct,.slice s p.attrs.length cs] 117)).drew:=((Below.refl _ _).alloc (Nat.le_refl _) _).drew
 have hb3:=hb23
 have s3:=s2.frm (Frm.ofBelow hb23 []) (by simp) (fun q hq=>by cases hq)
 have s2d:=s2.frm (Frm.ofBelow hd2 []) (by simp) (fun q hq=>by cases hq)
 obtain⟨cs2,lg2,hc2,_⟩:=s2d.loc
 obtain⟨cs3,lg3,hc3,_⟩:=s3.loc
 have g0:w2.drew.cell? ⟨g,0,none⟩=some (.slice a l.length c):=(lg2.cell 0).trans hc2
 have g0':(w2.alloc (.cells #[.int .i64 p.idN,.int .i64 p.idR,.int .i64 p.parN,.int .i64 p.parR,.slice k p.key.length ck,.int .i64 p.kind,.slice n p.name.length cn,.slice t p.text.length ct,.slice s p.attrs.length cs] 117)).drew.cell? ⟨g,0,none⟩=some (.slice a l.length c):=(lg3.cell 0).trans hc3
 have lbd:=lb2.all hd2
 have p0:w2.drew.cell? ⟨w.heap.size,0,none⟩=_:=lbd.cell 0
 have p1:w2.drew.cell? ⟨w.heap.size,1,none⟩=_:=lbd.cell 1
 have p2_:w2.drew.cell? ⟨w.heap.size,2,none⟩=_:=lbd.cell 2
 have p3:w2.drew.cell? ⟨w.heap.size,3,none⟩=_:=lbd.cell 3
 have p4:w2.drew.cell? ⟨w.heap.size,4,none⟩=_:=lbd.cell 4
 have p5:w2.drew.cell? ⟨w.heap.size,5,none⟩=_:=lbd.cell 5
 have p6:w2.drew.cell? ⟨w.heap.size,6,none⟩=_:=lbd.cell 6
 have p7:w2.drew.cell? ⟨w.heap.size,7,none⟩=_:=lbd.cell 7
 have p8:w2.drew.cell? ⟨w.heap.size,8,none⟩=_:=lbd.cell 8
 have hsz2:w2.drew.heap.size=w2.heap.size:=rfl
 have hvF:∀q∈FB (.slice a l.length c),q∈F:=fun q hq=>by
  obtain⟨_,_,_,_,_,_,e⟩:=r2
  rw [e]
  exact List.mem_append_left _ hq
 have HP:=hide (show PlsQ w0 (w2.alloc (.cells #[.int .i64 p.idN,.int .i64 p.idR,.int .i64 p.parN,.int .i64 p.parR,.slice k p.key.length ck,.int .i64 p.kind,.slice n p.name.length cn,.slice t p.text.length ct,.slice s p.attrs.length cs] 117)).drew (.slice a l.length c) l F∧F.Nodup∧PlQ w0 (w2.alloc (.cells #[.int .i64 p.idN,.int .i64 p.idR,.int .i64 p.parN,.int .i64 p.parR,.slice k p.key.length ck,.int .i64 p.kind,.slice n p.name.length cn,.slice t p.text.length ct,.slice s p.attrs.length cs] 117)).drew [.int .i64 p.idN,.int .i64 p.idR,.int .i64 p.parN,.int .i64 p.parR,.slice k p.key.length ck,.int .i64 p.kind,.slice n p.name.length cn,.slice t p.text.length ct,.slice s p.attrs.length cs] p G∧G.Nodup∧(∀g∈F,g∉G)∧(∀q,q∈F∨q∈G->q<(w2.alloc (.cells #[.int .i64 p.idN,.int .i64 p.idR,.int .i64 p.parN,.int .i64 p.parR,.slice k p.key.length ck,.int .i64 p.kind,.slice n p.name.length cn,.slice t p.text.length ct,.slice s p.attrs.length cs] 117)).drew.heap.size) from by
  refine⟨PlsQ.frm r2 (Frm.ofBelow hb23 []) (fun _ _=>by simp),h.nd,p2.frm (Frm.ofBelow hb23 []) (fun _ _=>by simp),hGn,hFG,fun q hq=> ?_⟩
  have:=hb23.size
  rcases hq with hq | hq
  ·have:=PlsQ.lt r2 q hq
   omega
  ·have:=p2.lt q hq
   omega)
 have hcl:∀(i:Nat) (u:Xf),([.int .i64 p.idN,.int .i64 p.idR,.int .i64 p.parN,.int .i64 p.parR,.slice k p.key.length ck,.int .i64 p.kind,.slice n p.name.length cn,.slice t p.text.length ct,.slice s p.attrs.length cs])[i]? = some u->(w2.alloc (.cells #[.int .i64 p.idN,.int .i64 p.idR,.int .i64 p.parN,.int .i64 p.parR,.slice k p.key.length ck,.int .i64 p.kind,.slice n p.name.length cn,.slice t p.text.length ct,.slice s p.attrs.length cs] 117)).drew.cell? ((⟨w2.heap.size,0,none⟩:Addr).add i)=some u:=fun i u hu=>World.news_of_block (w:=(w2.alloc (.cells #[.int .i64 p.idN,.int .i64 p.idR,.int .i64 p.parN,.int .i64 p.parR,.slice k p.key.length ck,.int .i64 p.kind,.slice n p.name.length cn,.slice t p.text.length ct,.slice s p.attrs.length cs] 117)).drew) (heap_alloc_new w2 (.cells #[.int .i64 p.idN,.int .i64 p.idR,.int .i64 p.parN,.int .i64 p.parR,.slice k p.key.length ck,.int .i64 p.kind,.slice n p.name.length cn,.slice t p.text.length ct,.slice s p.attrs.length cs] 117)) i u (by simpa using hu)
 have HF2:=hide f2
 have HS3:=hide (And.intro s3 (And.intro (hm2.frm (Frm.ofBelow hb23 []) (by simp)) (And.intro hcl (f2.trans (Frm.ofBelow hb23 _)))))
 have hgv:g∉FB (.slice a l.length c):=fun e=>hgF (hvF g e)
 have hmv:mb∉FB (.slice a l.length c):=fun e=>hmF (hvF mb e)
 clear hcl s3 s2 s2d lg2 lg3 hc2 hc3 lbd lb2 r2 p2 hm2 f2 hb23 hd2 HX HG HM
 go_wp2_with fail
 go_region_law (refine zbQ (R:=PlQ w0) (fun h f d=>PlQ.frm h f d) (by rfl) (.tmp 19) (.tmp 21) 56 (by rfl) 117 i0 (.agg #[.int .i64 0,.int .i64 0,.int .i64 0,.int .i64 0,.slice none 0 0,.int .i64 0,.slice none 0 0,.slice none 0 0,.slice none 0 0]) 9 136 Tryz.underlying56 hi0 hz0 hz1 hz2 rfl (by decide) _ l F (by rfl) (zaa HP).1 (zaa HP).2.1 ⟨w2.heap.size,0,none⟩ 1 [.int .i64 p.idN,.int .i64 p.idR,.int .i64 p.parN,.int .i64 p.parR,.slice k p.key.length ck,.int .i64 p.kind,.slice n p.name.length cn,.slice t p.text.length ct,.slice s p.attrs.length cs] p G (by rfl) rfl (zaa HS3).2.2.1 (by intro y hy;simp at hy;rcases hy with rfl | rfl | rfl | rfl | rfl | rfl | rfl | rfl | rfl<;>rfl) (zaa HP).2.2.1 (zaa HP).2.2.2.1 (zaa HP).2.2.2.2.1 (zaa HP).2.2.2.2.2 (by unfold maxLen;omega) (by omega) ?_;intro g9 cap9 w9 F9 hF9 hN9 hM9 hf9 hg9;have s9:=(zaa HS3).1.frm hf9 hgv (fun q hq=>.inr ((PlsQ.typ (zaa HP).1 q (hvF q hq)).cells));obtain⟨cs9,lg9,hc9,_⟩:=s9.loc;have c09:=(lg9.cell 0).trans hc9;have z09:=lg9.frozen 0)
 all_goals
  have fs:=zab w9 g 0 (.slice (some ⟨g9,0,none⟩) (l.length+1) cap9)
  have hgF9:g∉F9:=fun e=>(PlsQ.typ hF9 g e).notL (by decide) lg9
  have h9:FoQ w0 (w9.setCell ⟨g,0,none⟩ (.slice (some ⟨g9,0,none⟩) (l.length+1) cap9)) g mb (some ⟨g9,0,none⟩) cap9 (l++[p]) F9:=by
   have hll:(l++[p]).length=l.length+1:=by simp
   refine⟨by rw [hll];exact s9.store _,((zaa HS3).2.1.frm hf9 hmv).frm fs (by simpa using fun e=>hgm e.symm),by rw [hll];exact PlsQ.frm hF9 fs (fun q hq e=>hgF9 (by have e9:q=g:=(by simpa using e);rw [<-e9];exact hq)),hN9,fun q hq=> ?_,h.geg,h.gem,fun q hq=> ?_,by rw [hll];exact hlen⟩
   ·rcases hM9 q hq with e | e | e
    ·exact h.ge q e
    ·exact hGB q e
    ·have:=h.geg
     have:=h.set.lt
     have:=hA1.size
     have:=(zaa HS3).2.2.2.size
     have e1:(w2.alloc (.cells #[.int .i64 p.idN,.int .i64 p.idR,.int .i64 p.parN,.int .i64 p.parR,.slice k p.key.length ck,.int .i64 p.kind,.slice n p.name.length cn,.slice t p.text.length ct,.slice s p.attrs.length cs] 117)).drew.heap.size=w2.heap.size+1:=by simp [World.drew]
     have:=hb3.size
     have e2:=(show Frm _ w2 [mb] from zaa HF2).size
     omega
   ·rcases List.mem_append.1 hq with hq | hq
    ·exact h.ids q hq
    ·have e:q=p:=by simpa using hq
     rw [e]
     exact⟨hid,hpar⟩
  have hfr:Frm w (w9.setCell ⟨g,0,none⟩ (.slice (some ⟨g9,0,none⟩) (l.length+1) cap9)) (g::mb::F):=by
   refine (Frm.ofBelow hA1 _).trans (((zaa HS3).2.2.2.mono ?_).trans ((hf9.mono ?_).trans (fs.mono ?_)))
   ·intro q hq;have e:q=mb:=(by simpa using hq);simp [e]
   ·intro q hq;simp [hvF q hq]
   ·intro q hq;have e:q=g:=(by simpa using hq);simp [e]
  have hsub:∀q∈F9,q∈F∨q∈G∨w.heap.size<=q:=fun q hq=>by
   rcases hM9 q hq with e | e | e
   ·exact .inl e
   ·exact .inr (.inl e)
   ·right;right
    have:=hA1.size
    have:=(zaa HS3).2.2.2.size
    have:=hb3.size
    have e2:=(show Frm _ w2 [mb] from zaa HF2).size
    omega
  have HE:=hide (zaa HQ (.returned (.tuple #[])) _ ⟨rfl,_,_,F9,h9,hfr,hsub⟩)
  clear h9 hfr hsub fs HQ hF9 hN9 hM9 hf9 s9 lg9 hc9 HP HS3
  go_wp2_with fail
  go_end0
  exact zaa HE
theorem zfC (w:Xe):Calls Tryz.prog 53 #[] w fun e w'=>e=.returned (.pointer (some ⟨w.heap.size+1,0,none⟩))∧FoS w.heap.size w' (w.heap.size+1) w.heap.size none 0 [] []∧Below w.heap.size w w':=by
 refine zaf ?_
 intro Q HQ
 have hmm:= @run_makeMap Tryz.prog
 have hA:Below w.heap.size w ((w.alloc (.map #[] 0)).alloc (.cells (fs0 (.slice none 0 0) (.map (some w.heap.size))) 112)):=zad ((Below.refl _ _).alloc (Nat.le_refl _) _) ((Below.refl _ _).alloc (Nat.le_refl _) _)
 have lg:=Loc.made (w.alloc (.map #[] 0)) (fs0 (.slice none 0 0) (.map (some w.heap.size))) 112
 simp only [World.size_alloc]at lg
 have hb:Below (w.alloc (.map #[] 0)).heap.size (w.alloc (.map #[] 0)) ((w.alloc (.map #[] 0)).alloc (.cells (fs0 (.slice none 0 0) (.map (some w.heap.size))) 112)):=(Below.refl _ _).alloc (Nat.le_refl _) _
 have hS:FoS w.heap.size ((w.alloc (.map #[] 0)).alloc (.cells (fs0 (.slice none 0 0) (.map (some w.heap.size))) 112)) (w.heap.size+1) w.heap.size none 0 [] []:=
  ⟨.inl lg,(AtM.made w).frm (Frm.ofBelow hb []) (by simp),⟨[],[],rfl,rfl,fun i hi=>(by cases hi),World.ownsRow_nil _ _ _ _,rfl⟩,List.nodup_nil,fun q hq=>(by cases hq),by omega,Nat.le_refl _,fun p hp=>(by cases hp),Nat.zero_le _⟩
 have HE:=hide (zaa HQ (.returned (.pointer (some ⟨w.heap.size+1,0,none⟩))) _ ⟨rfl,hS,hA⟩)
 unfold fs0 at HE
 clear hA lg hb hS HQ
 go_enter Tryz.func53,Tryz.ntmps53
 go_wp2_with fail
 exact zaa HE
theorem zgI (w:Xe) (v:Xf) (l:Xa) (h:Ints w v l) (hl:l.length<=67108864) :
  Calls Tryz.prog 122 #[v] w fun e w'=>∃a c,e=.returned (.slice a l.length c)∧OwnZ w' w.heap.size (.slice a l.length c) l∧Below w.heap.size w w':=by
 have HH:=hide h
 obtain⟨a,c,rfl,_,_⟩:=h.shape
 clear h
 go_enter Tryz.func122,Tryz.ntmps122
 go_wp2_with (at_builtin;refine zgY rfl _ _ rfl w.heap.size _ [] rfl (zfv _ _) _ l rfl (zaa HH) ?c1 ?c2 ?_)
 case c1=>simp;omega
 case c2=>exact Nat.le_refl _
 intro v1 w1 ho hg
 try rw [List.nil_append]at ho
 obtain⟨a1,c1,rfl,_,_⟩:=ho.ints.shape
 have hB:=Below.ofGrown hg
 go_wp2_with fail
 go_ret
 exact⟨_,_,rfl,ho,hB⟩
theorem zeH (w:Xe) (v:Xf) (l:Xa) (h:Byt w v l) (hl:l.length<=67108864) :
  Calls Tryz.prog 123 #[v] w fun e w'=>∃a c,e=.returned (.slice a l.length c)∧Own w' w.heap.size (.slice a l.length c) l∧Below w.heap.size w w':=by
 refine (zdC w v l h hl).mono ?_
 rintro e w' ⟨v',rfl,ho,hB⟩
 obtain⟨a,c,rfl,_,_⟩:=ho.byt.shape
 exact⟨a,c,rfl,ho,hB⟩
set_option maxHeartbeats 6400000 in
theorem zeM (n:Nat) (w:Xe) (i:IdV) (t:Tr (n+1)) (b c d e:Xf) (hrd:RdNode (n+1) w [.int .i64 t.kind,b,c,d,e] t) (hsz:szT (n+1) t<=2097152) :
  Calls Tryz.prog 86 #[zaq i,.agg #[.int .i64 t.kind,b,c,d,e]] w fun e w'=>∃p2 k2 p3 k3 p4 k4 Fa,e=.returned (.agg #[.int .i64 i.1,.int .i64 i.2,.int .i64 0,.int .i64 0,.slice none 0 0,.int .i64 t.kind,.slice p2 t.name.length k2,.slice p3 t.text.length k3,.slice p4 t.attrs.length k4])∧
   Own w' 0 (.slice p2 t.name.length k2) t.name∧Own w' 0 (.slice p3 t.text.length k3) t.text∧OwAttrs w' (.slice p4 t.attrs.length k4) t.attrs Fa∧(FB (.slice p2 t.name.length k2)++FB (.slice p3 t.text.length k3)++Fa).Nodup∧(∀q∈FB (.slice p2 t.name.length k2)++FB (.slice p3 t.text.length k3)++Fa,w.heap.size<=q)∧Below w.heap.size w w':=by
 refine zaf ?_
 intro Q HQ
 have hA:Below w.heap.size w (((w.alloc (.cells #[.int .i64 i.1,.int .i64 i.2] 81)).alloc (.cells #[.int .i64 t.kind,b,c,d,e] 37)).alloc (.cells #[.int .i64 0,.int .i64 0,.int .i64 0,.int .i64 0,.slice none 0 0,.int .i64 0,.slice none 0 0,.slice none 0 0,.slice none 0 0] 117)):=zad (zad ((Below.refl _ _).alloc (Nat.le_refl _) _) ((Below.refl _ _).alloc (Nat.le_refl _) _)) ((Below.refl _ _).alloc (Nat.le_refl _) _)
 have l0:=((Loc.made w #[.int .i64 i.1,.int .i64 i.2] 81).alloc (.cells #[.int .i64 t.kind,b,c,d,e] 37)).alloc (.cells #[.int .i64 0,.int .i64 0,.int .i64 0,.int .i64 0,.slice none 0 0,.int .i64 0,.slice none 0 0,.slice none 0 0,.slice none 0 0] 117)
 have l1:=(Loc.made (w.alloc (.cells #[.int .i64 i.1,.int .i64 i.2] 81)) #[.int .i64 t.kind,b,c,d,e] 37).alloc (.cells #[.int .i64 0,.int .i64 0,.int .i64 0,.int .i64 0,.slice none 0 0,.int .i64 0,.slice none 0 0,.slice none 0 0,.slice none 0 0] 117)
 have l2:=Loc.made ((w.alloc (.cells #[.int .i64 i.1,.int .i64 i.2] 81)).alloc (.cells #[.int .i64 t.kind,b,c,d,e] 37)) #[.int .i64 0,.int .i64 0,.int .i64 0,.int .i64 0,.slice none 0 0,.int .i64 0,.slice none 0 0,.slice none 0 0,.slice none 0 0] 117
 simp only [World.size_alloc]at l1 l2
 have hs1:((((w.alloc (.cells #[.int .i64 i.1,.int .i64 i.2] 81)).alloc (.cells #[.int .i64 t.kind,b,c,d,e] 37)).alloc (.cells #[.int .i64 0,.int .i64 0,.int .i64 0,.int .i64 0,.slice none 0 0,.int .i64 0,.slice none 0 0,.slice none 0 0,.slice none 0 0] 117))).heap.size=w.heap.size+3:=by simp
 have HC:=hide (zev n (((w.alloc (.cells #[.int .i64 i.1,.int .i64 i.2] 81)).alloc (.cells #[.int .i64 t.kind,b,c,d,e] 37)).alloc (.cells #[.int .i64 0,.int .i64 0,.int .i64 0,.int .i64 0,.slice none 0 0,.int .i64 0,.slice none 0 0,.slice none 0 0,.slice none 0 0] 117)) (.int .i64 t.kind) b c d e t (hrd.keep hA) hsz)
 have x0:=l1.cell 0
 have x1:=l1.cell 1
 have x2:=l1.cell 2
 have x3:=l1.cell 3
 have x4:=l1.cell 4
 have LL:=hide (And.intro hA (And.intro l0 (And.intro l1 (And.intro l2 hs1))))
 obtain⟨b',c',d',e',eC,_,_,hb,hc,hd,he⟩:=hrd
 simp only [List.cons.injEq,and_true,true_and]at eC
 obtain⟨rfl,rfl,rfl,rfl⟩:=eC
 obtain⟨_,_,rfl,_⟩:=hb.shape
 obtain⟨_,_,rfl,_⟩:=hc.shape
 obtain⟨_,_,rfl,_⟩:=Elems.shape hd
 obtain⟨_,_,rfl,_⟩:=Elems.shape he
 clear hA l0 l1 l2 hs1 hb hc hd he hsz
 unfold zaq
 go_enter Tryz.func86,Tryz.ntmps86
 go_wp2_with fail
 refine (zaa HC).mono ?_
 rintro e w2 ⟨p2,k2,p3,k3,p4,k4,rfl,Fa,o2,o3,o4,hnd,hrg,hb2⟩
 obtain⟨hA,l0,l1,l2,hs1⟩:=zaa LL
 have m0:=l0.all hb2
 have m1:=l1.all hb2
 have m2:=l2.all hb2
 have hB2:=zad hA hb2
 clear HC LL l0 l1 l2 hA x0 x1 x2 x3 x4
 have x0:=m1.cell 0
 have x1:=m1.cell 1
 have x2:=m1.cell 2
 have x3:=m1.cell 3
 have x4:=m1.cell 4
 have xf0:=m1.frozen 0
 have xf1:=m1.frozen 1
 have xf2:=m1.frozen 2
 have xf3:=m1.frozen 3
 have xf4:=m1.frozen 4
 obtain⟨n1,f1⟩:=zbB m1 (.int .i64 t.kind) (.slice p2 t.name.length k2) (.slice p3 t.text.length k3) (.slice p4 t.attrs.length k4) (.slice none 0 0)
 have n0:=m0.frm f1 (by simp)
 have n2:=m2.frm f1 (by simp)
 have hrg':∀q∈FB (.slice p2 t.name.length k2)++FB (.slice p3 t.text.length k3)++Fa,w.heap.size+3<=q:=fun q hq=>by have:=(hrg q hq).1;omega
 have hB3:=hB2.trans (f1.below hB2.size (fun q hq=>by have e9:q=w.heap.size+1:=(by simpa using hq);omega))
 have q2:=o2.frm f1 (fun q hq e9=>by have e9:q=w.heap.size+1:=(by simpa using e9);have:=hrg' q (by simp [hq]);omega)
 have q3:=o3.frm f1 (fun q hq e9=>by have e9:q=w.heap.size+1:=(by simpa using e9);have:=hrg' q (by simp [hq]);omega)
 have q4:=OwAttrs.frm o4 f1 (fun q hq e9=>by have e9:q=w.heap.size+1:=(by simpa using e9);have:=hrg' q (by simp [hq]);omega)
 have HK:=hide (And.intro n0 (And.intro n1 (And.intro n2 (And.intro hB3 (And.intro q2 (And.intro q3 (And.intro q4 (And.intro hnd hrg'))))))))
 clear m0 m1 m2 n0 n1 n2 f1 hB2 hB3 o2 o3 o4 q2 q3 q4 hnd hrg hrg' hb2 hs1
 go_upto_region 2 with fail
 obtain⟨n0,n1,n2,hB3,q2,q3,q4,hnd,hrg'⟩:=zaa HK
 clear HK x0 x1 x2 x3 x4 xf0 xf1 xf2 xf3 xf4
 generalize (((((w2.setCell ⟨w.heap.size+1,0,none⟩ (.int .i64 t.kind)).setCell ⟨w.heap.size+1,1,none⟩ (.slice p2 t.name.length k2)).setCell ⟨w.heap.size+1,2,none⟩ (.slice p3 t.text.length k3)).setCell ⟨w.heap.size+1,3,none⟩ (.slice p4 t.attrs.length k4)).setCell ⟨w.heap.size+1,4,none⟩ (.slice none 0 0))=w3 at *
 have i0:=n0.cell 0
 have i1:=n0.cell 1
 have x0:=n1.cell 0
 have x1:=n1.cell 1
 have x2:=n1.cell 2
 have x3:=n1.cell 3
 have z0:=n2.cell 0
 have z1:=n2.cell 1
 have z2:=n2.cell 2
 have z3:=n2.cell 3
 have z4:=n2.cell 4
 have z5:=n2.cell 5
 have z6:=n2.cell 6
 have z7:=n2.cell 7
 have z8:=n2.cell 8
 have y0:=n2.frozen 0
 have y1:=n2.frozen 1
 have y2:=n2.frozen 2
 have y3:=n2.frozen 3
 have y4:=n2.frozen 4
 have y5:=n2.frozen 5
 have y6:=n2.frozen 6
 have y7:=n2.frozen 7
 have y8:=n2.frozen 8
 obtain⟨r1,f2⟩:=zkZ n2 (.int .i64 i.1) (.int .i64 i.2) (.int .i64 0) (.int .i64 0) (.slice none 0 0) (.int .i64 t.kind) (.slice p2 t.name.length k2) (.slice p3 t.text.length k3) (.slice p4 t.attrs.length k4)
 have hB4:=hB3.trans (f2.below hB3.size (fun q hq=>by have e9:q=w.heap.size+2:=(by simpa using hq);omega))
 have s2:=q2.frm f2 (fun q hq e9=>by have e9:q=w.heap.size+2:=(by simpa using e9);have:=hrg' q (by simp [hq]);omega)
 have s3:=q3.frm f2 (fun q hq e9=>by have e9:q=w.heap.size+2:=(by simpa using e9);have:=hrg' q (by simp [hq]);omega)
 have s4:=OwAttrs.frm q4 f2 (fun q hq e9=>by have e9:q=w.heap.size+2:=(by simpa using e9);have:=hrg' q (by simp [hq]);omega)
 have HE:=hide (And.intro r1 (zaa HQ (.returned (.agg #[.int .i64 i.1,.int .i64 i.2,.int .i64 0,.int .i64 0,.slice none 0 0,.int .i64 t.kind,.slice p2 t.name.length k2,.slice p3 t.text.length k3,.slice p4 t.attrs.length k4])) _ ⟨p2,k2,p3,k3,p4,k4,Fa,rfl,s2,s3,s4,hnd,fun q hq=>by have:=hrg' q hq;omega,hB4⟩))
 clear n0 n1 n2 r1 f2 hB3 hB4 q2 q3 q4 s2 s3 s4 hnd hrg' HQ
 go_wp2_with fail
 have E:=(zaa HE).1
 have e0:=E.cell 0
 have e1:=E.cell 1
 have e2:=E.cell 2
 have e3:=E.cell 3
 have e4:=E.cell 4
 have e5:=E.cell 5
 have e6:=E.cell 6
 have e7:=E.cell 7
 have e8:=E.cell 8
 exact bodyPost_ret (v:=.agg #[.int .i64 i.1,.int .i64 i.2,.int .i64 0,.int .i64 0,.slice none 0 0,.int .i64 t.kind,.slice p2 t.name.length k2,.slice p3 t.text.length k3,.slice p4 t.attrs.length k4]) (by simp [results,Tryz.results86,go_sem,e0,e1,e2,e3,e4,e5,e6,e7,e8]) rfl (zaa HE).2
end Go.Proofs.YtlpnibbdmkeklaaGreatDoor
namespace Go.Proofs.YtlpnibbdmkeklaaGreatDoor
open Go.RowKit
set_option linter.unusedVariables false
set_option maxRecDepth 100000
theorem zpP (w:Xe) (n r:Int):Calls Tryz.prog 55 #[.agg #[.int .i64 n,.int .i64 r]] w fun e w'=>e=.returned (.bool (idB n r))∧Below w.heap.size w w':=
 (zek w n r).mono fun e w' ⟨h1,h2⟩=>⟨h1,by rw [h2];exact ((Below.refl _ _).alloc (Nat.le_refl _) _).alloc (by simp) _⟩
theorem zsc {l:List PlV} (h:l.length<2∨272<l.length):stB l=false:=by
 rw [zgy]
 unfold stI
 rcases h with h | h
 ·rw [decide_eq_false (show ¬ 2<=l.length by omega)];simp
 ·rw [decide_eq_false (show ¬ l.length<=272 by omega)];simp
theorem zsv {l:List PlV} {i:Nat} {p:PlV} (hp:l[i]? = some p) (h:newB l i p=false):stB l=false:=by
 rw [zgy]
 unfold stI
 rw [zhl hp h]
 simp
theorem zpV {l:List PlV} (h:(topI l 0 zak && topI l 1 zag)=false):stB l=false:=by
 rw [zgy]
 unfold stI
 rw [Bool.and_assoc (decide (2<=l.length) && decide (l.length<=272) && zbl l (newB l)),h]
 simp
theorem zmL {l:List PlV} (h:(zbl l (zbu l) && zbl l (zbx l))=false):stB l=false:=by
 rw [zgy]
 unfold stI
 rw [Bool.and_assoc _ (zbl l (zbu l)),h]
 simp
theorem zry {l:List PlV} (h2:2<=l.length) (hm:l.length<=272) (hn:∀i p,l[i]? = some p->newB l i p=true) (ht:(topI l 0 zak && topI l 1 zag)=true) (ho:(zbl l (zbu l) && zbl l (zbx l))=true):stB l=true:=by
 rw [zgy]
 unfold stI
 rw [Bool.and_eq_true]at ht ho
 rw [decide_eq_true h2,decide_eq_true hm,(zbj l _).2 hn,ht.1,ht.2,ho.1,ho.2]
 rfl
theorem zib {l:List PlV} {i:Nat} {id:IdV} (h:topI l i id=true):∀p,l[i]? = some p->p.id=id:=fun p hp=>by
 rw [zil hp]at h
 simp only [Bool.and_eq_true,decide_eq_true_eq]at h
 exact h.1.1.1
theorem FoQ.lt7 {w0 w:Xe} {g mb:Nat} {a:Xc} {c:Nat} {l:List PlV} {F:Xb} (h:FoQ w0 w g mb a c l F):∀q∈g::mb::F,q<w.heap.size:=fun q hq=>by
 rcases List.mem_cons.1 hq with rfl | hq
 ·exact h.set.lt
 ·rcases List.mem_cons.1 hq with rfl | hq
  ·exact h.map.lt
  ·exact PlsQ.lt h.row q hq
theorem zpG {w w':Xe} {b off i:Nat} {p:PlV} {k n t q:Xc} {ck cn ct cq:Nat} (hb:Below w.heap.size w w') (hbl:b<w.heap.size) (h:∃C:Xd,C.length=9∧(∀j,j<9->w.cell? ⟨b,off+i*9+j,none⟩=C[j]?)∧RdPlC w C p)
  (e4:w'.cell? ⟨b,off+i*9+4,none⟩=some (.slice k p.key.length ck)) (e6:w'.cell? ⟨b,off+i*9+6,none⟩=some (.slice n p.name.length cn)) (e7:w'.cell? ⟨b,off+i*9+7,none⟩=some (.slice t p.text.length ct)) (e8:w'.cell? ⟨b,off+i*9+8,none⟩=some (.slice q p.attrs.length cq)):Ints w (.slice k p.key.length ck) p.key∧Byt w (.slice n p.name.length cn) p.name∧Byt w (.slice t p.text.length ct) p.text∧RdAttrs w (.slice q p.attrs.length cq) p.attrs:=by
 refine⟨?_,zhn hb hbl h e4 e6 e7 e8⟩
 obtain⟨C,_,hc,K,N,X,A,rfl,h1,h2,h3,h4⟩:=h
 have f4:=(hb.cell (p:=⟨b,off+i*9+4,none⟩) hbl).trans (hc 4 (by omega))
 rw [e4]at f4
 injection f4 with f4
 rw [f4]
 exact h1
theorem FoQ.new {B:Nat} {w0 w:Xe} {g mb:Nat} (h:FoS B w g mb none 0 [] []) (hB:w0.heap.size<=B):FoQ w0 w g mb none 0 [] []:=
 ⟨h.set,h.map,OwElems.naught _ _ _ _,List.nodup_nil,fun q hq=>(by cases hq),by have:=h.geg;omega,by have:=h.gem;omega,fun p hp=>(by cases hp),by simp⟩
set_option maxHeartbeats 12800000 in
theorem zrx (w:Xe) (a:Xc) (c:Nat) (l:List PlV) (h:RdPls w (.slice a l.length c) l) (hK:∀p∈l,-9223372036854775808<=p.kind∧p.kind<=9223372036854775807) (hI:∀p∈l,okI p.id∧okI p.par) (hG:Glo w) :
  Calls Tryz.prog 23 #[.agg #[.slice a l.length c]] w fun e w'=>PjA w l e w':=by
 refine zaf ?_
 intro Q HQ
 have ls:=(Loc.made w #[.slice a l.length c] 58).alloc (.cells #[.int .i64 0,.slice none 0 0,.slice none 0 0,.slice none 0 0,.slice none 0 0] 37)
 have lr:=Loc.made (w.alloc (.cells #[.slice a l.length c] 58)) #[.int .i64 0,.slice none 0 0,.slice none 0 0,.slice none 0 0,.slice none 0 0] 37
 have hA:Below w.heap.size w ((w.alloc (.cells #[.slice a l.length c] 58)).alloc (.cells #[.int .i64 0,.slice none 0 0,.slice none 0 0,.slice none 0 0,.slice none 0 0] 37)):=((Below.refl _ _).alloc (Nat.le_refl _) _).alloc (by simp) _
 simp only [World.size_alloc]at lr
 have hs2:((w.alloc (.cells #[.slice a l.length c] 58)).alloc (.cells #[.int .i64 0,.slice none 0 0,.slice none 0 0,.slice none 0 0,.slice none 0 0] 37)).heap.size=w.heap.size+2:=by simp
 have HX:=hide (And.intro ls (And.intro lr (And.intro hA (And.intro (h.keep hA) (And.intro (hG.keep hA) hs2)))))
 have x0:=ls.cell 0
 simp at x0
 have hgl:2<=w.heap.size:=by have:=zaJ hG.2.2.1;exact this
 clear ls lr hA h hG hs2
 by_cases hsh:l.length<2∨272<l.length
 ·have hst:=zsc hsh
  obtain⟨ls,lr,hA,-,-,-⟩:=zaa HX
  have HR:=hide (And.intro lr hA)
  clear HX lr ls hA
  have d2:decide ((l.length:Int)<2)=decide (l.length<2):=by congr 1;simp;omega
  obtain⟨lr,hA⟩:=zaa HR
  have HE:=hide (zaa HQ _ _ (PjA.no hst hA))
  rcases hsh with hsh | hsh
  ·have e2:(l.length:Int)<2:=by omega
   clear d2 hst hK hI HR lr hA
   go_enter Tryz.func23,Tryz.ntmps23
   go_wp2_with fail
   exact bodyPost_ret (v:=.tuple #[.agg #[.int .i64 0,.slice none 0 0,.slice none 0 0,.slice none 0 0,.slice none 0 0],.bool false]) (by simp [results,Tryz.results23,go_sem]) rfl (zaa HE)
  ·have e2:¬ (l.length:Int)<2:=by omega
   have e3:(272:Int)<(l.length:Int):=by omega
   clear d2 hst hK hI HR lr hA
   go_enter Tryz.func23,Tryz.ntmps23
   go_wp2_with fail
   exact bodyPost_ret (v:=.tuple #[.agg #[.int .i64 0,.slice none 0 0,.slice none 0 0,.slice none 0 0,.slice none 0 0],.bool false]) (by simp [results,Tryz.results23,go_sem]) rfl (zaa HE)
 have hn2:¬ (l.length:Int)<2:=by omega
 have hn3:¬ (272:Int)<(l.length:Int):=by omega
 have hle2:2<=l.length:=by omega
 have hle3:l.length<=272:=by omega
 clear hsh
 go_enter Tryz.func23,Tryz.ntmps23
 go_wp2_with fail
 obtain⟨ls,lr,hA,h,hG,hs2⟩:=zaa HX
 have HKK:=hide hK
 have HII:=hide hI
 clear HX hK hI
 generalize ((w.alloc (.cells #[.slice a l.length c] 58)).alloc (.cells #[.int .i64 0,.slice none 0 0,.slice none 0 0,.slice none 0 0,.slice none 0 0] 37))=w2 at *
 refine (zfC w2).mono ?_
 rintro e w3 ⟨rfl,hS,hb3⟩
 have hq3:FoQ w2 w3 (w2.heap.size+1) w2.heap.size none 0 [] []:=FoQ.new hS (Nat.le_refl _)
 clear hS
 obtain⟨g,hg⟩:∃g,g=w2.heap.size+1:=⟨_,rfl⟩
 rw [<-hg]at hq3 ⊢
 obtain⟨mb,hmb⟩:∃mb,mb=w2.heap.size:=⟨_,rfl⟩
 rw [<-hmb]at hq3
 have x3:=(ls.all hb3).cell 0
 simp at x3
 have HX:=hide (And.intro ls (And.intro lr (And.intro hA (And.intro h (And.intro hG (And.intro hq3 hb3))))))
 have hs2':w.heap.size+2<=w2.heap.size:=by omega
 clear x0 ls lr hA h hG hq3 hb3 hmb hs2 hg
 go_wp2_with fail
 obtain⟨ls,lr,hA,h,hG,hq3,hb3⟩:=zaa HX
 clear HX x3
 obtain⟨h0_,_⟩ | ⟨b,off,cap,hv,_,hbl,hel⟩:=h.cases
 ·rw [h0_]at hle2;simp at hle2
 cases hv
 have hgm:g<w3.heap.size:=hq3.set.lt
 have hgw:w2.heap.size<=g:=hq3.geg
 have HEL:=hide hel
 clear hel h ls
 go_loopw [23] (fun i wr=>∃(j:Nat) (a':Xc) (c':Nat) (F':Xb),j<=l.length∧i=.int .i64 (j:Int)∧(∀i p,i<j->l[i]? = some p->newB l i p=true)∧FoQ w2 wr g mb a' c' (l.take j) F'∧Below w2.heap.size w2 wr) (fun i _=>l.length-(intOf i).toNat)
 case atStart=>exact⟨0,none,0,[],Nat.zero_le _,rfl,fun i p hi=>by omega,hq3,hb3⟩
 case round=>
  obtain⟨j,a',c',F',hj,rfl,hok,hq,hb⟩:=hrel
  replace hA:=hA.trans (hb.mono (by omega))
  have HGG:=hide hG
  have HQ3:=hide (And.intro hq3 hb3)
  clear hq3 hb3
  replace lr:=lr.all hb
  clear hG
  by_cases hlt:j<l.length
  ·obtain⟨k0,ck0,n0,cn0,t0,ct0,q0,cq0,e0,e1,e2,e3,e4,e5,e6,e7,e8,hrd⟩:=zkI hb hbl (zaa HEL j hlt)
   have hro:=zpG hb hbl (zaa HEL j hlt) e4 e6 e7 e8
   have hp:l[j]? = some l[j]:=by simp [hlt]
   have hKj:=zaa HKK l[j] (List.getElem_mem _)
   have hIj:=zaa HII l[j] (List.getElem_mem _)
   have hst1:=fun (hh:newB l j l[j]=false)=>zsv hp hh
   have hnx:newB l j l[j]=true->∀i p,i<j+1->l[i]? = some p->newB l i p=true:=fun hh i p hi hq=>by
    rcases Nat.lt_succ_iff_lt_or_eq.1 hi with h1 | h1
    ·exact hok i p h1 hq
    ·rw [h1,hp]at hq
     rw [h1]
     exact Option.some.inj hq ▸ hh
   have htk:l.take (j+1)=l.take j++[l[j]]:=List.take_succ_eq_append_getElem hlt
   have hnb:newB l j l[j]=(decide (posP (l.take j) l[j].id=none) && idB l[j].idN l[j].idR && zbe l[j]):=rfl
   clear hrd hok hp
   generalize l[j]=p at *
   have hlt':(j:Int)<(l.length:Int):=by omega
   have hj0:(0:Int)<=(j:Int):=by omega
   have hbw:b<wr.heap.size:=zaJ e0
   have lx:=Loc.made wr #[.int .i64 p.idN,.int .i64 p.idR,.int .i64 p.parN,.int .i64 p.parR,.slice k0 p.key.length ck0,.int .i64 p.kind,.slice n0 p.name.length cn0,.slice t0 p.text.length ct0,.slice q0 p.attrs.length cq0] 117
   have hx:Below wr.heap.size wr (wr.alloc (.cells #[.int .i64 p.idN,.int .i64 p.idR,.int .i64 p.parN,.int .i64 p.parR,.slice k0 p.key.length ck0,.int .i64 p.kind,.slice n0 p.name.length cn0,.slice t0 p.text.length ct0,.slice q0 p.attrs.length cq0] 117)):=(Below.refl _ _).alloc (Nat.le_refl _) _
   obtain⟨x0,x1,x2,x3,x4,x5,x6,x7,x8⟩:=zeu lx _ _ _ _ _ _ _ _ _ rfl
   have hqx:=hq.keep hx
   have hAx:=zad hA hx
   have hbx:=zad hb hx
   have lrx:=lr.all hx
   have HX:=hide (And.intro hqx (And.intro hAx (And.intro hbx (And.intro lrx (And.intro lx (And.intro hro (And.intro hKj hIj)))))))
   have HN:=hide (And.intro hst1 (And.intro hnx (And.intro htk hnb)))
   have HFD:=hide (zcg hqx p.id hIj.1)
   clear hq hA hb lr lx hx hqx hAx hbx lrx hro hKj hIj hst1 hnx htk hnb
   unfold zaq at HFD
   go_wp2_with fail
   clear e0 e1 e2 e3 e4 e5 e6 e7 e8
   obtain⟨hq,hA,hb,lr,lx,hro,hKj,hIj⟩:=zaa HX
   obtain⟨hst1,hnx,htk,hnb⟩:=zaa HN
   clear HX HN
   generalize (wr.alloc (.cells #[.int .i64 p.idN,.int .i64 p.idR,.int .i64 p.parN,.int .i64 p.parR,.slice k0 p.key.length ck0,.int .i64 p.kind,.slice n0 p.name.length cn0,.slice t0 p.text.length ct0,.slice q0 p.attrs.length cq0] 117))=wx at *
   refine (zaa HFD).mono ?_
   rintro e w5 ⟨hf0,hf1,hb5⟩
   clear HFD
   replace hq:=hq.keep hb5
   replace hA:=zad hA hb5
   replace hb:=zad hb hb5
   replace lr:=lr.all hb5
   replace lx:=lx.all hb5
   clear x0 x1 x2 x3 x4 x5 x6 x7 x8 hb5
   cases hpos:posP (l.take j) p.id with
   | some k=>
    obtain⟨gr,-,rfl⟩:=hf1 k hpos
    have hst:=hst1 (by rw [hnb,hpos];simp)
    clear hnx htk hnb hq hro lx hpos hf0 hf1 hb hst1
    obtain⟨z0,z1,z2,z3,z4⟩:=lr.five
    have i0_:=lr.frozen 0
    have i1_:=lr.frozen 1
    have i2_:=lr.frozen 2
    have i3_:=lr.frozen 3
    have i4_:=lr.frozen 4
    obtain⟨lX,fX⟩:=zbB lr (.int .i64 0) (.slice none 0 0) (.slice none 0 0) (.slice none 0 0) (.slice none 0 0)
    have HE:=hide (zaa HQ _ _ (PjA.no hst (hA.trans (fX.below hA.size (fun q hq=>by simp at hq;omega)))))
    clear lX fX hst lr hA
    go_wp2_with fail
    exact bodyPost_ret (v:=.tuple #[.agg #[.int .i64 0,.slice none 0 0,.slice none 0 0,.slice none 0 0,.slice none 0 0],.bool false]) (by simp [results,Tryz.results23,go_sem,z0,z1,z2,z3,z4]) rfl (zaa HE)
   | none=>
    obtain rfl:=hf0 hpos
    rw [hpos,show decide ((none:Option Nat)=none)=true from rfl,Bool.true_and]at hnb
    obtain⟨x0,x1,x2,x3,x4,x5,x6,x7,x8⟩:=zeu lx _ _ _ _ _ _ _ _ _ rfl
    have HX:=hide (And.intro hq (And.intro hA (And.intro hb (And.intro lr (And.intro lx (And.intro hro (And.intro hKj hIj)))))))
    have HN:=hide (And.intro hst1 (And.intro hnx (And.intro htk (And.intro hnb hpos))))
    clear hq hA hb lr lx hro hKj hIj hst1 hnx htk hnb hpos hf0 hf1
    go_wp2_with fail
    refine (zpP _ p.idN p.idR).mono ?_
    rintro e w6 ⟨rfl,hb6⟩
    obtain⟨hq,hA,hb,lr,lx,hro,hKj,hIj⟩:=zaa HX
    obtain⟨hst1,hnx,htk,hnb,hpos⟩:=zaa HN
    clear HX HN x0 x1 x2 x3 x4 x5 x6 x7 x8
    replace hq:=hq.keep hb6
    replace hA:=zad hA hb6
    replace hb:=zad hb hb6
    replace lr:=lr.all hb6
    replace lx:=lx.all hb6
    clear hb6
    cases hid:idB p.idN p.idR with
    | false=>
     have hst:=hst1 (by rw [hnb,hid,Bool.false_and])
     clear hnx htk hnb hq hro lx hpos hb hst1 hid
     obtain⟨z0,z1,z2,z3,z4⟩:=lr.five
     have i0_:=lr.frozen 0
     have i1_:=lr.frozen 1
     have i2_:=lr.frozen 2
     have i3_:=lr.frozen 3
     have i4_:=lr.frozen 4
     obtain⟨lX,fX⟩:=zbB lr (.int .i64 0) (.slice none 0 0) (.slice none 0 0) (.slice none 0 0) (.slice none 0 0)
     have HE:=hide (zaa HQ _ _ (PjA.no hst (hA.trans (fX.below hA.size (fun q hq=>by simp at hq;omega)))))
     clear lX fX hst lr hA
     skip
     go_wp2_with fail
     exact bodyPost_ret (v:=.tuple #[.agg #[.int .i64 0,.slice none 0 0,.slice none 0 0,.slice none 0 0,.slice none 0 0],.bool false]) (by simp [results,Tryz.results23,go_sem,z0,z1,z2,z3,z4]) rfl (zaa HE)
    | true=>
     rw [hid,Bool.true_and]at hnb
     obtain⟨x0,x1,x2,x3,x4,x5,x6,x7,x8⟩:=zeu lx _ _ _ _ _ _ _ _ _ rfl
     have HX:=hide (And.intro hq (And.intro hA (And.intro hb (And.intro lr (And.intro lx (And.intro hro (And.intro hKj hIj)))))))
     have HN:=hide (And.intro hst1 (And.intro hnx (And.intro htk (And.intro hnb hpos))))
     clear hq hA hb lr lx hro hKj hIj hst1 hnx htk hnb hpos hid
     go_wp2_with fail
     refine (zft _ p k0 n0 t0 q0 ck0 cn0 ct0 cq0).mono ?_
     rintro e w7 ⟨rfl,hb7⟩
     go_wp2_with fail
     obtain⟨hq,hA,hb,lr,lx,hro,hKj,hIj⟩:=zaa HX
     obtain⟨hst1,hnx,htk,hnb,hpos⟩:=zaa HN
     clear HX HN x0 x1 x2 x3 x4 x5 x6 x7 x8
     replace hb:=zad hb hb7
     refine (zoz w2 w7 p n0 t0 q0 cn0 ct0 cq0 hro.2.1 hro.2.2.1 hro.2.2.2 hb hKj).mono ?_
     rintro e w8 ⟨rfl,hb8⟩
     have hb78:=zad hb7 hb8
     replace hq:=hq.keep hb78
     replace hA:=zad hA hb78
     replace hb:=zad hb hb8
     replace lr:=lr.all hb78
     replace lx:=lx.all hb78
     rw [<-hnb]
     clear hb7 hb8 hb78
     cases hnv:newB l j p with
     | false=>
      have hst:=hst1 hnv
      clear hnx htk hnb hq hro lx hpos hb hst1 hnv
      obtain⟨z0,z1,z2,z3,z4⟩:=lr.five
      have i0_:=lr.frozen 0
      have i1_:=lr.frozen 1
      have i2_:=lr.frozen 2
      have i3_:=lr.frozen 3
      have i4_:=lr.frozen 4
      obtain⟨lX,fX⟩:=zbB lr (.int .i64 0) (.slice none 0 0) (.slice none 0 0) (.slice none 0 0) (.slice none 0 0)
      have HE:=hide (zaa HQ _ _ (PjA.no hst (hA.trans (fX.below hA.size (fun q hq=>by simp at hq;omega)))))
      clear lX fX hst lr hA
      skip
      go_wp2_with fail
      exact bodyPost_ret (v:=.tuple #[.agg #[.int .i64 0,.slice none 0 0,.slice none 0 0,.slice none 0 0,.slice none 0 0],.bool false]) (by simp [results,Tryz.results23,go_sem,z0,z1,z2,z3,z4]) rfl (zaa HE)
     | true=>
      obtain⟨x0,x1,x2,x3,x4,x5,x6,x7,x8⟩:=zeu lx _ _ _ _ _ _ _ _ _ rfl
      have hlj:(l.take j).length=j:=by rw [List.length_take];omega
      have HAD:=hide (zqB hq p k0 n0 t0 q0 ck0 cn0 ct0 cq0 [] ⟨⟨_,_,_,_,rfl,hro.1,hro.2.1,hro.2.2.1,hro.2.2.2⟩,rfl⟩ List.nodup_nil (fun q hq=>(by cases hq)) (fun q hq=>by simp) hIj.1 hIj.2 hpos (by omega))
      have hFg:=hq.ge
      have hgg:=hq.geg
      have hgm2:=hq.gem
      have HX:=hide (And.intro hA (And.intro hb (hnx hnv)))
      have HTK:=hide htk
      have HFG:=hide hFg
      clear hq hA hb lr lx hro hKj hIj hst1 hnx htk hnb hpos hnv hFg hlj
      go_wp2_with fail
      refine (zaa HAD).mono ?_
      rintro e w9 ⟨rfl,a9,c9,F9,hq9,hf9,-⟩
      obtain⟨hA,hb,hnx⟩:=zaa HX
      rw [<-zaa HTK]at hq9
      have hb9:Below w2.heap.size w2 w9:=hb.trans (hf9.below hb.size (fun q hq=>by
       rcases List.mem_cons.1 hq with rfl | hq
       ·exact hgg
       ·rcases List.mem_cons.1 hq with rfl | hq
        ·exact hgm2
        ·exact zaa HFG q hq))
      have HE:=hide (And.intro hq9 (And.intro hb9 hnx))
      clear HX HAD hA hb hnx hq9 hf9 hb9 x0 x1 x2 x3 x4 x5 x6 x7 x8
      go_wp2_with fail
      go_roundw
      case rel=>exact⟨j+1,a9,c9,F9,by omega,by go_num,(zaa HE).2.2,(zaa HE).1,(zaa HE).2.1⟩
      case measure=>simp [intOf];omega
  ·have hnl:¬ (j:Int)<(l.length:Int):=by omega
   have hnew:∀i p,l[i]? = some p->newB l i p=true:=fun i p hp=>hok i p (by have:=(List.getElem?_eq_some_iff.1 hp).1;omega) hp
   rw [List.take_of_length_le (by omega)]at hq
   have hu:(l.map PlV.id).Nodup:=zdr (fun i p hp=>zhM (fun i p hp=>by
    have:=hnew i p hp
    unfold newB at this
    simp only [Bool.and_eq_true,decide_eq_true_eq]at this
    exact this.1.1) hp)
   obtain⟨gr,rfl,-⟩:=hq.at (by omega)
   have hGr:=((zaa HGG).keep hb)
   have hTP:=zmM hq hb hGr hle2
   have HTP:=hide hTP
   have HX:=hide (And.intro hq (And.intro hA (And.intro hb (And.intro lr (And.intro hGr (And.intro hnew hu))))))
   clear hq hA hb lr hGr hnew hu hok hTP
   go_wp2_with fail
   refine (zaa HTP).mono ?_
   rintro e w5 ⟨rfl,hq,hf5⟩
   obtain⟨hq_,hA,hb,lr,hGr,hnew,hu⟩:=zaa HX
   have hgg:=hq_.geg
   clear hq_ HTP HX
   replace hb:=hb.trans (hf5.below hb.size (fun q hq=>by simp at hq;omega))
   replace hA:=hA.trans (hf5.below hA.size (fun q hq=>by simp at hq;omega))
   replace lr:=lr.frm hf5 (by simp;omega)
   replace hGr:=hGr.frm hf5 (fun q hq=>by simp at hq;omega)
   clear hf5
   cases htp:(topI l 0 zak && topI l 1 zag)with
   | false=>
    have hst:=zpV htp
    clear hq hb hGr hnew hu htp
    obtain⟨z0,z1,z2,z3,z4⟩:=lr.five
    have i0_:=lr.frozen 0
    have i1_:=lr.frozen 1
    have i2_:=lr.frozen 2
    have i3_:=lr.frozen 3
    have i4_:=lr.frozen 4
    obtain⟨lX,fX⟩:=zbB lr (.int .i64 0) (.slice none 0 0) (.slice none 0 0) (.slice none 0 0) (.slice none 0 0)
    have HE:=hide (zaa HQ _ _ (PjA.no hst (hA.trans (fX.below hA.size (fun q hq=>by simp at hq;omega)))))
    clear lX fX hst lr hA
    skip
    go_wp2_with fail
    exact bodyPost_ret (v:=.tuple #[.agg #[.int .i64 0,.slice none 0 0,.slice none 0 0,.slice none 0 0,.slice none 0 0],.bool false]) (by simp [results,Tryz.results23,go_sem,z0,z1,z2,z3,z4]) rfl (zaa HE)
   | true=>
    have htp':=htp
    rw [Bool.and_eq_true]at htp'
    have HOT:=hide (zjS hq hb hGr hle2 (by omega) (zib htp'.1) (zib htp'.2) hu)
    have HX:=hide (And.intro hq (And.intro hA (And.intro hb (And.intro lr (And.intro hGr (And.intro hnew (And.intro hu (And.intro htp (zib htp'.1)))))))))
    clear hq hA hb lr hGr hnew hu htp htp'
    go_wp2_with fail
    refine (zaa HOT).mono ?_
    rintro e w6 ⟨rfl,hq,hf5⟩
    obtain⟨hq_,hA,hb,lr,hGr,hnew,hu,htp,hroot⟩:=zaa HX
    clear hq_ HOT HX
    replace hb:=hb.trans (hf5.below hb.size (fun q hq=>by simp at hq;omega))
    replace hA:=hA.trans (hf5.below hA.size (fun q hq=>by simp at hq;omega))
    replace lr:=lr.frm hf5 (by simp;omega)
    replace hGr:=hGr.frm hf5 (fun q hq=>by simp at hq;omega)
    clear hf5
    cases hot:(zbl l (zbu l) && zbl l (zbx l))with
    | false=>
     have hst:=zmL hot
     clear hq hb hGr hnew hu htp hroot hot
     obtain⟨z0,z1,z2,z3,z4⟩:=lr.five
     have i0_:=lr.frozen 0
     have i1_:=lr.frozen 1
     have i2_:=lr.frozen 2
     have i3_:=lr.frozen 3
     have i4_:=lr.frozen 4
     obtain⟨lX,fX⟩:=zbB lr (.int .i64 0) (.slice none 0 0) (.slice none 0 0) (.slice none 0 0) (.slice none 0 0)
     have HE:=hide (zaa HQ _ _ (PjA.no hst (hA.trans (fX.below hA.size (fun q hq=>by simp at hq;omega)))))
     clear lX fX hst lr hA
     skip
     go_wp2_with fail
     exact bodyPost_ret (v:=.tuple #[.agg #[.int .i64 0,.slice none 0 0,.slice none 0 0,.slice none 0 0,.slice none 0 0],.bool false]) (by simp [results,Tryz.results23,go_sem,z0,z1,z2,z3,z4]) rfl (zaa HE)
    | true=>
     have hst:=zry hle2 hle3 hnew htp hot
     have hsm:=zkb hst
     have lp:=Loc.made w6 #[.int .i64 0] 3
     have h7:Below w6.heap.size w6 (w6.alloc (.cells #[.int .i64 0] 3)):=(Below.refl _ _).alloc (Nat.le_refl _) _
     have hp0:l[0]? = some l[0]:=by simp [show 0<l.length by omega]
     have hid0:=hroot _ hp0
     have hin:l[0].idN=0∧l[0].idR=0:=⟨(Prod.mk.inj hid0).1,(Prod.mk.inj hid0).2⟩
     have hHt:=hq.lt7
     have HTR:=hide (zjL 19 w2 (w6.alloc (.cells #[.int .i64 0] 3)) g mb gr c' l F' 0 l[0] 120 0 1 w6.heap.size (hq.keep h7) (zad hb h7) hle2 hu (zaa HKK) hsm (fun e=>by have:=hHt _ e;omega) hb.size lp (by omega) hp0 (by omega) (by omega) (by decide) (by omega))
     rw [hin.1,hin.2]at HTR
     obtain⟨y0,y1,-,-⟩:=hGr.keep h7
     have HX:=hide (And.intro hA (And.intro (lr.all h7) (And.intro h7 hst)))
     have hlr:=lr.lt
     clear hq hA hb lr hGr hnew hu htp hroot hot hsm lp h7 hp0 hid0 hin hst hHt
     go_wp2_with fail
     refine (zaa HTR).mono ?_
     rintro e w9 ⟨kd,a1,n1,c1,a2,n2,c2,a3,n3,c3,a4,n4,c4,rfl,G,hG,ndG,rG,-,hf9⟩
     obtain⟨hA,lr7,h7,hst⟩:=zaa HX
     have lr9:=lr7.frm hf9 (by simp;omega)
     have hA9:Below w.heap.size w w9:=(zad hA h7).trans (hf9.below (zad hA h7).size (fun q hq=>by simp at hq;have:=hA.size;omega))
     have s6:=h7.size
     have s60:=hA.size
     obtain⟨z0,z1,z2,z3,z4⟩:=lr9.five
     have i0_:=lr9.frozen 0
     have i1_:=lr9.frozen 1
     have i2_:=lr9.frozen 2
     have i3_:=lr9.frozen 3
     have i4_:=lr9.frozen 4
     obtain⟨lX,fX⟩:=zbB lr9 (.int .i64 kd) (.slice a1 n1 c1) (.slice a2 n2 c2) (.slice a3 n3 c3) (.slice a4 n4 c4)
     have hGX:=OwNode.frm hG fX (fun q hq=>by have:=(rG q hq).1;simp;omega)
     have hAX:=hA9.trans (fX.below hA9.size (fun q hq=>by simp at hq;omega))
     have HE:=hide (zaa HQ (.returned (.tuple #[.agg #[.int .i64 kd,.slice a1 n1 c1,.slice a2 n2 c2,.slice a3 n3 c3,.slice a4 n4 c4],.bool true])) _ ⟨kd,a1,n1,c1,a2,n2,c2,a3,n3,c3,a4,n4,c4,by rw [hst],G,by rw [zgq hst];exact hGX,ndG,rG.mono (by omega) fX.size,hAX⟩)
     clear lX fX hGX hAX lr9 hA9 rG hG lr7 h7 hA HX HTR hst hf9
     go_wp2_with fail
     exact bodyPost_ret (v:=.tuple #[.agg #[.int .i64 kd,.slice a1 n1 c1,.slice a2 n2 c2,.slice a3 n3 c3,.slice a4 n4 c4],.bool true]) (by simp [results,Tryz.results23,go_sem,z0,z1,z2,z3,z4]) rfl (zaa HE)
theorem zfB {P:Program} (w:Xe) (dT sT ty elem:Xg) (s g o dLen dCap:Nat) (a:Addr) (sLen sCap:Nat) (cur:Array Xf) (t:Xg) (cs:Xd) (n:Nat)
  (hu:P.underlying dT=some (.slice elem)) (hs:(P.info? elem).map (·.size)=some s) (hg:w.heap[g]? = some (.cells cur t (0,0))) (hn:n=Nat.min sLen dLen) (hcl:cs.length=n*s)
  (hsrc:∀j v,cs[j]? = some v->w.cell? (a.add j)=some v) (hfit:o+cs.length<=cur.size) (h1:∀v∈cs,v.oneCell'=true) :
  (Builtin.copy_ #[dT,sT] ty #[.slice (some ⟨g,o,none⟩) dLen dCap,.slice (some a) sLen sCap]).run P w=.ok (goInt n) (w.setRow g (cur.toList.take o++cs++cur.toList.drop (o+cs.length)).toArray):=by
 have hl:=run_loadCells_list (P:=P) w a cs hsrc
 have hst:=run_storeCells_at P g o t cs 0 cur w hg (by simpa using hfit) h1
 cases hq:P.info? elem with
 | none=>simp [hq]at hs
 | some i=>
  have hi:i.size=s:=by simpa [hq]using hs
  rw [hcl]at hl
  simp [Builtin.copy_,run_underlying hu,Builtin.lenOf,Builtin.firstCells,sizeOf,typeInfo,hq,hi,<-hn,hl,hst]
theorem zdZ (w:Xe) (g:Nat) (cs:Array Xf):Frm w (w.setRow g cs) [g]:=
 ⟨rfl,rfl,rfl,by simp [World.setRow],fun k _ hk=>setRow_other w g k cs (fun e=>hk (by simp [e]))⟩
theorem zfJ {P:Program} {w:Xe} {ops:Array Oper} {rest:List Oper} {o:Oper} {a:Act} {Q:Exit->Act->Xe->Prop} (hgd:o.guard=none) (d s:Operand) (dT sT:Xg)
  (ho:o.op=.call { callee:=.builtin .copy,args:= #[d,s],argTypes:= #[dT,sT] }) (elem:Xg) (size:Nat) (hu:P.underlying dT=some (.slice elem)) (hsz:(P.info? elem).map (·.size)=some size)
  (g off dLen dCap:Nat) (ad:Addr) (sLen sCap:Nat) (hd:a.eval d=.slice (some ⟨g,off,none⟩) dLen dCap) (hs:a.eval s=.slice (some ad) sLen sCap)
  (cur:Xd) (t:Xg) (hg:w.heap[g]? = some (.cells cur.toArray t (0,0))) (cs:Xd) (n:Nat) (hn:n=Nat.min sLen dLen) (hcl:cs.length=n*size)
  (hsrc:∀j v,cs[j]? = some v->w.cell? (ad.add j)=some v) (hfit:off+cs.length<=cur.length) (h1:∀v∈cs,v.oneCell'=true)
  (h:∀w',Hid (w'.heap[g]? = some (.cells (splice cur off cs).toArray t (0,0)))->Frm w w' [g]->wpList P ops Q rest (a.put o.dst (goInt n)) w'):wpList P ops Q (o::rest) a w:=by
 refine wpList_plain hgd fun K hK=> ?_
 have hrun:=zfB (P:=P) w dT sT o.type elem size g off dLen dCap ad sLen sCap cur.toArray t cs n hu hsz hg hn hcl hsrc (by simpa using hfit) h1
 unfold Oper.wp
 simp [execOp,ho,resolve,invoke,builtin,hd,hs,hrun,Result.andThen]
 exact hK _ _ (h _ (show _=_ by simpa [splice]using setRow_heap w g _ _ t _ hg) (zdZ _ _ _))
theorem zhU {P:Program} {w:Xe} {ops:Array Oper} {o:Oper} {a:Act} {K:Act->Xe->Prop} {Q:Exit->Act->Xe->Prop} {E:Prop} (hgd:o.guard=none) (d s:Operand) (dT sT:Xg)
  (ho:o.op=.call { callee:=.builtin .copy,args:= #[d,s],argTypes:= #[dT,sT] }) (elem:Xg) (size:Nat) (hu:P.underlying dT=some (.slice elem)) (hsz:(P.info? elem).map (·.size)=some size)
  (g off dLen dCap:Nat) (ad:Addr) (sLen sCap:Nat) (hd:a.eval d=.slice (some ⟨g,off,none⟩) dLen dCap) (hs:a.eval s=.slice (some ad) sLen sCap)
  (cur:Xd) (t:Xg) (hg:w.heap[g]? = some (.cells cur.toArray t (0,0))) (cs:Xd) (n:Nat) (hn:n=Nat.min sLen dLen) (hcl:cs.length=n*size)
  (hsrc:∀j v,cs[j]? = some v->w.cell? (ad.add j)=some v) (hfit:off+cs.length<=cur.length) (h1:∀v∈cs,v.oneCell'=true)
  (h:∀w',Hid (w'.heap[g]? = some (.cells (splice cur off cs).toArray t (0,0)))->Frm w w' [g]->K (a.put o.dst (goInt n)) w'):if Region.wanted o (yielded ops a.tmps)=true then Oper.wp P o a w K Q else E:=by
 have hw:Region.wanted o (yielded ops a.tmps)=true:=by simp [Region.wanted,hgd]
 rw [if_pos hw]
 have hrun:=zfB (P:=P) w dT sT o.type elem size g off dLen dCap ad sLen sCap cur.toArray t cs n hu hsz hg hn hcl hsrc (by simpa using hfit) h1
 unfold Oper.wp
 simp [execOp,ho,resolve,invoke,builtin,hd,hs,hrun,Result.andThen]
 exact h _ (show _=_ by simpa [splice]using setRow_heap w g _ _ t _ hg) (zdZ _ _ _)
theorem zea {α:Type} (L cs:List α) (o j:Nat) (h:o+cs.length<=L.length):(splice L o cs)[j]? = if j<o then L[j]? else if j<o+cs.length then cs[j-o]? else L[j]? :=by
 unfold splice
 have hl:(L.take o).length=o:=by simp;omega
 by_cases h1:j<o
 ·rw [if_pos h1,List.getElem?_append_left (by omega),List.getElem?_take,if_pos h1]
 ·rw [if_neg h1,List.getElem?_append_right (by omega),hl]
  by_cases h2:j<o+cs.length
  ·rw [if_pos h2,List.getElem?_append_left (by omega)]
  ·rw [if_neg h2,List.getElem?_append_right (by omega),List.getElem?_drop]
   congr 1
   omega
theorem zhL {α:Type} (L:List α) (R C Y:List α) (a c y:Nat) (hR:R.length=L.length) (hc:C.length=c) (hy:Y.length=y) (h:a+c+y<=L.length)
  (hg:∀j,R[j]? = if j<a then L[j]? else if j<a+c then C[j-a]? else if j<a+c+y then Y[j-(a+c)]? else R[j]?):R.take (a+c+y)=L.take a++(C++Y):=by
 apply List.ext_getElem?
 intro j
 have hl:(L.take a).length=a:=by simp;omega
 rw [List.getElem?_take,List.getElem?_append,hl,List.getElem?_take,List.getElem?_append,hc]
 by_cases h1:j<a
 ·rw [if_pos (by omega),if_pos h1,if_pos h1,hg j,if_pos h1]
 ·rw [if_neg h1]
  by_cases h2:j<a+c
  ·rw [if_pos (by omega),if_pos (by omega),hg j,if_neg h1,if_pos h2]
  ·rw [if_neg (show ¬ (j-a<c) by omega)]
   by_cases h3:j<a+c+y
   ·rw [if_pos h3,hg j,if_neg h1,if_neg h2,if_pos h3];congr 1;omega
   ·rw [if_neg h3,List.getElem?_eq_none (by omega)]
theorem zsA {α:Type} (L C Y:List α) (a c y:Nat) (hc:C.length=c) (hy:Y.length=y) (h:a+c+y<=L.length):(splice (splice L (a+c) Y) a C).take (a+c+y)=L.take a++(C++Y):=by
 have l1:=length_splice L (a+c) Y (by omega)
 refine zhL L _ C Y a c y (by rw [length_splice _ _ _ (by omega),l1]) hc hy h (fun j=> ?_)
 rw [zea _ _ _ _ (by omega),zea _ _ _ _ (by omega),hc,hy]
 by_cases h1:j<a
 ·simp only [if_pos h1,if_pos (show j<a+c by omega)]
 ·by_cases h2:j<a+c
  ·simp only [if_neg h1,if_pos h2]
  ·simp only [if_neg h1,if_neg h2]
   split<;>rfl
theorem zsl {α:Type} (L C Y:List α) (a c y:Nat) (hc:C.length=c) (hy:Y.length=y) (h:a+c+y<=L.length):(splice (splice L a C) (a+c) Y).take (a+c+y)=L.take a++(C++Y):=by
 have l1:=length_splice L a C (by omega)
 refine zhL L _ C Y a c y (by rw [length_splice _ _ _ (by omega),l1]) hc hy h (fun j=> ?_)
 rw [zea _ _ _ _ (by omega),zea _ _ _ _ (by omega),hc,hy]
 by_cases h1:j<a
 ·simp only [if_pos h1,if_pos (show j<a+c by omega)]
 ·by_cases h2:j<a+c
  ·simp only [if_neg h1,if_pos h2]
  ·simp only [if_neg h1,if_neg h2]
   split<;>rfl
end Go.Proofs.YtlpnibbdmkeklaaGreatDoor
