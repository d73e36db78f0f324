/- Own texts joined: PartI, OpenE, OpenT, Pre, WalkI, OutT, RwT, RowM, PlW, FoS, OwO, Via, FoF, FoG, FoW, FoV, IdJ, IdI, OpN. -/
import Derived.Test.YtlpnibbdmkeklaaGreatDoorJa
import Derived.Test.YtlpnibbdmkeklaaGreatDoorJb
import Derived.Test.YtlpnibbdmkeklaaGreatDoorJc
import Derived.Test.YtlpnibbdmkeklaaGreatDoorProg
import Derived.ChangeArms
import Derived.ChangeSlices
import Derived.WideShapes
import Derived.Deep.AppendLies
import Derived.Laws.IdiomStrings
import Derived.ArgAppend
import Derived.Deep.RegionHeld3
import Derived.Deep.QuietTactic
import Derived.BigQuiet
import Derived.WalkMore
namespace Go.Proofs.YtlpnibbdmkeklaaGreatDoor
open Go.RowKit
set_option linter.unusedVariables false
set_option maxRecDepth 100000
def zbw {α:Type} (t:Nd α):Bool:=if t.kind=1 then zbd t else zaP t
theorem zff {α:Type} {t:Nd α} (h:t.kind=1):zbw t=zbd t:=by rw [zbw,if_pos h]
theorem zdK {α:Type} {t:Nd α} (h:t.kind≠1):zbw t=zaP t:=by rw [zbw,if_neg h]
theorem zeh {α:Type} {t:Nd α} (h:¬ zfI t):zaP t=false:=by rw [←Bool.not_eq_true,zbe];exact h
theorem zfm {α:Type} {t:Nd α} (h:¬ zkB t):zbd t=false:=by rw [←Bool.not_eq_true,zaZ];exact h
theorem VMade.keep {B:Nat} {w w':World} {g:Nat} (h:VMade B w g) (hb:Below w.heap.size w w'):VMade B w' g:=by
 obtain⟨m,hbm,hl,hm⟩:=h
 have hlt:m<w.heap.size:=by
  by_cases h:m<w.heap.size
  ·exact h
  ·rw [Array.getElem?_eq_none (by omega)]at hm;cases hm
 exact⟨m,hbm,hl.all hb,(hb.block m hlt).trans hm⟩
theorem VSet.keep {B:Nat} {w w':World} {g:Nat} (h:VSet B w g) (hb:Below w.heap.size w w'):VSet B w' g:=by
 rcases h with h | h
 ·exact .inl (h.all hb)
 ·exact .inr (h.keep hb)
theorem VSet.lt {B:Nat} {w:World} {g:Nat} (h:VSet B w g):g<w.heap.size:=by
 rcases h with h | ⟨m,_,h,_⟩
 ·exact h.lt
 ·exact h.lt
open Classical in
set_option maxHeartbeats 3200000 in
theorem znn (B n:Nat) (w0 w:World) (a b c d e:Value) (t:Tr (n+1)) (g:Nat) (h:RdNode (n+1) w0 [a,b,c,d,e] t) (hB:Below w0.heap.size w0 w) (hg:w0.heap.size≤g) (hV:VSet B w g) (hBB:B≤w.heap.size) (hz:t.kind=0) :
  Calls Tryz.prog 90 #[.agg #[a,b,c,d,e],.pointer (some ⟨g,0,none⟩)] w fun e w'=>e=.returned (.bool (zbw t))∧VSet B w' g∧Frm w w' [g]:=by
 obtain⟨_,_,_,_,e0,k1,k2,hb,hc,hd,he⟩:=h
 simp only [List.cons.injEq,and_true]at e0
 obtain⟨rfl,rfl,rfl,rfl,rfl⟩:=e0
 have HP:=hide (show zbw t=zaP t from zdK (by rw [hz];decide))
 obtain⟨ab,cb,rfl,_,_⟩:=hb.shape
 obtain⟨ac,cc,rfl,_,_⟩:=hc.shape
 obtain⟨ad,cd,rfl,_,_⟩:=Elems.shape hd
 obtain⟨ae,ce,rfl,_,_⟩:=Elems.shape he
 have hB1:Below w.heap.size w (w.alloc (.cells #[.int .i64 t.kind,.slice ab t.name.length cb,.slice ac t.text.length cc,.slice ad t.attrs.length cd,.slice ae t.kids.length ce] 37)):=(Below.refl _ _).alloc (Nat.le_refl _) _
 have l1:=Loc.made w #[.int .i64 t.kind,.slice ab t.name.length cb,.slice ac t.text.length cc,.slice ad t.attrs.length cd,.slice ae t.kids.length ce] 37
 have HX:Hid ((t.text.length≠0→zaP t=false)∧(¬ zai t.name→zaP t=false)∧(¬ zal t.attrs→zaP t=false)∧(zai t.name→t.text.length=0→zal t.attrs→t.kids.length=0→zaP t=true)∧(zai t.name→t.text.length=0→zal t.attrs→t.kids.length≠0→zaP t = !decide (Void t.name))):=by
  refine⟨fun h=>zeh (fun k=>h k.2.2.1),fun h=>zeh (fun k=>h k.2.1),fun h=>zeh (fun k=>h k.2.2.2.1),fun h1 h2 h3 h4=>(zbe t).2 ⟨hz,h1,h2,h3,fun k=>by omega⟩,fun h1 h2 h3 h4=> ?_⟩
  by_cases hv:Void t.name
  ·rw [zeh (fun k=>k.2.2.2.2 ⟨hv,by omega⟩)];simp [hv]
  ·rw [(zbe t).2 ⟨hz,h1,h2,h3,fun k=>hv k.1⟩];simp [hv]
 rw [hz]at *
 have ha:Below w0.heap.size w0 (w.alloc (.cells #[.int .i64 0,.slice ab t.name.length cb,.slice ac t.text.length cc,.slice ad t.attrs.length cd,.slice ae t.kids.length ce] 37)):=hB.trans (hB1.mono hB.size)
 have hV1:=hV.keep hB1
 have F1:=Frm.ofBelow hB1 [g]
 clear hB1 k1 k2 hB
 go_enter Tryz.func90,Tryz.ntmps90
 go_wp2_with fail
 generalize (w.alloc (.cells #[.int .i64 0,.slice ab t.name.length cb,.slice ac t.text.length cc,.slice ad t.attrs.length cd,.slice ae t.kids.length ce] 37))=w1 at *
 have hBB1:=Nat.le_trans hBB F1.size
 generalize hS:w.heap.size=S at *
 clear hS
 generalize t.name.length=nb at *
 generalize t.text.length=nc at *
 generalize t.attrs.length=nd at *
 generalize t.kids.length=ne at *
 have hbb:=hb.keep ha
 have hdd:=hd.keep ha
 refine (zeo w1 _ t.name hbb).mono ?_
 rintro e w1 ⟨rfl,rfl⟩
 obtain⟨x0,x1,x2,x3,x4⟩:=l1.five
 by_cases hn:zai t.name
 ·rw [show decide (zai t.name)=true by simpa using hn]
  by_cases htx:nc=0
  ·have dtx:((nc:Int) == 0)=true:=by simpa using htx
   go_wp2_with fail
   refine (zmU w1 _ t.attrs hdd).mono ?_
   rintro e w2 ⟨rfl,hB2⟩
   have hV2:=hV1.keep hB2
   have F2:=F1.trans (Frm.ofBelow hB2 [g])
   have ha2:=ha.trans (hB2.mono ha.size)
   have l2:=l1.all hB2
   clear x0 x1 x2 x3 x4
   obtain⟨x0,x1,x2,x3,x4⟩:=l2.five
   by_cases hat:zal t.attrs
   ·rw [show decide (zal t.attrs)=true by simpa using hat]
    by_cases hk:ne=0
    ·have dk:((ne:Int) == 0)=true:=by simpa using hk
     have HE:=hide ((zaa HX).2.2.2.1 hn htx hat hk)
     clear hn htx hat hk HX
     go_wp2_with fail
     go_ret
     exact⟨by rw [zaa HP,zaa HE];rfl,hV2,F2⟩
    ·have dk:((ne:Int) == 0)=false:=by simpa using hk
     have HE:=hide ((zaa HX).2.2.2.2 hn htx hat hk)
     clear hn htx hat hk HX
     go_wp2_with fail
     refine (zia B g w2 _ t.name hV2 (Nat.le_trans hBB1 hB2.size) (fun w' f=>hb.keep (ha2.trans (f.below ha2.size (fun q hq=>by simp at hq;omega))))).mono ?_
     rintro e w3 ⟨rfl,hV3,F3⟩
     generalize decide (Void t.name)=vb at *
     go_wp2_with fail
     go_ret
     exact⟨by rw [zaa HP,zaa HE];rfl,.inr hV3,F2.trans F3⟩
   ·rw [show decide (zal t.attrs)=false by simpa using hat]
    have HE:=hide ((zaa HX).2.2.1 hat)
    clear hn htx hat HX
    go_wp2_with fail
    go_ret
    exact⟨by rw [zaa HP,zaa HE];rfl,hV2,F2⟩
  ·have dtx:((nc:Int) == 0)=false:=by simpa using htx
   have HE:=hide ((zaa HX).1 htx)
   clear hn htx HX
   go_wp2_with fail
   go_ret
   exact⟨by rw [zaa HP,zaa HE];rfl,hV1,F1⟩
 ·rw [show decide (zai t.name)=false by simpa using hn]
  have HE:=hide ((zaa HX).2.1 hn)
  clear hn HX
  go_wp2_with fail
  go_ret
  exact⟨by rw [zaa HP,zaa HE];rfl,hV1,F1⟩
open Classical in
set_option maxHeartbeats 3200000 in
theorem zmC (B n:Nat) (w0 w:World) (a b c d e:Value) (t:Tr (n+1)) (g:Nat) (h:RdNode (n+1) w0 [a,b,c,d,e] t) (hB:Below w0.heap.size w0 w) (hg:w0.heap.size≤g) (hV:VSet B w g) (hBB:B≤w.heap.size) (hz:t.kind=1) :
  Calls Tryz.prog 90 #[.agg #[a,b,c,d,e],.pointer (some ⟨g,0,none⟩)] w fun e w'=>e=.returned (.bool (zbw t))∧VSet B w' g∧Frm w w' [g]:=by
 obtain⟨_,_,_,_,e0,k1,k2,hb,hc,hd,he⟩:=h
 simp only [List.cons.injEq,and_true]at e0
 obtain⟨rfl,rfl,rfl,rfl,rfl⟩:=e0
 have HP:=hide (show zbw t=zbd t from zff hz)
 obtain⟨ab,cb,rfl,_,_⟩:=hb.shape
 obtain⟨ac,cc,rfl,_,_⟩:=hc.shape
 obtain⟨ad,cd,rfl,_,_⟩:=Elems.shape hd
 obtain⟨ae,ce,rfl,_,_⟩:=Elems.shape he
 have hB1:Below w.heap.size w (w.alloc (.cells #[.int .i64 t.kind,.slice ab t.name.length cb,.slice ac t.text.length cc,.slice ad t.attrs.length cd,.slice ae t.kids.length ce] 37)):=(Below.refl _ _).alloc (Nat.le_refl _) _
 have l1:=Loc.made w #[.int .i64 t.kind,.slice ab t.name.length cb,.slice ac t.text.length cc,.slice ad t.attrs.length cd,.slice ae t.kids.length ce] 37
 have HX:Hid ((t.name.length≠0→zbd t=false)∧(¬ zat t.text→zbd t=false)∧(t.attrs.length≠0→zbd t=false)∧(t.kids.length≠0→zbd t=false)∧(t.name.length=0→zat t.text→t.attrs.length=0→t.kids.length=0→zbd t=true)):=by
  exact⟨fun h=>zfm (fun k=>h k.1),fun h=>zfm (fun k=>h k.2.2.2),fun h=>zfm (fun k=>h k.2.1),fun h=>zfm (fun k=>h k.2.2.1),fun h1 h2 h3 h4=>(zaZ t).2 ⟨h1,h3,h4,h2⟩⟩
 rw [hz]at *
 have ha:Below w0.heap.size w0 (w.alloc (.cells #[.int .i64 1,.slice ab t.name.length cb,.slice ac t.text.length cc,.slice ad t.attrs.length cd,.slice ae t.kids.length ce] 37)):=hB.trans (hB1.mono hB.size)
 have hV1:=hV.keep hB1
 have F1:=Frm.ofBelow hB1 [g]
 clear hB1 k1 k2 hB
 go_enter Tryz.func90,Tryz.ntmps90
 by_cases hnn:t.name.length=0
 ·have dn:((t.name.length:Int) == 0)=true:=by simpa using hnn
  have HN:=hide hnn
  clear hnn
  go_wp2_with fail
  generalize (w.alloc (.cells #[.int .i64 1,.slice ab t.name.length cb,.slice ac t.text.length cc,.slice ad t.attrs.length cd,.slice ae t.kids.length ce] 37))=w1 at *
  generalize hS:w.heap.size=S at *
  clear hS
  generalize t.name.length=nb at *
  generalize t.text.length=nc at *
  generalize t.attrs.length=nd at *
  generalize t.kids.length=ne at *
  refine (zey w1 _ t.text (hc.keep ha)).mono ?_
  rintro e w1 ⟨rfl,rfl⟩
  obtain⟨x0,x1,x2,x3,x4⟩:=l1.five
  by_cases ht:zat t.text
  ·rw [show decide (zat t.text)=true by simpa using ht]
   by_cases hat:nd=0
   ·have dat:((nd:Int) == 0)=true:=by simpa using hat
    by_cases hk:ne=0
    ·have dk:((ne:Int) == 0)=true:=by simpa using hk
     have HE:=hide ((zaa HX).2.2.2.2 (zaa HN) ht hat hk)
     clear ht hat hk HX HN
     go_wp2_with fail
     go_ret
     exact⟨by rw [zaa HP,zaa HE];rfl,hV1,F1⟩
    ·have dk:((ne:Int) == 0)=false:=by simpa using hk
     have HE:=hide ((zaa HX).2.2.2.1 hk)
     clear ht hat hk HX HN
     go_wp2_with fail
     go_ret
     exact⟨by rw [zaa HP,zaa HE];rfl,hV1,F1⟩
   ·have dat:((nd:Int) == 0)=false:=by simpa using hat
    have HE:=hide ((zaa HX).2.2.1 hat)
    clear ht hat HX HN
    go_wp2_with fail
    go_ret
    exact⟨by rw [zaa HP,zaa HE];rfl,hV1,F1⟩
  ·rw [show decide (zat t.text)=false by simpa using ht]
   have HE:=hide ((zaa HX).2.1 ht)
   clear ht HX HN
   go_wp2_with fail
   go_ret
   exact⟨by rw [zaa HP,zaa HE];rfl,hV1,F1⟩
 ·have dn:((t.name.length:Int) == 0)=false:=by simpa using hnn
  have HE:=hide ((zaa HX).1 hnn)
  clear hnn HX
  go_wp2_with fail
  go_ret
  exact⟨by rw [zaa HP,zaa HE];rfl,hV1,F1⟩
set_option maxHeartbeats 3200000 in
theorem znd (B n:Nat) (w0 w:World) (a b c d e:Value) (t:Tr (n+1)) (g:Nat) (h:RdNode (n+1) w0 [a,b,c,d,e] t) (hV:VSet B w g) (hBB:B≤w.heap.size) (hz:t.kind≠0) (hz1:t.kind≠1) :
  Calls Tryz.prog 90 #[.agg #[a,b,c,d,e],.pointer (some ⟨g,0,none⟩)] w fun e w'=>e=.returned (.bool (zbw t))∧VSet B w' g∧Frm w w' [g]:=by
 obtain⟨_,_,_,_,e0,k1,k2,hb,hc,hd,he⟩:=h
 simp only [List.cons.injEq,and_true]at e0
 obtain⟨rfl,rfl,rfl,rfl,rfl⟩:=e0
 have HP:=hide (show zbw t=false by rw [zdK hz1];exact zeh (fun k=>hz k.1))
 obtain⟨ab,cb,rfl,_,_⟩:=hb.shape
 obtain⟨ac,cc,rfl,_,_⟩:=hc.shape
 obtain⟨ad,cd,rfl,_,_⟩:=Elems.shape hd
 obtain⟨ae,ce,rfl,_,_⟩:=Elems.shape he
 have hB1:Below w.heap.size w (w.alloc (.cells #[.int .i64 t.kind,.slice ab t.name.length cb,.slice ac t.text.length cc,.slice ad t.attrs.length cd,.slice ae t.kids.length ce] 37)):=(Below.refl _ _).alloc (Nat.le_refl _) _
 have hV1:=hV.keep hB1
 have F1:=Frm.ofBelow hB1 [g]
 have d0:(t.kind == 0)=false:=by simpa using hz
 have d1:(t.kind == 1)=false:=by simpa using hz1
 clear hB1 k1 k2 hz hz1 hb hc hd he
 generalize t.kind=z at *
 go_enter Tryz.func90,Tryz.ntmps90
 go_wp2_with fail
 go_ret
 exact⟨by rw [zaa HP];rfl,hV1,F1⟩
theorem ziN (B n:Nat) (w0 w:World) (a b c d e:Value) (t:Tr (n+1)) (g:Nat) (h:RdNode (n+1) w0 [a,b,c,d,e] t) (hB:Below w0.heap.size w0 w) (hg:w0.heap.size≤g) (hV:VSet B w g) (hBB:B≤w.heap.size) :
  Calls Tryz.prog 90 #[.agg #[a,b,c,d,e],.pointer (some ⟨g,0,none⟩)] w fun e w'=>e=.returned (.bool (zbw t))∧VSet B w' g∧Frm w w' [g]:=by
 by_cases hz:t.kind=0
 ·exact znn B n w0 w a b c d e t g h hB hg hV hBB hz
 ·by_cases hz1:t.kind=1
  ·exact zmC B n w0 w a b c d e t g h hB hg hV hBB hz1
  ·exact znd B n w0 w a b c d e t g h hV hBB hz hz1
end Go.Proofs.YtlpnibbdmkeklaaGreatDoor
namespace Go.Proofs.YtlpnibbdmkeklaaGreatDoor
open Go.RowKit Go.ChangeShapes
set_option linter.unusedVariables false
set_option maxRecDepth 100000
variable {H:Type} {enc:TypeId×Value→H} {W:World} {held:Bool}
theorem zhQ {α:Type} {Q:Nat→α→Prop}:∀n:Nat,(∀i,i<n→∃a,Q i a)→∃l:List α,l.length=n∧∀i (hi:i<l.length),Q i l[i]
 | 0,_=>⟨[],rfl,fun i hi=>by cases hi⟩
 | n+1,h=>by
  obtain⟨l,hl,hq⟩:=zhQ n (fun i hi=>h i (by omega))
  obtain⟨a,ha⟩:=h n (by omega)
  refine⟨l++[a],by simp [hl],fun i hi=> ?_⟩
  by_cases hi':i<l.length
  ·rw [List.getElem_append_left hi'];exact hq i hi'
  ·have:i=l.length:=by simp at hi;omega
   subst this
   simp only [List.getElem_append_right (Nat.le_refl _),Nat.sub_self,List.getElem_cons_zero]
   rw [hl];exact ha
theorem zdT {α:Type} {t e:TypeId} {sz fuel:Nat} {cs:List Value} {x:DataW H×List MemPlace} {R:List Value→α→Prop} (ht:Tryz.prog.underlying t=some (.slice e)) (hc:Tryz.prog.cellsOf e=sz) (hs:0<sz)
  (hR:∀n C y,fuel=n+1→DataW.trod enc Tryz.prog W 0 (fun _=>true) held n e C=some y→∃a:α,R C a)
  (h:DataW.trod enc Tryz.prog W 0 (fun _=>true) held fuel t cs=some x):∃v l,cs=[v]∧Elems W sz v l R:=by
 rcases DataW.trod_slice ht h with ⟨rfl,_⟩ | ⟨a,len,cap,elems,rest,n,hf,rfl,_,_,hl,hm,hlen,hel,_,_⟩
 ·exact⟨_,[],rfl,by simp [maxLen],.inl ⟨rfl,rfl⟩⟩
 rw [hc]at hel
 have hall:∀i,i<len→∃b:α,∃C:List Value,C.length=sz∧(∀j,j<sz→W.cell? ((a.add (i*sz)).add j)=C[j]?)∧R C b:=by
  intro i hi
  have h1:=hel i hi
  rw [List.getElem?_eq_getElem (by omega)]at h1
  obtain⟨C,hC,hy⟩:=Option.bind_eq_some_iff.1 h1
  obtain⟨_,hCl,hcell⟩:=World.cells?_some hC
  obtain⟨b,hb⟩:=hR n C _ hf hy
  exact⟨b,C,hCl,hcell,hb⟩
 obtain⟨l,hll,hq⟩:=zhQ (Q:=fun i b=>∃C:List Value,C.length=sz∧(∀j,j<sz→W.cell? ((a.add (i*sz)).add j)=C[j]?)∧R C b) len hall
 refine⟨_,l,rfl,by omega,?_⟩
 by_cases h0:len=0
 ·have hl0:l=[]:=List.eq_nil_of_length_eq_zero (by omega)
  subst h0
  exact .inr (.inl ⟨a,cap,rfl,hm,hl0⟩)
 ·obtain⟨b,off,spot⟩:=a
  obtain⟨C,hCl,hcell,_⟩:=hq 0 (by omega)
  have hc0:=hcell 0 hs
  rw [List.getElem?_eq_getElem (by omega)]at hc0
  have hspot:spot=none:=by simpa [Addr.add]using World.cell?_spot hc0
  subst hspot
  refine .inr (.inr ⟨b,off,cap,by rw [hll],by omega,hm,fun h=>by subst h;simp at hll;omega,?_,fun i hi=> ?_⟩)
  ·have:=zaI hc0;simpa [Addr.add]using this
  ·obtain⟨C,hCl,hcell,hr⟩:=hq i hi
   refine⟨C,hCl,fun j hj=> ?_,hr⟩
   have:=hcell j hj
   rw [zaX,zaX]at this
   exact this
end Go.Proofs.YtlpnibbdmkeklaaGreatDoor
namespace Go.Proofs.YtlpnibbdmkeklaaGreatDoor
open Go.RowKit Go.ChangeShapes
set_option linter.unusedVariables false
set_option maxRecDepth 100000
variable {H:Type} {enc:TypeId×Value→H} {W:World} {held:Bool}
theorem zdW {fuel:Nat} {cs:List Value} {x:DataW H×List MemPlace} (h:DataW.trod enc Tryz.prog W 0 (fun _=>true) held fuel 22 cs=some x) :
  ∃v l,cs=[v]∧Byt W v l:=by
 rcases open_ints Tryz.underlying22 Tryz.underlying5 (by kernel_rfl) h with ⟨hcs,_⟩ | ⟨a,len,cap,zs,hcs,_,hl,hm,hz,_,hcell,hwz⟩
 ·exact⟨_,_,hcs,zdG (zs:=[]) (.inl ⟨rfl,rfl,rfl,rfl⟩)⟩
 ·exact⟨_,_,hcs,zdG (.inr ⟨_,rfl,hl,hm,by simpa using hz,hcell,hwz⟩)⟩
theorem zdk {α:Type} {l:List α} {n i:Nat} (h:l.length=n) (hi:i<n):∃y,l[i]? = some y:=⟨l[i]'(by omega),List.getElem?_eq_getElem (by omega)⟩
theorem zoy {fuel:Nat} {cs:List Value} {x:DataW H×List MemPlace} (h:DataW.trod enc Tryz.prog W 0 (fun _=>true) held fuel 137 cs=some x):∃a,zoK W cs a:=by
 obtain⟨xs,n,_,_,hlen,hxs,hf⟩:=DataW.trod_struct Tryz.underlying137 h
 have hlen2:cs.length=2:=hlen.trans (by kernel_rfl)
 match cs,hlen2 with
 | [c0,c1],_=>
  obtain⟨y0,e0⟩:=zdk (i:=0) hxs (by simp)
  obtain⟨y1,e1⟩:=zdk (i:=1) hxs (by simp)
  have h0:DataW.trod enc Tryz.prog W 0 (fun _=>true) held n 22 (([c0,c1].drop 0).take (Tryz.prog.cellsOf 22))=some y0:=(hf 0 _ rfl).trans e0
  have h1:DataW.trod enc Tryz.prog W 0 (fun _=>true) held n 22 (([c0,c1].drop 1).take (Tryz.prog.cellsOf 22))=some y1:=(hf 1 _ rfl).trans e1
  have k1:Tryz.prog.cellsOf 22=1:=by kernel_rfl
  simp only [k1,List.drop,List.take]at h0 h1
  obtain⟨v0,l0,g0,b0⟩:=zdW h0
  obtain⟨v1,l1,g1,b1⟩:=zdW h1
  simp at g0 g1
  subst g0;subst g1
  exact⟨(l0,l1),_,_,rfl,b0,b1⟩
theorem zja:∀(m:Nat) {fuel:Nat} {cs:List Value} {x:DataW H×List MemPlace},fuel≤2*m→DataW.trod enc Tryz.prog W 0 (fun _=>true) held fuel 26 cs=some x→∃t,RdNode m W cs t
 | 0,fuel,cs,x,hm,h=>by
  obtain rfl:fuel=0:=by omega
  simp [DataW.trod]at h
 | m+1,fuel,cs,x,hm,h=>by
  obtain⟨xs,n,hn,_,hlen,hxs,hf⟩:=DataW.trod_struct Tryz.underlying26 h
  have hlen5:cs.length=5:=hlen.trans (by kernel_rfl)
  match cs,hlen5 with
  | [c0,c1,c2,c3,c4],_=>
   obtain⟨y0,e0⟩:=zdk (i:=0) hxs (by simp)
   obtain⟨y1,e1⟩:=zdk (i:=1) hxs (by simp)
   obtain⟨y2,e2⟩:=zdk (i:=2) hxs (by simp)
   obtain⟨y3,e3⟩:=zdk (i:=3) hxs (by simp)
   obtain⟨y4,e4⟩:=zdk (i:=4) hxs (by simp)
   have h0:DataW.trod enc Tryz.prog W 0 (fun _=>true) held n 3 (([c0,c1,c2,c3,c4].drop 0).take (Tryz.prog.cellsOf 3))=some y0:=(hf 0 _ rfl).trans e0
   have h1:DataW.trod enc Tryz.prog W 0 (fun _=>true) held n 22 (([c0,c1,c2,c3,c4].drop 1).take (Tryz.prog.cellsOf 22))=some y1:=(hf 1 _ rfl).trans e1
   have h2:DataW.trod enc Tryz.prog W 0 (fun _=>true) held n 22 (([c0,c1,c2,c3,c4].drop 2).take (Tryz.prog.cellsOf 22))=some y2:=(hf 2 _ rfl).trans e2
   have h3:DataW.trod enc Tryz.prog W 0 (fun _=>true) held n 23 (([c0,c1,c2,c3,c4].drop 3).take (Tryz.prog.cellsOf 23))=some y3:=(hf 3 _ rfl).trans e3
   have h4:DataW.trod enc Tryz.prog W 0 (fun _=>true) held n 24 (([c0,c1,c2,c3,c4].drop 4).take (Tryz.prog.cellsOf 24))=some y4:=(hf 4 _ rfl).trans e4
   have ki:Tryz.prog.cellsOf 3=1:=by kernel_rfl
   have k1:Tryz.prog.cellsOf 22=1:=by kernel_rfl
   have k2:Tryz.prog.cellsOf 23=1:=by kernel_rfl
   have k3:Tryz.prog.cellsOf 24=1:=by kernel_rfl
   simp only [ki,k1,k2,k3,List.drop,List.take]at h0 h1 h2 h3 h4
   obtain⟨k,g0,_,hk⟩:=DataW.trod_int Tryz.underlying3 h0
   obtain⟨v1,l1,g1,b1⟩:=zdW h1
   obtain⟨v2,l2,g2,b2⟩:=zdW h2
   obtain⟨v3,l3,g3,b3⟩:=zdT (sz:=2) Tryz.underlying23 (by kernel_rfl) (by omega) (fun n C y _ hy=>zoy hy) h3
   obtain⟨v4,l4,g4,b4⟩:=zdT (sz:=5) Tryz.underlying24 (by kernel_rfl) (by omega) (fun n' C y hn' hy=>zja m (by omega) hy) h4
   simp at g0 g1 g2 g3 g4
   subst g0;subst g1;subst g2;subst g3;subst g4
   obtain⟨q1,q2⟩:=bounds_i64 hk
   exact⟨(⟨k,l1,l2,l3,l4⟩:Nd (Tr m)),_,_,_,_,rfl,q1,q2,b1,b2,b3,b4⟩
end Go.Proofs.YtlpnibbdmkeklaaGreatDoor
namespace Go.Proofs.YtlpnibbdmkeklaaGreatDoor
open Go.RowKit
set_option linter.unusedVariables false
set_option maxRecDepth 100000
structure It (w0:World) where
 deep:Int
 a:Value
 b:Value
 c:Value
 d:Value
 e:Value
 m:Nat
 t:Tr (m+1)
 rd:RdNode (m+1) w0 [a,b,c,d,e] t
def zgv {w0:World} (x:It w0):Array Value:= #[.int .i64 x.deep,.agg #[x.a,x.b,x.c,x.d,x.e]]
def Pre (w0:World):(n:Nat)→Int→List Value→Tr n→List (It w0)→Prop
 | 0=>fun _ _ _ _=>False
 | n+1=>fun deep C t xs=>∃(a b c d e:Value) (rd:RdNode (n+1) w0 [a,b,c,d,e] t) (ks:List (Tr n×List (It w0))),C=[a,b,c,d,e]∧xs=⟨deep,a,b,c,d,e,n,t,rd⟩::(ks.map (·.2)).flatten∧ks.map (·.1)=t.kids∧
   Elems w0 5 e ks (fun D k=>Pre w0 n (deep+1) D k.1 k.2)
theorem zmJ {α β:Type} {w:World} {size:Nat} {v:Value} {l:List α} {R:List Value→α→Prop} {R':List Value→α×β→Prop} (h:Elems w size v l R) (hR:∀C x,R C x→∃y,R' C (x,y)) :
  ∃ks:List (α×β),ks.map (·.1)=l∧Elems w size v ks R':=by
 obtain⟨hm,⟨rfl,rfl⟩ | ⟨x,cap,rfl,hc,rfl⟩ | ⟨b,off,cap,rfl,h1,h2,h3,h4,h5⟩⟩:=h
 ·exact⟨[],rfl,hm,.inl ⟨rfl,rfl⟩⟩
 ·exact⟨[],rfl,hm,.inr (.inl ⟨x,cap,rfl,hc,rfl⟩)⟩
 ·obtain⟨ks,hl,hk⟩:=zhQ (Q:=fun i (k:α×β)=>∃hi:i<l.length,k.1=l[i]∧∃C:List Value,C.length=size∧(∀j,j<size→w.cell? ⟨b,off+i*size+j,none⟩=C[j]?)∧R' C k) l.length (fun i hi=>by
   obtain⟨C,hC,hc,hr⟩:=h5 i hi
   obtain⟨y,hy⟩:=hR C _ hr
   exact⟨(l[i],y),hi,rfl,C,hC,hc,hy⟩)
  refine⟨ks,?_,by omega,.inr (.inr ⟨b,off,cap,by rw [hl],by omega,h2,?_,h4,fun i hi=> ?_⟩)⟩
  ·apply List.ext_getElem
   ·simp [hl]
   ·intro i h1' h2'
    simp only [List.getElem_map]
    exact (hk i (by simpa using h1')).2.1
  ·intro e;rw [e]at hl;exact h3 (List.eq_nil_of_length_eq_zero hl.symm)
  ·exact (hk i hi).2.2
theorem zot (w0:World):∀(n:Nat) (deep:Int) (C:List Value) (t:Tr n),RdNode n w0 C t→∃xs,Pre w0 n deep C t xs
 | 0,_,_,t,_=>t.elim
 | n+1,deep,C,t,h=>by
  have h':=h
  obtain⟨a,b,c,d,rfl,k1,k2,hb,hc,hd,he⟩:=h
  obtain⟨ks,hks,hel⟩:=zmJ (R':=fun D k=>Pre w0 n (deep+1) D k.1 k.2) he (fun D x hx=>zot w0 n (deep+1) D x hx)
  exact⟨_,_,_,_,_,_,h',ks,rfl,rfl,hks,hel⟩
def tst {w0:World} (x:It w0):Int×Bool:=(x.deep,zbw x.t)
def pn:(n:Nat)→Int→Tr n→List (Int×Bool)
 | 0=>fun _ _=>[]
 | n+1=>fun deep t=>(deep,zbw t)::(t.kids.map (pn n (deep+1))).flatten
theorem zlT (n:Nat) (deep:Int) (t:Tr (n+1)):pn (n+1) deep t=(deep,zbw t)::(t.kids.map (pn n (deep+1))).flatten:=rfl
theorem Elems.mem {α:Type} {w:World} {size:Nat} {v:Value} {l:List α} {R:List Value→α→Prop} (h:Elems w size v l R):∀x∈l,∃C,R C x:=by
 intro x hx
 obtain⟨i,hi,rfl⟩:=List.getElem_of_mem hx
 obtain⟨hm,⟨rfl,rfl⟩ | ⟨_,cap,rfl,hc,rfl⟩ | ⟨b,off,cap,rfl,h1,h2,h3,h4,h5⟩⟩:=h
 ·simp at hi
 ·simp at hi
 ·obtain⟨C,_,_,hr⟩:=h5 i hi
  exact⟨C,hr⟩
theorem znB (w0:World):∀(n:Nat) (deep:Int) (C:List Value) (t:Tr n) (xs:List (It w0)),Pre w0 n deep C t xs→xs.map tst=pn n deep t
 | 0,_,_,t,_,_=>t.elim
 | n+1,deep,C,t,xs,⟨a,b,c,d,e,rd,ks,_,hxs,hks,hel⟩=>by
  subst hxs
  rw [List.map_cons,zlT,←hks,List.map_flatten,List.map_map,List.map_map]
  congr 2
  apply List.map_congr_left
  intro k hk
  obtain⟨D,hD⟩:=hel.mem k hk
  exact znB w0 n (deep+1) D k.1 k.2 hD
def scan:List (Int×Bool)→Int→Bool×Int
 | [],left=>(true,left)
 | x::r,left=>if left-1<0∨20<x.1∨x.2=false then (false,left-1) else scan r (left-1)
theorem zhf (a b:List (Int×Bool)) (left:Int):scan (a++b) left=if (scan a left).1=true then scan b (scan a left).2 else (false,(scan a left).2):=by
 induction a generalizing left with
 | nil=>simp [scan]
 | cons x r ih=>
  rw [List.cons_append,scan,scan]
  by_cases h:left-1<0∨20<x.1∨x.2=false
  ·rw [if_pos h,if_pos h];simp
  ·rw [if_neg h,if_neg h,ih]
theorem zrz {a b:List (Int×Bool)} {left:Int} (h:(scan a left).1=false) (hp:a <+: b):(scan b left).1=false:=by
 obtain⟨r,rfl⟩:=hp
 rw [zhf,h]
 simp
theorem zkd {α:Type} {f:α→Int→Bool×Int} {p:α→List (Int×Bool)} (h:∀x left,f x left=scan (p x) left):∀(l:List α) (left:Int),okK f l left=scan (l.map p).flatten left
 | [],left=>rfl
 | x::r,left=>by
  rw [okK,List.map_cons,List.flatten_cons,zhf,h,zkd h r]
theorem zjK:∀(n:Nat) (deep:Int) (t:Tr n) (left:Int),okT n deep t left=scan (pn n deep t) left
 | 0,_,t,_=>t.elim
 | n+1,deep,t,left=>by
  rw [zbj,zlT,scan]
  by_cases h1:left-1<0∨20<deep
  ·rw [if_pos h1,if_pos (by rcases h1 with h | h<;>simp [h])]
  ·rw [if_neg h1]
   by_cases h2:t.kind=1
   ·rw [if_pos h2]
    have hp:zbw t=zbd t:=zff h2
    by_cases h3:zbd t=true
    ·have hk:t.kids=[]:=List.eq_nil_of_length_eq_zero ((zaZ t).1 h3).2.2.1
     rw [if_neg (by simp only [hp,h3];simp;omega),hk,h3];rfl
    ·have h3':zbd t=false:=by simpa using h3
     rw [if_pos (by simp only [hp,h3'];simp),h3']
   ·rw [if_neg h2]
    have hp:zbw t=zaP t:=zdK h2
    by_cases h3:zaP t=true
    ·rw [if_pos h3,if_neg (by simp only [hp,h3];simp;omega)]
     exact zkd (zjK n (deep+1)) t.kids (left-1)
    ·have h3':zaP t=false:=by simpa using h3
     rw [if_neg h3,if_pos (by simp only [hp,h3'];simp)]
end Go.Proofs.YtlpnibbdmkeklaaGreatDoor
namespace Go.Proofs.YtlpnibbdmkeklaaGreatDoor
open Go.RowKit Go.Shelf
set_option linter.unusedVariables false
set_option maxRecDepth 100000
attribute [local go_sem] Oper.semAt_some
def BxN (o:Obj):Prop:=∃cs,o=.cells cs 37 (0,0)
theorem zgV {W W':World} (h:Below W.heap.size W W'):W.grownBy W' none:=⟨h.os,h.tape,h.output,h.size,fun k hk _=>h.block k hk⟩
theorem zeY {n:Nat} {w:World} {C:List Value} {t:Tr n} (h:RdNode n w C t):∃z ab nb cb ac nc cc ad nd cd ae ne ce,C=[.int .i64 z,.slice ab nb cb,.slice ac nc cc,.slice ad nd cd,.slice ae ne ce]:=by
 cases n with
 | zero=>exact t.elim
 | succ n=>
  obtain⟨a,b,c,d,rfl,_,_,hb,hc,hd,he⟩:=h
  obtain⟨ab,cb,rfl,_,_⟩:=hb.shape
  obtain⟨ac,cc,rfl,_,_⟩:=hc.shape
  obtain⟨ad,cd,rfl,_,_⟩:=Elems.shape hd
  obtain⟨ae,ce,rfl,_,_⟩:=Elems.shape he
  exact⟨_,_,_,_,_,_,_,_,_,_,_,_,_,rfl⟩
theorem zoo {w0:World} {n:Nat} {deep:Int} {C:List Value} {t:Tr n} {xs:List (It w0)} (h:Pre w0 n deep C t xs):RdNode n w0 C t:=by
 cases n with
 | zero=>exact t.elim
 | succ n=>
  obtain⟨a,b,c,d,e,rd,ks,rfl,_⟩:=h
  exact rd
theorem zlK {l:List Nat} {x:Nat} (h:x∈l):x≤l.sum:=by
 induction l with
 | nil=>cases h
 | cons y l ih=>
  rw [List.sum_cons]
  rcases List.mem_cons.1 h with rfl | h'
  ·omega
  ·have:=ih h';omega
theorem zrT {n:Nat} {t:Tr (n+1)} {u:Tr n} (h:u∈t.kids):szT n u+1≤szT (n+1) t:=by
 have h1:szT n u≤(t.kids.map (szT n)).sum:=zlK (List.mem_map.2 ⟨u,h,rfl⟩)
 have h2:0<t.kids.length:=List.length_pos_of_mem h
 have h3:szT (n+1) t=t.name.length+t.text.length+szA t.attrs+(t.kids.length+(t.kids.map (szT n)).sum):=rfl
 omega
theorem zgd {α β:Type} (ks:List (α×List β)) (j:Nat) (h:j<ks.length):((ks.take (j+1)).map (·.2)).flatten=((ks.take j).map (·.2)).flatten++ks[j].2:=by
 rw [List.take_succ_eq_append_getElem h,List.map_append,List.flatten_append]
 simp only [List.map_cons,List.map_nil,List.flatten_cons,List.flatten_nil,List.append_nil]
theorem zjP {α β:Type} (ks:List (α×List β)) (j:Nat):((ks.take j).map (·.2)).flatten <+: (ks.map (·.2)).flatten:=by
 refine⟨((ks.drop j).map (·.2)).flatten,?_⟩
 rw [←List.flatten_append,←List.map_append,List.take_append_drop]
def zhe (w0:World) (l:Nat) (Mt:Nat→Obj→Prop) (J Jx:List (It w0)→World→Prop) (XS:List (It w0)) (k:Nat):Prop:=
 ∀(deep:Int) (a b c d e:Value) (t:Tr k) (xs:List (It w0)),Pre w0 k deep [a,b,c,d,e] t xs→∀(n:Nat) (pre:List (It w0)) (W:World),Below w0.heap.size w0 W→(∀q o,W.heap.size≤q→BxN o→¬ Mt q o)→J pre W→pre++xs <+: XS→0≤deep→deep+szT k t≤1000000000→
  CallsIn Fence.wide n Tryz.prog 132 #[.agg #[a,b,c,d,e],.int .i64 deep,.func (.yield l) #[] #[]] W fun e W'=>
   (e=.returned (.bool true)∧J (pre++xs) W'∧Frp Mt W W')∨(e=.returned (.bool false)∧∃q,q <+: xs∧Jx (pre++q) W')
set_option maxHeartbeats 3200000 in
theorem zoS (w0:World) (l:Nat) (Mt:Nat→Obj→Prop) (hG0:∀i o,i<w0.heap.size→¬ Mt i o) (J Jx:List (It w0)→World→Prop) (XS:List (It w0)) (hJ:∀s W W',J s W→W.grownBy W' none→J s W')
  (hY:∀m pre x W,J pre W→pre++[x] <+: XS→YieldAt Fence.wide m Tryz.prog l (zgv x) W fun e W'=>
   (e=.returned (.bool true)∧J (pre++[x]) W'∧Frp Mt W W')∨(e=.returned (.bool false)∧Jx (pre++[x]) W')) (k:Nat) (H:zhe w0 l Mt J Jx XS k):zhe w0 l Mt J Jx XS (k+1):=by
 intro deep a b c d e t xs hP n pre W hW hGW hj hpx hd0 hd1
 obtain⟨_,_,_,_,_,rd,ks,hC,hxs,hks,hel⟩:=hP
 simp only [List.cons.injEq,and_true]at hC
 obtain⟨rfl,rfl,rfl,rfl,rfl⟩:=hC
 have rd':=rd
 obtain⟨_,_,_,_,e0,k1,k2,hb,hc,hd,he⟩:=rd'
 simp only [List.cons.injEq,and_true]at e0
 obtain⟨rfl,rfl,rfl,rfl,rfl⟩:=e0
 obtain⟨ab,cb,rfl,_,_⟩:=hb.shape
 obtain⟨ac,cc,rfl,_,_⟩:=hc.shape
 obtain⟨ad,cd,rfl,_,_⟩:=Elems.shape hd
 obtain⟨ae,ce,rfl,hce,hcm⟩:=Elems.shape he
 obtain⟨x,hx⟩:∃x:It w0,x=⟨deep,.int .i64 t.kind,.slice ab t.name.length cb,.slice ac t.text.length cc,.slice ad t.attrs.length cd,.slice ae t.kids.length ce,k,t,rd⟩:=⟨_,rfl⟩
 have hB1:Below W.heap.size W (W.alloc (.cells #[.int .i64 t.kind,.slice ab t.name.length cb,.slice ac t.text.length cc,.slice ad t.attrs.length cd,.slice ae t.kids.length ce] 37)):=(Below.refl _ _).alloc (Nat.le_refl _) _
 have l1:=Loc.made W #[.int .i64 t.kind,.slice ab t.name.length cb,.slice ac t.text.length cc,.slice ad t.attrs.length cd,.slice ae t.kids.length ce] 37
 have hy:=hY (n-1) pre x _ (hJ pre W _ hj (zgV hB1)) (by
  refine List.IsPrefix.trans ?_ hpx
  rw [hxs,←hx]
  exact⟨(ks.map (·.2)).flatten,by simp⟩)
 rw [hx]at hy
 simp only [zgv]at hy
 rw [←hx]at hy hxs
 obtain⟨fn,tmps,assign,body,hy1,hR⟩:=hy
 refine callsIn_of_wp Tryz.func132 rfl trivial ?_ rfl
 simp only [Tryz.ntmps132,List.size_toArray,List.length_cons,List.length_nil,Nat.reduceAdd,Nat.reduceSub,Array.replicate_succ,Array.replicate_zero,List.push_toArray,List.append_toArray,List.nil_append,List.cons_append]
 gi_wp2_with fail
 refine⟨(fun h=>(by cases h)),?_⟩
 generalize (W.alloc (.cells #[.int .i64 t.kind,.slice ab t.name.length cb,.slice ac t.text.length cc,.slice ad t.attrs.length cd,.slice ae t.kids.length ce] 37))=W1 at *
 refine hR.mono ?_
 clear hR
 rintro e W2 (⟨rfl,hJ2,hF2⟩ | ⟨rfl,hx2⟩)
 ·have l2:=l1.frp hF2 (hGW _ _ (Nat.le_refl _) ⟨_,rfl⟩)
  have hGW2:∀q o,W2.heap.size≤q→BxN o→¬ Mt q o:=fun q o h hb=>hGW q o (by have:=hB1.size;have:=hF2.size;omega) hb
  have hW2:Below w0.heap.size w0 W2:=hW.trans ((hB1.mono hW.size).trans (hF2.below (Nat.le_trans hW.size hB1.size) hG0))
  have F2:Frp Mt W W2:=(Frp.ofBelow hB1 Mt).trans hF2
  have hlen:ks.length=t.kids.length:=by rw [←hks];simp
  have HX:=hide hxs
  have HK:=hide hks
  have HE:=hide hx
  unfold maxLen at hcm
  have hm':(t.kids.length:Int)≤9223372036854775807:=by omega
  have HZ:Hid (∀u∈t.kids,deep+1+szT k u≤1000000000):=fun u hu=>by have:=zrT hu;omega
  have hdp:deep≤1000000000:=by omega
  clear hxs hks hx hB1 hF2 hy1 hY hd1
  obtain⟨x0,x1,x2,x3,x4⟩:=l2.five
  generalize hnk:t.kids.length=nk at *
  gi_wp2_with fail
  gi_loopw [17] (fun i wr=>∃j:Nat,j≤nk∧i=.int .i64 j∧J (pre++x::((ks.take j).map (·.2)).flatten) wr∧Frp Mt W2 wr) (fun i _=>nk-(intOf i).toNat)
  case atStart=>exact⟨0,Nat.zero_le _,rfl,by simpa using hJ2,Frp.refl _ _⟩
  case round=>
   obtain⟨j,hj1,rfl,hJr,hFr⟩:=hrel
   have hWr:Below w0.heap.size w0 wr:=hW2.trans (hFr.below hW2.size hG0)
   have hGr:∀q o,wr.heap.size≤q→BxN o→¬ Mt q o:=fun q o h hb=>hGW2 q o (Nat.le_trans hFr.size h) hb
   by_cases hlt:j<nk
   ·have hjk:j<ks.length:=by omega
    obtain⟨kb,koff,rfl,hkb,hun,_,C,hC5,hcell,hPk⟩:=hel.at hjk
    clear hun
    obtain⟨z,ab',nb',cb',ac',nc',cc',ad',nd',cd',ae',ne',ce',rfl⟩:=zeY (zoo hPk)
    have y0:=(hWr.cell (p:=⟨kb,koff+j*5,none⟩) hkb).trans (hcell 0 (by omega))
    have y1:=(hWr.cell (p:=⟨kb,koff+j*5+1,none⟩) hkb).trans (hcell 1 (by omega))
    have y2:=(hWr.cell (p:=⟨kb,koff+j*5+2,none⟩) hkb).trans (hcell 2 (by omega))
    have y3:=(hWr.cell (p:=⟨kb,koff+j*5+3,none⟩) hkb).trans (hcell 3 (by omega))
    have y4:=(hWr.cell (p:=⟨kb,koff+j*5+4,none⟩) hkb).trans (hcell 4 (by omega))
    simp only [List.getElem?_cons_zero,List.getElem?_cons_succ]at y0 y1 y2 y3 y4
    have hB3:Below wr.heap.size wr (wr.alloc (.cells #[.int .i64 z,.slice ab' nb' cb',.slice ac' nc' cc',.slice ad' nd' cd',.slice ae' ne' ce'] 37)):=(Below.refl _ _).alloc (Nat.le_refl _) _
    have hmem:ks[j].1∈t.kids:=by rw [←zaa HK];exact List.mem_map.2 ⟨ks[j],List.getElem_mem hjk,rfl⟩
    have hpre:(pre++x::((ks.take j).map (·.2)).flatten)++ks[j].2 <+: XS:=by
     refine List.IsPrefix.trans ?_ hpx
     rw [zaa HX]
     obtain⟨r,hr⟩:=zjP ks (j+1)
     rw [zgd ks j hjk]at hr
     exact⟨r,by simp only [List.append_assoc,List.cons_append]at hr ⊢;rw [hr]⟩
    have hcall:=H (deep+1) _ _ _ _ _ ks[j].1 ks[j].2 hPk (n-1) (pre++x::((ks.take j).map (·.2)).flatten) _ (hWr.trans (hB3.mono hWr.size)) (fun q o h hb=>hGr q o (Nat.le_trans hB3.size h) hb) (hJ _ _ _ hJr (zgV hB3)) hpre (by omega) (zaa HZ _ hmem)
    have HC:=hide hcall
    have F3:=hFr.trans (Frp.ofBelow hB3 Mt)
    have hlt':(j:Int)<(nk:Int):=by omega
    clear hcall hel hcell hPk hmem hpre hB3 hJr hJ2
    have HL:=hide hlen
    have HNK:=hide hnk
    clear hlen hnk
    gi_wp2
    refine⟨trivial,(fun h=>(by cases h)),?_⟩
    refine (zaa HC).mono ?_
    rintro e W3 (⟨rfl,hJ3,hF3⟩ | ⟨rfl,q,hq,hx3⟩)
    ·gi_wp2
     go_roundw
     case rel=>exact⟨j+1,by omega,by go_num,by rw [zgd ks j hjk,←List.cons_append,←List.append_assoc];exact hJ3,F3.trans hF3⟩
     case measure=>simp [intOf];omega
    ·gi_wp2
     go_ret
     refine .inr ⟨rfl,x::((ks.take j).map (·.2)).flatten++q,?_,by rw [←List.append_assoc];exact hx3⟩
     obtain⟨r,hr⟩:=zjP ks (j+1)
     obtain⟨r',hr'⟩:=hq
     rw [zgd ks j hjk,←hr']at hr
     exact⟨r'++r,by rw [zaa HX,←hr];simp⟩
   ·have e:j=nk:=by omega
    subst e
    have HL:=hide hlen
    clear hlen hel
    gi_wp2
    go_ret
    refine .inl ⟨rfl,?_,F2.trans hFr⟩
    rw [zaa HX]
    rw [List.take_of_length_le (by have:=zaa HL;omega)]at hJr
    exact hJr
 ·gi_wp2_with fail
  go_ret
  exact .inr ⟨rfl,[x],by rw [hxs];exact⟨_,rfl⟩,hx2⟩
theorem zqu (w0:World) (l:Nat) (Mt:Nat→Obj→Prop) (hG0:∀i o,i<w0.heap.size→¬ Mt i o) (J Jx:List (It w0)→World→Prop) (XS:List (It w0)) (hJ:∀s W W',J s W→W.grownBy W' none→J s W')
  (hY:∀m pre x W,J pre W→pre++[x] <+: XS→YieldAt Fence.wide m Tryz.prog l (zgv x) W fun e W'=>
   (e=.returned (.bool true)∧J (pre++[x]) W'∧Frp Mt W W')∨(e=.returned (.bool false)∧Jx (pre++[x]) W')) (k:Nat):zhe w0 l Mt J Jx XS k:=by
 induction k with
 | zero=>exact fun _ _ _ _ _ _ t=>t.elim
 | succ k ih=>exact zoS w0 l Mt hG0 J Jx XS hJ hY k ih
set_option maxHeartbeats 1600000 in
theorem zmZ (w0 w:World) (l q k:Nat) (Mt:Nat→Obj→Prop) (hG0:∀i o,i<w0.heap.size→¬ Mt i o) (a b c d e:Value) (t:Tr (k+1)) (xs:List (It w0)) (hP:Pre w0 (k+1) 1 [a,b,c,d,e] t xs) (hsz:szT (k+1) t≤2097152)
  (hw:Below w0.heap.size w0 w) (hl:Loc w q #[a,b,c,d,e] 37):zqF Tryz.prog 131 #[.pointer (some ⟨q,0,none⟩)] zgv BxN Mt xs l w:=by
 intro J Jx hJ hY n W hW hGW h0
 have l1:=hl.all hW
 obtain⟨z,ab,nb,cb,ac,nc,cc,ad,nd,cd,ae,ne,ce,hC⟩:=zeY (zoo hP)
 simp only [List.cons.injEq,and_true]at hC
 obtain⟨rfl,rfl,rfl,rfl,rfl⟩:=hC
 have hc:=zqu w0 l Mt hG0 J Jx xs hJ hY (k+1) 1 _ _ _ _ _ t xs hP (n-1) [] W (hw.trans (hW.mono hw.size)) hGW h0 (by simp) (by omega) (by omega)
 obtain⟨x0,x1,x2,x3,x4⟩:=l1.five
 have HC:=hide hc
 clear hc hY hJ hP
 refine callsIn_of_wp Tryz.func131 rfl trivial ?_ rfl
 simp only [Tryz.ntmps131,List.size_toArray,List.length_cons,List.length_nil,Nat.reduceAdd,Nat.reduceSub,Array.replicate_succ,Array.replicate_zero,List.push_toArray,List.append_toArray,List.nil_append,List.cons_append]
 gi_wp2
 refine⟨trivial,(fun h=>(by cases h)),?_⟩
 refine (zaa HC).mono ?_
 rintro e W3 (⟨rfl,hJ3,hF3⟩ | ⟨rfl,q,hq,hx3⟩)
 ·gi_wp2
  go_end0
  exact⟨⟨_,rfl⟩,.inl (by simpa using hJ3)⟩
 ·gi_wp2
  go_end0
  exact⟨⟨_,rfl⟩,.inr ⟨q,hq,by simpa using hx3⟩⟩
theorem zlq (w:World) (z:Int) (ab ac ad ae:Option Addr) (nb cb nc cc nd cd ne ce:Nat) :
  Calls Tryz.prog 96 #[.agg #[.int .i64 z,.slice ab nb cb,.slice ac nc cc,.slice ad nd cd,.slice ae ne ce]] w fun e w'=>e=.returned (.func (.func 131) #[] #[.pointer (some ⟨w.heap.size,0,none⟩)])∧
   w'=w.alloc (.cells #[.int .i64 z,.slice ab nb cb,.slice ac nc cc,.slice ad nd cd,.slice ae ne ce] 37):=by
 have hmf:∀(fn:Fn) (first cap:Array Value) (w:World),(Instr.makeFunc fn first cap).run Tryz.prog w=.ok (.func fn first cap) w:=fun _ _ _ _=>rfl
 go_enter Tryz.func96,Tryz.ntmps96
 go_wp2
 go_ret
 exact⟨rfl,rfl⟩
end Go.Proofs.YtlpnibbdmkeklaaGreatDoor
namespace Go.Proofs.YtlpnibbdmkeklaaGreatDoor
open Go.RowKit
set_option linter.unusedVariables false
theorem OwElems.naught {α:Type} (w:World) (e:TypeId) (size:Nat) (R:List Value→α→List Nat→Prop):OwElems w e size (.slice none 0 0) ([]:List α) R []:=
 ⟨[],[],rfl,rfl,fun i hi=>by simp at hi,World.ownsRow_nil _ _ _ _,rfl⟩
theorem zqW {l:List (List Int×List Int)} {x:List Int×List Int} (h:x∈l):x.1.length+x.2.length≤szA l:=by
 unfold szA
 have:x.1.length+x.2.length∈l.map (fun x=>x.1.length+x.2.length):=List.mem_map.2 ⟨x,h,rfl⟩
 have:=zlK this
 omega
structure OutAt (n lo:Nat) (w:World) (po:Nat) (kd:Int) (nm tx at' kv:Value) (ln lt:List Int) (la:List (List Int×List Int)) (A:List (Tr (n+1))) (Fa Fk:List Nat):Prop where
 loc:Loc w po #[.int .i64 kd,nm,tx,at',kv] 37
 name:Own w 0 nm ln
 text:Own w 0 tx lt
 attrs:OwAttrs w at' la Fa
 kids:OwKids (n+1) w kv A Fk
 nodup:(FB nm++FB tx++Fa++Fk).Nodup
 rng:∀q∈FB nm++FB tx++Fa++Fk,lo≤q∧q<w.heap.size∧q≠po
section
variable {n lo po:Nat} {w w':World} {kd:Int} {nm tx at' kv:Value} {ln lt:List Int} {la:List (List Int×List Int)} {A:List (Tr (n+1))} {Fa Fk:List Nat}
theorem OutAt.frm {S:List Nat} (h:OutAt n lo w po kd nm tx at' kv ln lt la A Fa Fk) (f:Frm w w' S) (hp:po∉S) (hd:∀q∈FB nm++FB tx++Fa++Fk,q∉S):OutAt n lo w' po kd nm tx at' kv ln lt la A Fa Fk where
 loc:=h.loc.frm f hp
 name:=h.name.frm f (fun q hq=>hd q (by simp only [List.mem_append];exact .inl (.inl (.inl hq))))
 text:=h.text.frm f (fun q hq=>hd q (by simp only [List.mem_append];exact .inl (.inl (.inr hq))))
 attrs:=h.attrs.frm f (fun q hq=>hd q (by simp only [List.mem_append];exact .inl (.inr hq)))
 kids:=OwKids.frm h.kids f (fun q hq=>hd q (by simp only [List.mem_append];exact .inr hq))
 nodup:=h.nodup
 rng:=fun q hq=>⟨(h.rng q hq).1,Nat.lt_of_lt_of_le (h.rng q hq).2.1 f.size,(h.rng q hq).2.2⟩
theorem OutAt.keep (h:OutAt n lo w po kd nm tx at' kv ln lt la A Fa Fk) (hb:Below w.heap.size w w'):OutAt n lo w' po kd nm tx at' kv ln lt la A Fa Fk:=h.frm (Frm.ofBelow hb []) (by simp) (fun _ _=>by simp)
theorem OutAt.node (h:OutAt n lo w po kd nm tx at' kv ln lt la A Fa Fk) (k1 : -9223372036854775808≤kd) (k2:kd≤9223372036854775807):OwNode (n+2) w [.int .i64 kd,nm,tx,at',kv] (⟨kd,ln,lt,la,A⟩:Nd (Tr (n+1))) (FB nm++FB tx++Fa++Fk):=
 ⟨nm,tx,at',kv,Fa,Fk,rfl,k1,k2,h.name,h.text,h.attrs,h.kids,rfl⟩
end
theorem zby {w:World} {po:Nat} {z0 z1 z2 z3 z4:Value} {T:TypeId} (h:Loc w po #[z0,z1,z2,z3,z4] T) (a b c d e:Value) :
  Loc (((((w.setCell ⟨po,0,none⟩ a).setCell ⟨po,1,none⟩ b).setCell ⟨po,2,none⟩ c).setCell ⟨po,3,none⟩ d).setCell ⟨po,4,none⟩ e) po #[a,b,c,d,e] T∧Frm w (((((w.setCell ⟨po,0,none⟩ a).setCell ⟨po,1,none⟩ b).setCell ⟨po,2,none⟩ c).setCell ⟨po,3,none⟩ d).setCell ⟨po,4,none⟩ e) [po]:=
 ⟨((((h.set 0 a).set 1 b).set 2 c).set 3 d).set 4 e,((((Frm.set _ _ _ _).trans (Frm.set _ _ _ _)).trans (Frm.set _ _ _ _)).trans (Frm.set _ _ _ _)).trans (Frm.set _ _ _ _)⟩
theorem zkR {w:World} {b:Nat} {v:Value} {l:List Int} {g:Nat} {cs:Array Value} (ho:Own w b v l) (h:Loc w g cs 37):v.ownBlock≠some g:=by
 intro e
 obtain⟨cur,hc⟩:=zdg ho.2 e
 unfold Loc at h
 rw [h]at hc
 injection hc with hc
 injection hc with _ hc
 revert hc
 decide
theorem zmm {w:World} {v:Value} {l:List (List Int×List Int)} {F:List Nat} {g:Nat} {cs:Array Value} (ho:OwAttrs w v l F) (h:Loc w g cs 37):g∉F:=by
 obtain⟨Cs,Fs,e1,e2,e3,e4,rfl⟩:=ho
 intro hg
 rcases List.mem_append.1 hg with hg | hg
 ·obtain⟨cur,hc⟩:=zdg e4 (g:=g) (by simpa [FB]using hg)
  unfold Loc at h
  rw [h]at hc
  injection hc with hc
  injection hc with _ hc
  revert hc
  decide
 ·obtain⟨G,hG,hgG⟩:=List.mem_flatten.1 hg
  obtain⟨i,hi,hGi⟩:=List.getElem_of_mem hG
  obtain⟨_,a,b,_,oa,ob,hF⟩:=e3 i (by omega)
  have e:Fs.getD i []=G:=by rw [←hGi];simp [hi]
  rw [e]at hF
  rw [hF]at hgG
  rcases List.mem_append.1 hgG with h' | h'
  ·exact zkR oa h (by simpa [FB]using h')
  ·exact zkR ob h (by simpa [FB]using h')
theorem Frm.more {a b c:World} {S S':List Nat} (h:Frm a b S) (k:Frm b c S') (hs:∀q∈S',q∈S∨a.heap.size≤q):Frm a c S:=
 ⟨k.os.trans h.os,k.tape.trans h.tape,k.output.trans h.output,Nat.le_trans h.size k.size,fun i hi hn=>(k.block i (Nat.lt_of_lt_of_le hi h.size) (fun hm=>by
  rcases hs i hm with h' | h'
  ·exact hn h'
  ·omega)).trans (h.block i hi hn)⟩
theorem ziH (w:World) (a b c d e:Value) (T:TypeId):∀(j:Nat) (u:Value),[a,b,c,d,e][j]? = some u→(w.alloc (.cells #[a,b,c,d,e] T)).cell? ((⟨w.heap.size,0,none⟩:Addr).add j)=some u:=by
 intro j u hu
 exact World.news_of_block (heap_alloc_new w (.cells #[a,b,c,d,e] T)) j u (by simpa using hu)
theorem OutAt.setAttrs {n lo po:Nat} {w w':World} {kd:Int} {nm tx at' kv:Value} {ln lt:List Int} {la la':List (List Int×List Int)} {A:List (Tr (n+1))} {Fa Fk S:List Nat} {at2:Value} {Fa':List Nat} (h:OutAt n lo w po kd nm tx at' kv ln lt la A Fa Fk) (f:Frm w w' S) (hd:∀q∈FB nm++FB tx++Fk,q∉S)
  (hl:Loc w' po #[.int .i64 kd,nm,tx,at2,kv] 37) (hk:OwAttrs w' at2 la' Fa') (hN:Fa'.Nodup) (hF:∀q∈Fa',(q∈Fa∨w.heap.size≤q)∧q<w'.heap.size) (hlo:lo≤w.heap.size):OutAt n lo w' po kd nm tx at2 kv ln lt la' A Fa' Fk:=by
 have hpl:=h.loc.lt
 refine⟨hl,h.name.frm f (fun q hq=>hd q (by simp only [List.mem_append];exact .inl (.inl hq))),h.text.frm f (fun q hq=>hd q (by simp only [List.mem_append];exact .inl (.inr hq))),hk,OwKids.frm h.kids f (fun q hq=>hd q (by simp only [List.mem_append];exact .inr hq)),?_,?_⟩
 ·obtain⟨n1,n2,n3⟩:=List.nodup_append.1 h.nodup
  obtain⟨n4,n5,n6⟩:=List.nodup_append.1 n1
  refine List.nodup_append.2 ⟨List.nodup_append.2 ⟨n4,hN,fun a ha b hb e=> ?_⟩,n2,fun a ha b hb e=> ?_⟩
  ·rcases (hF b hb).1 with h' | h'
   ·exact n6 a ha b h' e
   ·have:=(h.rng a (by simp only [List.mem_append]at ha ⊢;exact .inl (.inl ha))).2.1;omega
  ·rcases List.mem_append.1 ha with ha | ha
   ·exact n3 a (List.mem_append_left _ ha) b hb e
   ·rcases (hF a ha).1 with h' | h'
    ·exact n3 a (List.mem_append_right _ h') b hb e
    ·have:=(h.rng b (List.mem_append_right _ hb)).2.1;omega
 ·intro q hq
  simp only [List.mem_append]at hq
  rcases hq with (hq | hq) | hq
  ·have:=h.rng q (by simp only [List.mem_append];exact .inl (.inl hq))
   exact⟨this.1,Nat.lt_of_lt_of_le this.2.1 f.size,this.2.2⟩
  ·refine⟨?_,(hF q hq).2,fun e=>zmm hk hl (e ▸ hq)⟩
   rcases (hF q hq).1 with h' | h'
   ·exact (h.rng q (by simp only [List.mem_append];exact .inl (.inr h'))).1
   ·omega
  ·have:=h.rng q (by simp only [List.mem_append];exact .inr hq)
   exact⟨this.1,Nat.lt_of_lt_of_le this.2.1 f.size,this.2.2⟩
end Go.Proofs.YtlpnibbdmkeklaaGreatDoor
namespace Go.Proofs.YtlpnibbdmkeklaaGreatDoor
open Go.RowKit
set_option linter.unusedVariables false
set_option maxRecDepth 100000
theorem zoP {w:World} {b1 b2 s1 s2 n1 n2:Nat} {T1 T2:TypeId} {v u:Value} {xs ys:List Value} (h:w.ownsRow b1 T1 s1 v n1 xs) (k:w.ownsRow b2 T2 s2 u n2 ys) (hT:T1≠T2):∀q∈FB v,q∉FB u:=by
 intro q hq hq'
 obtain⟨c1,e1⟩:=zdg h (g:=q) (by simpa [FB]using hq)
 obtain⟨c2,e2⟩:=zdg k (g:=q) (by simpa [FB]using hq')
 rw [e1]at e2
 injection e2 with e2
 injection e2 with _ e2
 exact hT e2
theorem zcA {w:World} {b1 s1 n1:Nat} {T1 T2:TypeId} {v:Value} {xs:List Value} {g:Nat} {cs:Array Value} (h:w.ownsRow b1 T1 s1 v n1 xs) (k:Loc w g cs T2) (hT:T1≠T2):g∉FB v:=by
 intro hq
 obtain⟨c1,e1⟩:=zdg h (g:=g) (by simpa [FB]using hq)
 unfold Loc at k
 rw [e1]at k
 injection k with k
 injection k with _ k
 exact hT k
theorem zow (w:World):OwnZ (w.alloc (.cells #[] 3)) w.heap.size (.slice (some ⟨w.heap.size,0,none⟩) 0 0) []:=
 ⟨zdc,rfl,.inr ⟨w.heap.size,0,#[],rfl,Nat.le_refl _,heap_alloc_new w _,Nat.le_refl _,Nat.zero_le _,rfl,rfl⟩⟩
def Cb (m a:Bool) (x y:Value):List Nat:=if a=true then FB y else if m=true then FB x else []
def RwB (w:World) (B:Nat) (m a:Bool) (x y:Value) (l:List Int):Prop:=(m=true→a=false→Own w B x [])∧(a=true→m=true∧Own w B y l)
theorem RwB.start (w:World) (B:Nat) (x y:Value) (l:List Int):RwB w B false false x y l:=⟨fun h=>(by cases h),fun h=>(by cases h)⟩
theorem RwB.cur {w:World} {B:Nat} {m a:Bool} {x y:Value} {l:List Int} (h:RwB w B m a x y l) {q:Nat} (hq:q∈Cb m a x y):∃u k,Own w B u k∧q∈FB u∧Cb m a x y=FB u:=by
 unfold Cb at hq ⊢
 cases a with
 | true=>exact⟨y,l,(h.2 rfl).2,by simpa using hq,by simp⟩
 | false=>
  cases m with
  | true=>exact⟨x,[],h.1 rfl rfl,by simpa using hq,by simp⟩
  | false=>simp at hq
theorem RwB.lt {w:World} {B:Nat} {m a:Bool} {x y:Value} {l:List Int} (h:RwB w B m a x y l) {q:Nat} (hq:q∈Cb m a x y):B≤q∧q<w.heap.size:=by
 obtain⟨u,k,ho,hu,_⟩:=h.cur hq
 exact ho.lt q (by simpa [FB]using hu)
theorem RwB.frm {w w':World} {B:Nat} {m a:Bool} {x y:Value} {l:List Int} {S:List Nat} (h:RwB w B m a x y l) (f:Frm w w' S) (hd:∀q∈Cb m a x y,q∉S):RwB w' B m a x y l:=by
 refine⟨fun hm ha=> ?_,fun ha=>⟨(h.2 ha).1,?_⟩⟩
 ·subst hm ha
  exact⟨(h.1 rfl rfl).1,zah (h.1 rfl rfl).2 f (fun g hg=>hd g (by simpa [Cb]using hg))⟩
 ·subst ha
  exact⟨(h.2 rfl).2.1,zah (h.2 rfl).2.2 f (fun g hg=>hd g (by simpa [Cb]using hg))⟩
theorem RwB.keep {w w':World} {B:Nat} {m a:Bool} {x y:Value} {l:List Int} (h:RwB w B m a x y l) (hb:Below w.heap.size w w'):RwB w' B m a x y l:=h.frm (Frm.ofBelow hb []) (fun _ _=>by simp)
theorem RwB.off {w:World} {B:Nat} {m a:Bool} {x y:Value} {l:List Int} (h:RwB w B m a x y l) (hm:m=false):a=false:=by
 cases a with
 | false=>rfl
 | true=>have:=(h.2 rfl).1;rw [hm]at this;cases this
theorem RwB.make {w:World} {B:Nat} {a:Bool} {x y:Value} {l:List Int} (h:RwB w B false a x y l) (hB:B≤w.heap.size):RwB (w.alloc (.cells #[] 5)) B true a (.slice (some ⟨w.heap.size,0,none⟩) 0 0) y l:=by
 have ha:=h.off rfl
 subst ha
 exact⟨fun _ _=>(zkD w).mono hB,fun h=>by cases h⟩
theorem RwB.notL {w:World} {B:Nat} {m a:Bool} {x y:Value} {l:List Int} (h:RwB w B m a x y l) {g:Nat} {cs:Array Value} {T:TypeId} (k:Loc w g cs T) (hT:5≠T):g∉Cb m a x y:=fun hq=>by
 obtain⟨u,k',ho,hu,_⟩:=h.cur hq
 exact zcA ho.2 k hT hu
def RwZ (w:World) (B:Nat) (m a:Bool) (x y:Value) (l:List Int):Prop:=(m=true→a=false→OwnZ w B x [])∧(a=true→m=true∧OwnZ w B y l)
theorem RwZ.start (w:World) (B:Nat) (x y:Value) (l:List Int):RwZ w B false false x y l:=⟨fun h=>(by cases h),fun h=>(by cases h)⟩
theorem RwZ.cur {w:World} {B:Nat} {m a:Bool} {x y:Value} {l:List Int} (h:RwZ w B m a x y l) {q:Nat} (hq:q∈Cb m a x y):∃u k,OwnZ w B u k∧q∈FB u∧Cb m a x y=FB u:=by
 unfold Cb at hq ⊢
 cases a with
 | true=>exact⟨y,l,(h.2 rfl).2,by simpa using hq,by simp⟩
 | false=>
  cases m with
  | true=>exact⟨x,[],h.1 rfl rfl,by simpa using hq,by simp⟩
  | false=>simp at hq
theorem RwZ.lt {w:World} {B:Nat} {m a:Bool} {x y:Value} {l:List Int} (h:RwZ w B m a x y l) {q:Nat} (hq:q∈Cb m a x y):B≤q∧q<w.heap.size:=by
 obtain⟨u,k,ho,hu,_⟩:=h.cur hq
 exact ho.lt q (by simpa [FB]using hu)
theorem RwZ.frm {w w':World} {B:Nat} {m a:Bool} {x y:Value} {l:List Int} {S:List Nat} (h:RwZ w B m a x y l) (f:Frm w w' S) (hd:∀q∈Cb m a x y,q∉S):RwZ w' B m a x y l:=by
 refine⟨fun hm ha=> ?_,fun ha=>⟨(h.2 ha).1,?_⟩⟩
 ·subst hm ha
  exact⟨(h.1 rfl rfl).1,zah (h.1 rfl rfl).2 f (fun g hg=>hd g (by simpa [Cb]using hg))⟩
 ·subst ha
  exact⟨(h.2 rfl).2.1,zah (h.2 rfl).2.2 f (fun g hg=>hd g (by simpa [Cb]using hg))⟩
theorem RwZ.keep {w w':World} {B:Nat} {m a:Bool} {x y:Value} {l:List Int} (h:RwZ w B m a x y l) (hb:Below w.heap.size w w'):RwZ w' B m a x y l:=h.frm (Frm.ofBelow hb []) (fun _ _=>by simp)
theorem RwZ.off {w:World} {B:Nat} {m a:Bool} {x y:Value} {l:List Int} (h:RwZ w B m a x y l) (hm:m=false):a=false:=by
 cases a with
 | false=>rfl
 | true=>have:=(h.2 rfl).1;rw [hm]at this;cases this
theorem RwZ.make {w:World} {B:Nat} {a:Bool} {x y:Value} {l:List Int} (h:RwZ w B false a x y l) (hB:B≤w.heap.size):RwZ (w.alloc (.cells #[] 3)) B true a (.slice (some ⟨w.heap.size,0,none⟩) 0 0) y l:=by
 have ha:=h.off rfl
 subst ha
 exact⟨fun _ _=>(zow w).mono hB,fun h=>by cases h⟩
theorem RwZ.notL {w:World} {B:Nat} {m a:Bool} {x y:Value} {l:List Int} (h:RwZ w B m a x y l) {g:Nat} {cs:Array Value} {T:TypeId} (k:Loc w g cs T) (hT:3≠T):g∉Cb m a x y:=fun hq=>by
 obtain⟨u,k',ho,hu,_⟩:=h.cur hq
 exact zcA ho.2 k hT hu
theorem Rw.zb {w:World} {B B':Nat} {m a m' a':Bool} {x y x' y':Value} {l l':List Int} (h:RwZ w B m a x y l) (k:RwB w B' m' a' x' y' l'):∀q∈Cb m a x y,q∉Cb m' a' x' y':=fun q hq hq'=>by
 obtain⟨u,_,ho,hu,_⟩:=h.cur hq
 obtain⟨v,_,ho',hv,_⟩:=k.cur hq'
 exact zoP ho.2 ho'.2 (by decide) q hu hv
theorem OwPlC.lt {w:World} {C:List Value} {p:PlV} {F:List Nat} (h:OwPlC w C p F):∀g∈F,g<w.heap.size:=by
 obtain⟨k,n,t,a,Fa,_,h1,h2,h3,h4,rfl⟩:=h
 intro g hg
 rcases List.mem_append.1 hg with hg | hg
 ·rcases List.mem_append.1 hg with hg | hg
  ·rcases List.mem_append.1 hg with hg | hg
   ·exact (h1.lt g (by simpa [FB]using hg)).2
   ·exact (h2.lt g (by simpa [FB]using hg)).2
  ·exact (h3.lt g (by simpa [FB]using hg)).2
 ·exact OwAttrs.lt h4 g hg
theorem OwPls.lt {w:World} {v:Value} {l:List PlV} {F:List Nat} (h:OwPls w v l F):∀g∈F,g<w.heap.size:=OwElems.lt h (fun _ _ _ hr=>hr.lt)
theorem zhE {w:World} {v:Value} {l:List (List Int×List Int)} {F:List Nat} {g:Nat} {cs:Array Value} (ho:OwAttrs w v l F) (h:Loc w g cs 117):g∉F:=by
 obtain⟨Cs,Fs,e1,e2,e3,e4,rfl⟩:=ho
 intro hg
 rcases List.mem_append.1 hg with hg | hg
 ·exact zcA e4 h (by decide) hg
 ·obtain⟨G,hG,hgG⟩:=List.mem_flatten.1 hg
  obtain⟨i,hi,rfl⟩:=List.getElem_of_mem hG
  obtain⟨_,a,b,_,q1,q2,q3⟩:=e3 i (by omega)
  rw [show Fs.getD i []=Fs[i] by simp [hi]]at q3
  rw [q3]at hgG
  rcases List.mem_append.1 hgG with h' | h'
  ·exact zcA q1.2 h (by decide) h'
  ·exact zcA q2.2 h (by decide) h'
def RowM (w:World) (base:Nat) (v:Value) (l:List Int):Prop:=
 okB l∧((v=.slice none 0 0∧l=[])∨
  ∃g cap cur fz,v=.slice (some ⟨g,0,none⟩) l.length cap∧base≤g∧w.heap[g]? = some (.cells cur 5 fz)∧(∀j,j<cap→¬ (fz.1≤j∧j<fz.2))∧l.length≤cap∧cap≤maxLen∧cur.size=cap∧cur.toList.take l.length=vals l)
theorem Own.rowm {w:World} {base:Nat} {v:Value} {l:List Int} (h:Own w base v l):RowM w base v l:=by
 refine⟨h.1,?_⟩
 rcases h.2.2 with ⟨e,hz⟩ | ⟨g,cap,cur,e,hb,hg,h1,h2,h3,h4⟩
 ·exact .inl ⟨e,List.eq_nil_of_length_eq_zero hz⟩
 ·exact .inr ⟨g,cap,cur,(0,0),e,hb,hg,fun j _ hj=>by simp at hj,h1,h2,by simpa using h3,by simpa using h4⟩
theorem RowM.lt {w:World} {base:Nat} {v:Value} {l:List Int} (h:RowM w base v l):∀k,v.ownBlock=some k→base≤k∧k<w.heap.size:=by
 intro k hk
 rcases h.2 with ⟨rfl,_⟩ | ⟨g,cap,cur,fz,rfl,hb,hg,_⟩
 ·simp [Value.ownBlock]at hk
 ·simp [Value.ownBlock]at hk
  subst hk
  exact⟨hb,(Array.getElem?_eq_some_iff.1 hg).1⟩
theorem RowM.mono {w:World} {base base':Nat} {v:Value} {l:List Int} (h:RowM w base v l) (hb:base'≤base):RowM w base' v l:=by
 refine⟨h.1,?_⟩
 rcases h.2 with h' | ⟨g,cap,cur,fz,e,h1,h2⟩
 ·exact .inl h'
 ·exact .inr ⟨g,cap,cur,fz,e,by omega,h2⟩
theorem RowM.frm {w w':World} {base:Nat} {v:Value} {l:List Int} {S:List Nat} (h:RowM w base v l) (f:Frm w w' S) (hd:∀g∈FB v,g∉S):RowM w' base v l:=by
 refine⟨h.1,?_⟩
 rcases h.2 with h' | ⟨g,cap,cur,fz,rfl,h1,hg,h2⟩
 ·exact .inl h'
 ·have hlt:g<w.heap.size:=(Array.getElem?_eq_some_iff.1 hg).1
  exact .inr ⟨g,cap,cur,fz,rfl,h1,(f.block g hlt (hd g (by simp [FB,Value.ownBlock]))).trans hg,h2⟩
theorem RowM.keep {w w':World} {base:Nat} {v:Value} {l:List Int} (h:RowM w base v l) (hB:Below w.heap.size w w'):RowM w' base v l:=h.frm (Frm.ofBelow hB []) (fun _ _=>by simp)
theorem RowM.rng {w:World} {base:Nat} {v:Value} {l:List Int} (h:RowM w base v l):Rng (FB v) base w.heap.size:=fun g hg=>h.lt g (by simpa [FB]using hg)
theorem RowM.shape {w:World} {base:Nat} {v:Value} {l:List Int} (h:RowM w base v l):∃a c,v=.slice a l.length c:=by
 rcases h.2 with ⟨rfl,rfl⟩ | ⟨g,cap,cur,fz,rfl,_⟩
 ·exact⟨none,0,rfl⟩
 ·exact⟨_,_,rfl⟩
theorem zrM {xs:List Value} {m:Nat} {ys:List Value} (h:xs.take m=ys) {i:Nat} (hi:i<m):xs[i]? = ys[i]? :=by
 rw [←h,List.getElem?_take,if_pos hi]
theorem RowM.byt {w:World} {base:Nat} {v:Value} {l:List Int} (h:RowM w base v l):Byt w v l:=by
 rcases h.2 with ⟨rfl,rfl⟩ | ⟨g,cap,cur,fz,rfl,hb,hg,hf,h1,h2,h3,h4⟩
 ·exact⟨h.1,by simp [maxLen],.inl ⟨rfl,rfl⟩⟩
 ·refine⟨h.1,by omega,?_⟩
  by_cases h0:l=[]
  ·subst h0
   exact .inr (.inl ⟨_,cap,rfl,h2,rfl⟩)
  ·refine .inr (.inr ⟨g,0,cap,rfl,h1,h2,h0,(Array.getElem?_eq_some_iff.1 hg).1,fun i hi=> ?_⟩)
   rw [Nat.zero_add,cell_of_row w g i cur _ fz hg]
   have:=zrM h4 hi
   rw [zdd hi]at this
   simpa using this
def OwPlM (w:World) (C:List Value) (p:PlV) (F:List Nat):Prop:=∃k n t a Fa,C=[.int .i64 p.idN,.int .i64 p.idR,.int .i64 p.parN,.int .i64 p.parR,k,.int .i64 p.kind,n,t,a]∧OwnZ w 0 k p.key∧RowM w 0 n p.name∧Own w 0 t p.text∧OwAttrs w a p.attrs Fa∧F=FB k++FB n++FB t++Fa
def OwPlsM (w:World) (v:Value) (l:List PlV) (F:List Nat):Prop:=OwElems w 117 9 v l (OwPlM w) F
theorem OwPlM.frm {w w':World} {C:List Value} {p:PlV} {F S:List Nat} (h:OwPlM w C p F) (f:Frm w w' S) (hd:∀g∈F,g∉S):OwPlM w' C p F:=by
 obtain⟨k,n,t,a,Fa,e,h1,h2,h3,h4,rfl⟩:=h
 exact⟨k,n,t,a,Fa,e,⟨h1.1,zah h1.2 f (fun g hg=>hd g (by simp [hg]))⟩,h2.frm f (fun g hg=>hd g (by simp [hg])),h3.frm f (fun g hg=>hd g (by simp [hg])),OwAttrs.frm h4 f (fun g hg=>hd g (by simp [hg])),rfl⟩
theorem OwPlsM.frm {w w':World} {v:Value} {l:List PlV} {F S:List Nat} (h:OwPlsM w v l F) (f:Frm w w' S) (hd:∀g∈F,g∉S):OwPlsM w' v l F:=OwElems.frm h f hd (fun C x G hr hG=>hr.frm f hG)
theorem OwPlM.rd {w:World} {C:List Value} {p:PlV} {F:List Nat} (h:OwPlM w C p F):RdPlC w C p:=by
 obtain⟨k,n,t,a,Fa,e,h1,h2,h3,h4,_⟩:=h
 exact⟨k,n,t,a,e,h1.ints,h2.byt,h3.byt,h4.rd⟩
theorem OwPlsM.rd {w:World} {v:Value} {l:List PlV} {F:List Nat} (h:OwPlsM w v l F):RdPls w v l:=OwElems.rd h (OwElems.len h) (fun C x G hr=>hr.rd)
theorem OwPlM.lt {w:World} {C:List Value} {p:PlV} {F:List Nat} (h:OwPlM w C p F):∀g∈F,g<w.heap.size:=by
 obtain⟨k,n,t,a,Fa,_,h1,h2,h3,h4,rfl⟩:=h
 intro g hg
 rcases List.mem_append.1 hg with hg | hg
 ·rcases List.mem_append.1 hg with hg | hg
  ·rcases List.mem_append.1 hg with hg | hg
   ·exact (h1.lt g (by simpa [FB]using hg)).2
   ·exact (h2.lt g (by simpa [FB]using hg)).2
  ·exact (h3.lt g (by simpa [FB]using hg)).2
 ·exact OwAttrs.lt h4 g hg
theorem OwPlsM.lt {w:World} {v:Value} {l:List PlV} {F:List Nat} (h:OwPlsM w v l F):∀g∈F,g<w.heap.size:=OwElems.lt h (fun _ _ _ hr=>hr.lt)
theorem zqy {w:World} {base:Nat} {v:Value} {l:List Int} (h:RowM w base v l):∀g∈FB v,∃cs fz,w.heap[g]? = some (.cells cs 5 fz):=fun g hg=>by
 rcases h.2 with ⟨rfl,_⟩ | ⟨g',cap,cur,fz,rfl,_,hh,_⟩
 ·simp [FB,Value.ownBlock]at hg
 ·have e:g=g':=by simpa [FB,Value.ownBlock,eq_comm]using hg
  subst e
  exact⟨cur,fz,hh⟩
end Go.Proofs.YtlpnibbdmkeklaaGreatDoor
namespace Go.Proofs.YtlpnibbdmkeklaaGreatDoor
open Go.RowKit Go.Maps
set_option linter.unusedVariables false
set_option maxRecDepth 100000
def CellT (w:World) (q:Nat):Prop:=∃cs T fz,w.heap[q]? = some (.cells cs T fz)∧(T=117∨T=3∨T=5∨T=144)
theorem zdx {w:World} {b s n:Nat} {T:TypeId} {v:Value} {xs:List Value} (h:w.ownsRow b T s v n xs) (hT:T=117∨T=3∨T=5∨T=144):∀q∈FB v,CellT w q:=fun q hq=>by
 obtain⟨cs,e⟩:=zdg h (g:=q) (by simpa [FB]using hq)
 exact⟨cs,T,_,e,hT⟩
theorem zeE {α:Type} {w:World} {e:TypeId} {size:Nat} {v:Value} {l:List α} {R:List Value→α→List Nat→Prop} {F:List Nat} (h:OwElems w e size v l R F) (he:e=117∨e=3∨e=5∨e=144) (hR:∀C x G,R C x G→∀q∈G,CellT w q):∀q∈F,CellT w q:=by
 obtain⟨Cs,Fs,e1,e2,e3,e4,rfl⟩:=h
 intro q hq
 rcases List.mem_append.1 hq with hq | hq
 ·exact zdx e4 he q hq
 ·obtain⟨G,hG,hgG⟩:=List.mem_flatten.1 hq
  obtain⟨i,hi,rfl⟩:=List.getElem_of_mem hG
  have:=(e3 i (by omega)).2
  rw [show Fs.getD i []=Fs[i] by simp [hi]]at this
  exact hR _ _ _ this q hgG
theorem OwAttrs.typ {w:World} {v:Value} {l:List (List Int×List Int)} {F:List Nat} (h:OwAttrs w v l F):∀q∈F,CellT w q:=
 zeE h (.inr (.inr (.inr rfl))) (fun C x G ⟨a,b,_,h1,h2,e⟩ q hq=>by
  rw [e]at hq
  rcases List.mem_append.1 hq with hq | hq
  ·exact zdx h1.2 (.inr (.inr (.inl rfl))) q hq
  ·exact zdx h2.2 (.inr (.inr (.inl rfl))) q hq)
theorem OwPlM.typ {w:World} {C:List Value} {p:PlV} {F:List Nat} (h:OwPlM w C p F):∀q∈F,CellT w q:=by
 obtain⟨k,n,t,a,Fa,_,h1,h2,h3,h4,rfl⟩:=h
 intro g hg
 rcases List.mem_append.1 hg with hg | hg
 ·rcases List.mem_append.1 hg with hg | hg
  ·rcases List.mem_append.1 hg with hg | hg
   ·exact zdx h1.2 (.inr (.inl rfl)) g hg
   ·obtain⟨cs,fz,e⟩:=zqy h2 g hg
    exact⟨cs,_,fz,e,.inr (.inr (.inl rfl))⟩
  ·exact zdx h3.2 (.inr (.inr (.inl rfl))) g hg
 ·exact OwAttrs.typ h4 g hg
theorem OwPlsM.typ {w:World} {v:Value} {l:List PlV} {F:List Nat} (h:OwPlsM w v l F):∀q∈F,CellT w q:=zeE h (.inl rfl) (fun _ _ _ hr=>hr.typ)
theorem CellT.notMap {w:World} {q:Nat} (h:CellT w q) {es:Array MapEntry} {c:Nat}:w.heap[q]?≠some (.map es c):=by
 obtain⟨cs,T,fz,e,_⟩:=h
 rw [e]
 intro h
 cases h
theorem CellT.notL {w:World} {q:Nat} (h:CellT w q) {cs:Array Value} {T:TypeId} (hT:T≠117∧T≠3∧T≠5∧T≠144):¬ Loc w q cs T:=by
 obtain⟨cs',T',fz',e,h⟩:=h
 unfold Loc
 rw [e]
 intro h'
 injection h' with h'
 injection h' with _ h' _
 subst h'
 rcases h with h | h | h | h
 ·exact hT.1 h
 ·exact hT.2.1 h
 ·exact hT.2.2.1 h
 ·exact hT.2.2.2 h
def Cells (w:World) (q:Nat):Prop:=∃cs T fz,w.heap[q]? = some (.cells cs T fz)
theorem Cells.ofL {w:World} {q:Nat} {cs:Array Value} {T:TypeId} (h:Loc w q cs T):Cells w q:=⟨cs,T,_,h⟩
theorem CellT.cells {w:World} {q:Nat} (h:CellT w q):Cells w q:=by
 obtain⟨cs,T,fz,e,_⟩:=h
 exact⟨cs,T,fz,e⟩
theorem FSet.lt {B:Nat} {o p:Value} {w:World} {g:Nat} (h:FSet B o p w g):g<w.heap.size:=by
 rcases h with h | ⟨m,_,h,_⟩
 ·exact h.lt
 ·exact h.lt
theorem zjQ:∃es c,zbs=.map es c:=⟨_,_,rfl⟩
theorem FSet.frm {B:Nat} {o p:Value} {w w':World} {g:Nat} {S:List Nat} (h:FSet B o p w g) (f:Frm w w' S) (hg:g∉S) (hS:∀q∈S,q<B∨Cells w q):FSet B o p w' g:=by
 rcases h with h | ⟨m,hm,h,hv⟩
 ·exact .inl (h.frm f hg)
 ·have hlt:m<w.heap.size:=by
   by_cases e:m<w.heap.size
   ·exact e
   ·rw [Array.getElem?_eq_none (by omega)]at hv;cases hv
  refine .inr ⟨m,hm,h.frm f hg,(f.block m hlt (fun e=> ?_)).trans hv⟩
  rcases hS m e with e' | ⟨cs,T,fz,e'⟩
  ·omega
  ·obtain⟨es,c,ev⟩:=zjQ
   rw [hv,ev]at e'
   cases e'
theorem FSet.loc {B:Nat} {o p:Value} {w:World} {g:Nat} (h:FSet B o p w g):∃cs,Loc w g cs 112∧cs[0]? = some o∧cs[1]? = some p:=by
 rcases h with h | ⟨m,_,h,_⟩
 ·exact⟨_,h,rfl,rfl⟩
 ·exact⟨_,h,rfl,rfl⟩
structure FoS (B:Nat) (w:World) (g mb:Nat) (a:Option Addr) (c:Nat) (l:List PlV) (F:List Nat):Prop where
 set:FSet (mb+1) (.slice a l.length c) (.map (some mb)) w g
 map:AtM w mb l
 row:OwPlsM w (.slice a l.length c) l F
 nd:F.Nodup
 ge:∀q∈F,B≤q
 geg:B≤g
 gem:B≤mb
 ids:∀p∈l,okI p.id∧okI p.par
 len:l.length≤100000
theorem FoS.gF {B:Nat} {w:World} {g mb:Nat} {a:Option Addr} {c:Nat} {l:List PlV} {F:List Nat} (h:FoS B w g mb a c l F):g∉F:=fun hg=>by
 obtain⟨cs,hl,_⟩:=h.set.loc
 exact (OwPlsM.typ h.row g hg).notL (by decide) hl
theorem FoS.mF {B:Nat} {w:World} {g mb:Nat} {a:Option Addr} {c:Nat} {l:List PlV} {F:List Nat} (h:FoS B w g mb a c l F):mb∉F:=fun hg=>by
 obtain⟨es,k,e⟩:=h.map.isMap
 exact (OwPlsM.typ h.row mb hg).notMap e
theorem FoS.gm {B:Nat} {w:World} {g mb:Nat} {a:Option Addr} {c:Nat} {l:List PlV} {F:List Nat} (h:FoS B w g mb a c l F):g≠mb:=fun e=>by
 obtain⟨es,k,e'⟩:=h.map.isMap
 obtain⟨cs,hl,_⟩:=h.set.loc
 unfold Loc at hl
 rw [e,e']at hl
 cases hl
theorem FoS.frm {B:Nat} {w w':World} {g mb:Nat} {a:Option Addr} {c:Nat} {l:List PlV} {F S:List Nat} (h:FoS B w g mb a c l F) (f:Frm w w' S) (hg:g∉S) (hm:mb∉S) (hF:∀q∈F,q∉S) (hS:∀q∈S,Cells w q):FoS B w' g mb a c l F:=
 ⟨h.set.frm f hg (fun q hq=>.inr (hS q hq)),h.map.frm f hm,h.row.frm f hF,h.nd,h.ge,h.geg,h.gem,h.ids,h.len⟩
theorem FoS.keep {B:Nat} {w w':World} {g mb:Nat} {a:Option Addr} {c:Nat} {l:List PlV} {F:List Nat} (h:FoS B w g mb a c l F) (hb:Below w.heap.size w w'):FoS B w' g mb a c l F:=h.frm (Frm.ofBelow hb []) (by simp) (by simp) (fun _ _=>by simp) (fun q hq=>by cases hq)
theorem FoS.box {B:Nat} {w:World} {g mb:Nat} {a:Option Addr} {c:Nat} {l:List PlV} {F:List Nat} (h:FoS B w g mb a c l F) {q:Nat} {cs:Array Value} {T:TypeId} (k:Loc w q cs T) (hT:T≠117∧T≠3∧T≠5∧T≠144) (hT':T≠112):q∉g::mb::F:=fun hq=>by
 rcases List.mem_cons.1 hq with rfl | hq
 ·obtain⟨cs',hl,_⟩:=h.set.loc
  unfold Loc at hl k
  rw [hl]at k
  injection k with k
  injection k with _ k
  exact hT' k.symm
 ·rcases List.mem_cons.1 hq with rfl | hq
  ·obtain⟨es,k',e'⟩:=h.map.isMap
   unfold Loc at k
   rw [e']at k
   cases k
  ·exact (OwPlsM.typ h.row q hq).notL hT k
def FoT (B:Nat) (w:World) (g mb:Nat) (l':List PlV) (F:List Nat) (w':World):Prop:=∃a' c' F',FoS B w' g mb a' c' l' F'∧Frm w w' (g::mb::F)∧∀q∈F',q∈F∨w.heap.size≤q
end Go.Proofs.YtlpnibbdmkeklaaGreatDoor
namespace Go.Proofs.YtlpnibbdmkeklaaGreatDoor
open Go.RowKit
set_option linter.unusedVariables false
set_option maxRecDepth 100000
theorem Loc.twelve {w:World} {g:Nat} {v0 v1 v2 v3 v4 v5 v6 v7 v8 v9 v10 v11:Value} {T:TypeId} (h:Loc w g #[v0,v1,v2,v3,v4,v5,v6,v7,v8,v9,v10,v11] T) :
  w.cell? ⟨g,0,none⟩=some v0∧w.cell? ⟨g,1,none⟩=some v1∧w.cell? ⟨g,2,none⟩=some v2∧w.cell? ⟨g,3,none⟩=some v3∧w.cell? ⟨g,4,none⟩=some v4∧w.cell? ⟨g,5,none⟩=some v5∧w.cell? ⟨g,6,none⟩=some v6∧w.cell? ⟨g,7,none⟩=some v7∧w.cell? ⟨g,8,none⟩=some v8∧w.cell? ⟨g,9,none⟩=some v9∧w.cell? ⟨g,10,none⟩=some v10∧w.cell? ⟨g,11,none⟩=some v11:=
 ⟨h.cell 0,h.cell 1,h.cell 2,h.cell 3,h.cell 4,h.cell 5,h.cell 6,h.cell 7,h.cell 8,h.cell 9,h.cell 10,h.cell 11⟩
theorem RdOp.keep {w w':World} {v:Value} {o:OpV} (h:RdOp w v o) (hb:Below w.heap.size w w'):RdOp w' v o:=by
 obtain⟨k,n,t,rfl,h1,h2,h3⟩:=h
 exact⟨k,n,t,rfl,h1.keep hb,h2.keep hb,h3.keep hb⟩
def OwOp (w:World) (base:Nat) (o:OpV) (k n t:Value):Prop:=OwnZ w base k o.key∧Own w base n o.name∧Own w base t o.text∧(FB k++FB n++FB t).Nodup
theorem OwOp.keep {w w':World} {base:Nat} {o:OpV} {k n t:Value} (h:OwOp w base o k n t) (hb:Below w.heap.size w w'):OwOp w' base o k n t:=⟨h.1.keep hb,h.2.1.keep hb,h.2.2.1.keep hb,h.2.2.2⟩
theorem OwOp.rd {w:World} {base:Nat} {o:OpV} {k n t:Value} (h:OwOp w base o k n t):RdOp w (zaU o k n t) o:=⟨k,n,t,rfl,h.1.ints,h.2.1.byt,h.2.2.1.byt⟩
theorem zpW (w:World) (v:Value) (o:OpV) (h:RdOp w v o) (hs:o.key.length+o.name.length+o.text.length≤2097152) :
  Calls Tryz.prog 45 #[v] w fun e w'=>∃a1 c1 a2 c2 a3 c3,e=.returned (zaU o (.slice a1 o.key.length c1) (.slice a2 o.name.length c2) (.slice a3 o.text.length c3))∧OwOp w' w.heap.size o (.slice a1 o.key.length c1) (.slice a2 o.name.length c2) (.slice a3 o.text.length c3)∧Below w.heap.size w w':=by
 refine (zpP w v o h hs).mono ?_
 rintro e w' ⟨k,n,t,rfl,h1,h2,h3,h4,h5⟩
 obtain⟨a1,c1,rfl,_,_⟩:=h1.ints.shape
 obtain⟨a2,c2,rfl,_,_⟩:=h2.byt.shape
 obtain⟨a3,c3,rfl,_,_⟩:=h3.byt.shape
 exact⟨a1,c1,a2,c2,a3,c3,rfl,⟨h1,h2,h3,h4⟩,h5⟩
theorem zaf {P:Program} {f:FuncId} {args:Array Value} {w:World} {R:Ending→World→Prop} (h:∀Q:Ending→World→Prop,Hid (∀e w',R e w'→Q e w')→Calls P f args w Q):Calls P f args w R:=h R (hide fun _ _ h=>h)
end Go.Proofs.YtlpnibbdmkeklaaGreatDoor
namespace Go.Proofs.YtlpnibbdmkeklaaGreatDoor
open Go.RowKit Go.Maps
set_option linter.unusedVariables false
set_option maxRecDepth 100000
theorem FoS.at {B:Nat} {w:World} {g mb:Nat} {a:Option Addr} {c:Nat} {l:List PlV} {F:List Nat} (h:FoS B w g mb a c l F) (hl:0<l.length):∃gr,a=some ⟨gr,0,none⟩∧gr∈F:=by
 obtain⟨Cs,Fs,e1,e2,e3,e4,rfl⟩:=h.row
 obtain⟨gr,cap,e,_,_⟩:=e4.form hl
 injection e with e _ _
 subst e
 exact⟨gr,rfl,List.mem_append_left _ (by simp [FB,Value.ownBlock])⟩
set_option maxHeartbeats 1600000 in
theorem zcj {B:Nat} {w:World} {g mb:Nat} {a:Option Addr} {c:Nat} {l:List PlV} {F:List Nat} (h:FoS B w g mb a c l F) (i:IdV) (hi:okI i) :
  Calls Tryz.prog 54 #[.pointer (some ⟨g,0,none⟩),zap i] w fun e w'=>(posP l i=none→e=.returned (.pointer none))∧(∀k,posP l i=some k→∃gr,a=some ⟨gr,0,none⟩∧e=.returned (.pointer (some ⟨gr,k*9,none⟩)))∧Below w.heap.size w w':=by
 have hA:Below w.heap.size w (w.alloc (.cells #[.int .i64 i.1,.int .i64 i.2] 81)):=(Below.refl _ _).alloc (Nat.le_refl _) _
 have lb:=Loc.made w #[.int .i64 i.1,.int .i64 i.2] 81
 have hd:Below (w.alloc (.cells #[.int .i64 i.1,.int .i64 i.2] 81)).heap.size (w.alloc (.cells #[.int .i64 i.1,.int .i64 i.2] 81)) (w.alloc (.cells #[.int .i64 i.1,.int .i64 i.2] 81)).drew:=(Below.refl _ _).drew
 have h1:=h.keep hA
 have h2:=h1.keep hd
 obtain⟨cs,lg,hc0,hc1⟩:=h2.set.loc
 obtain⟨ci,hrun,hci⟩:=h2.map.look hi
 have g0:=lg.cell 0
 have g1:=lg.cell 1
 rw [hc0]at g0
 rw [hc1]at g1
 have hbw:=zad hA hd
 have hat:=h.at
 have hlen:=h.len
 have hP:∀k,posP l i=some k→k<l.length:=fun k hk=>(posP_some.1 hk).1
 unfold zap at *
 have LL:=hide (And.intro hbw (And.intro hat (And.intro hci hP)))
 have lbd:=lb.all hd
 have b0:=lbd.cell 0
 have b1:=lbd.cell 1
 clear h h1 h2 hA hd lb lbd lg hc0 hc1 hbw hat hci hP hi
 refine zaf ?_
 intro Q HQ
 generalize hp:posP l i=po at *
 go_enter Tryz.func54,Tryz.ntmps54
 go_wp2_with fail
 go_region
 cases po with
 | none=>
  go_wp2_with fail
  exact zaa HQ _ _ ⟨fun _=>rfl,fun k hk=>(by cases hk),(zaa LL).1⟩
 | some k=>
  have hkl:=(zaa LL).2.2.2 k rfl
  have hck:=(zaa LL).2.2.1 k rfl
  obtain⟨gr,rfl,_⟩:=(zaa LL).2.1 (by omega)
  subst hck
  have hk0:(0:Int)≤(k:Int):=by omega
  have hkl':(k:Int)<(l.length:Int):=by omega
  go_wp2_with fail
  exact zaa HQ _ _ ⟨fun h=>(by cases h),fun k' hk=>(by cases hk;exact⟨gr,rfl,rfl⟩),(zaa LL).1⟩
theorem FoS.own {B:Nat} {w:World} {g mb gr:Nat} {c:Nat} {l:List PlV} {F:List Nat} (h:FoS B w g mb (some ⟨gr,0,none⟩) c l F) {k:Nat} (hk:k<l.length) :
  ∃(k1:Option Addr) (ck:Nat) (n1:Option Addr) (cn:Nat) (t1:Option Addr) (ct:Nat) (a1:Option Addr) (ca:Nat) (Fa:List Nat),w.cell? ⟨gr,k*9,none⟩=some (.int .i64 l[k].idN)∧w.cell? ⟨gr,k*9+1,none⟩=some (.int .i64 l[k].idR)∧w.cell? ⟨gr,k*9+2,none⟩=some (.int .i64 l[k].parN)∧w.cell? ⟨gr,k*9+3,none⟩=some (.int .i64 l[k].parR)∧w.cell? ⟨gr,k*9+4,none⟩=some (.slice k1 l[k].key.length ck)∧w.cell? ⟨gr,k*9+5,none⟩=some (.int .i64 l[k].kind)∧w.cell? ⟨gr,k*9+6,none⟩=some (.slice n1 l[k].name.length cn)∧w.cell? ⟨gr,k*9+7,none⟩=some (.slice t1 l[k].text.length ct)∧w.cell? ⟨gr,k*9+8,none⟩=some (.slice a1 l[k].attrs.length ca)∧OwnZ w 0 (.slice k1 l[k].key.length ck) l[k].key∧RowM w 0 (.slice n1 l[k].name.length cn) l[k].name∧Own w 0 (.slice t1 l[k].text.length ct) l[k].text∧OwAttrs w (.slice a1 l[k].attrs.length ca) l[k].attrs Fa∧∀q∈FB (.slice k1 l[k].key.length ck)++FB (.slice n1 l[k].name.length cn)++FB (.slice t1 l[k].text.length ct)++Fa,q∈F∧q≠gr:=by
 have hnd:=h.nd
 obtain⟨Cs,Fs,e1,e2,e3,e4,rfl⟩:=h.row
 obtain⟨_,K,N,T,A,Fa,eC,o1,o2,o3,o4,eF⟩:=e3 k hk
 obtain⟨k1,ck,rfl,_⟩:=o1.ints.shape
 obtain⟨n1,cn,rfl,_⟩:=o2.byt.shape
 obtain⟨t1,ct,rfl,_⟩:=o3.byt.shape
 obtain⟨a1,ca,rfl,_⟩:=Elems.shape (OwAttrs.rd o4)
 have hcl:=fun r (hr:r<9)=>zaQ e4 (fun i hi=>(e3 i (by omega)).1) e1 k r hk hr
 rw [eC]at hcl
 have d:=fun r hr=>hcl r hr
 have d0:=d 0 (by omega)
 have d1:=d 1 (by omega)
 have d2:=d 2 (by omega)
 have d3:=d 3 (by omega)
 have d4:=d 4 (by omega)
 have d5:=d 5 (by omega)
 have d6:=d 6 (by omega)
 have d7:=d 7 (by omega)
 have d8:=d 8 (by omega)
 refine⟨k1,ck,n1,cn,t1,ct,a1,ca,Fa,d0,d1,d2,d3,d4,d5,d6,d7,d8,o1,o2,o3,o4,fun q hq=> ?_⟩
 rw [←eF]at hq
 refine⟨List.mem_append_right _ (zau hq),fun e=> ?_⟩
 exact (List.nodup_append.1 hnd).2.2 gr (by simp [FB,Value.ownBlock]) q (zau hq) e.symm
theorem zgC {l:List PlV} {i:IdV} {k:Nat} (hp:posP l i=some k) (hk:k<l.length):zae l i=(decide (l[k].kind=0) && !zar l[k].name):=by
 unfold zae
 rw [hp]
 simp only [List.getElem?_eq_getElem hk]
 rfl
theorem zgQ {l:List PlV} {i:IdV} (hp:posP l i=none):zae l i=false:=by
 unfold zae
 rw [hp]
open Classical in
set_option maxHeartbeats 3200000 in
theorem ziT {B:Nat} {w:World} {g mb:Nat} {a:Option Addr} {c:Nat} {l:List PlV} {F:List Nat} (h:FoS B w g mb a c l F) (i:IdV) (hi:okI i) :
  Calls Tryz.prog 91 #[.pointer (some ⟨g,0,none⟩),zap i] w fun e w'=>e=.returned (.bool (zae l i))∧FoS B w' g mb a c l F∧Frm w w' [g]:=by
 refine zaf ?_
 intro Q HQ
 have hA:Below w.heap.size w (w.alloc (.cells #[.int .i64 i.1,.int .i64 i.2] 81)):=(Below.refl _ _).alloc (Nat.le_refl _) _
 have h1:=h.keep hA
 have HF:=hide (zcj h1 i hi)
 have HA:=hide (And.intro hA h1)
 clear h hA h1 hi
 unfold zap at *
 go_enter Tryz.func91,Tryz.ntmps91
 go_wp2_with fail
 refine (zaa HF).mono ?_
 rintro e w2 ⟨hn,hs,hb2⟩
 obtain⟨hA,h1⟩:=zaa HA
 have h2:=h1.keep hb2
 have hA2:=zad hA hb2
 clear HF HA hb2 h1 hA
 cases hp:posP l i with
 | none=>
  obtain rfl:=hn hp
  have HE:=hide (zaa HQ (.returned (.bool false)) w2.drew ⟨by rw [zgQ hp],h2.keep ((Below.refl _ _).drew),Frm.ofBelow (hA2.drew) _⟩)
  clear hs hn h2 hA2 HQ
  go_wp2_with fail
  go_region
  go_wp2_with fail
  exact zaa HE
 | some k=>
  obtain⟨gr,rfl,rfl⟩:=hs k hp
  have hk:k<l.length:=(posP_some.1 hp).1
  have hd2:=h2.keep ((Below.refl _ _).drew)
  obtain⟨k1,ck,n1,cn,t1,ct,a1,ca,Fa,_,_,_,_,_,e5,e6,_,_,_,oN,_,_,hF⟩:=hd2.own hk
  have ht:=zgC hp hk
  obtain⟨p,hpe⟩:∃p,p=l[k]:=⟨_,rfl⟩
  rw [←hpe]at ht e5 e6 oN hF
  have hfd:=Frm.ofBelow (hA2.drew) [g]
  by_cases h0:p.kind=0
  ·have hB:mb+1≤w2.drew.heap.size:=hd2.map.lt
   have hnm:∀w',Frm w2.drew w' [g]→Byt w' (.slice n1 p.name.length cn) p.name:=fun w' f=>(oN.frm f (fun q hq e=>hd2.gF (by have e9:q=g:=(by simpa using e);rw [←e9];exact (hF q (by simp [hq])).1))).byt
   have HC:=hide (zjz (mb+1) (.slice (some ⟨gr,0,none⟩) l.length c) (.map (some mb)) g w2.drew (.slice n1 p.name.length cn) p.name hd2.set hB hnm)
   have hvv:decide (Void p.name)=zar p.name:=by
    cases hv:zar p.name with
    | true=>exact decide_eq_true ((zaT _).1 hv)
    | false=>exact decide_eq_false (fun e=>by rw [(zaT _).2 e]at hv;cases hv)
   rw [hvv]at HC
   have hgr:gr≠g:=fun e=>by
    obtain⟨gr',hg1,hg2⟩:=hd2.at (by omega)
    injection hg1 with hg1
    injection hg1 with hg1 _ _
    exact hd2.gF (by rw [←e,hg1];exact hg2)
   have HNE:=hide (show ∀w',Frm w2.drew w' [g]→∀j,w'.cell? ⟨gr,j,none⟩=w2.drew.cell? ⟨gr,j,none⟩ from fun w' f j=>World.cell?_of_block (f.block gr (zaI e6) (by simpa using hgr)))
   have HZ:=hide (And.intro hd2 (And.intro hfd ht))
   clear hd2 hfd ht h2 hA2 hs hn hF oN hnm hvv hpe
   rw [h0]at e5
   go_wp2_with fail
   go_region_held3 (fun w'=>w'.cell? ⟨gr,k*9+5,none⟩=some (.int .i64 0)∧w'.cell? ⟨gr,k*9+6,none⟩=some (.slice n1 p.name.length cn))
    (first | exact⟨by assumption,by assumption⟩ | simp [*])
    (first | (go_at_call 85;refine (zaa HC).mono ?_;rintro e w3 ⟨rfl,hmd,hf3⟩;have z5:=(zaa HNE w3 hf3 (k*9+5)).trans e5;have z6:=(zaa HNE w3 hf3 (k*9+6)).trans e6))
   obtain⟨hd2,hfd,ht⟩:=zaa HZ
   have h3:FoS B w3 g mb (some ⟨gr,0,none⟩) c l F:=⟨.inr hmd,hd2.map.frm hf3 (by simpa using fun e=>hd2.gm e.symm),hd2.row.frm hf3 (fun q hq e=>hd2.gF (by have e9:q=g:=(by simpa using e);rw [←e9];exact hq)),hd2.nd,hd2.ge,hd2.geg,hd2.gem,hd2.ids,hd2.len⟩
   have HE:=hide (zaa HQ (.returned (.bool (zae l i))) w3 ⟨rfl,h3,hfd.trans hf3⟩)
   rw [ht,decide_eq_true h0,Bool.true_and]at HE
   clear h3 hd2 hfd ht HZ HC HQ hmd hf3
   go_wp2_with fail
   exact zaa HE
  ·have HE:=hide (fun n=>zaa HQ (.returned (.bool false)) (w2.drewN n) ⟨by rw [ht,decide_eq_false h0];rfl,h2.keep (below_drewN (Below.refl _ _) _),Frm.ofBelow (zad hA2 (below_drewN (Below.refl _ _) _)) _⟩)
   have e5':w2.cell? ⟨gr,k*9+5,none⟩=some (.int .i64 p.kind):=e5
   have h0':(p.kind == 0)=false:=by simpa using h0
   clear h0 hpe hp
   clear hd2 hfd ht h2 hA2 hs hn hF oN HQ
   go_wp2_with fail
   go_quiet (fail)
   go_wp2_with fail
   exact zaa HE _
def Glo (w:World):Prop:=w.cell? ⟨0,0,none⟩=some (.int .i64 0)∧w.cell? ⟨0,1,none⟩=some (.int .i64 0)∧w.cell? ⟨1,0,none⟩=some (.int .i64 0)∧w.cell? ⟨1,1,none⟩=some (.int .i64 1)
theorem Glo.frm {w w':World} {S:List Nat} (h:Glo w) (f:Frm w w' S) (hS:∀q∈S,2≤q):Glo w':=by
 have hc:∀b j v,b<2→w.cell? ⟨b,j,none⟩=some v→w'.cell? ⟨b,j,none⟩=some v:=fun b j v hb hv=>(World.cell?_of_block (f.block b (zaI hv) (fun e=>by have:=hS b e;omega))).trans hv
 exact⟨hc 0 0 _ (by omega) h.1,hc 0 1 _ (by omega) h.2.1,hc 1 0 _ (by omega) h.2.2.1,hc 1 1 _ (by omega) h.2.2.2⟩
theorem Glo.keep {w w':World} (h:Glo w) (hb:Below w.heap.size w w'):Glo w':=h.frm (Frm.ofBelow hb []) (fun q hq=>by cases hq)
theorem zhp (l:List PlV) (n:Nat) (i:IdV):zav l (n+1) i i=true:=by unfold zav;rw [if_pos rfl]
theorem zbR {l:List PlV} {n:Nat} {i o:IdV} (h:i≠o) (k:i=zak∨i=zag):zav l (n+1) i o=false:=by unfold zav;rw [if_neg h,if_pos k]
theorem zcb {l:List PlV} {n k:Nat} {i o:IdV} (h:i≠o) (h1:¬ (i=zak∨i=zag)) (hp:posP l i=some k) (hk:k<l.length):zav l (n+1) i o=zav l n l[k].par o:=by
 conv=>lhs;unfold zav
 rw [if_neg h,if_neg h1,hp]
 simp only [List.getElem?_eq_getElem hk]
set_option maxHeartbeats 6400000 in
theorem zho {B:Nat} {w:World} {g mb:Nat} {a:Option Addr} {c:Nat} {l:List PlV} {F:List Nat} (h:FoS B w g mb a c l F) (hF:Fr l) (hG:Glo w) (i o:IdV) (hi:okI i) (k0:Nat) (hk0:posP l i=some k0) :
  Calls Tryz.prog 93 #[.pointer (some ⟨g,0,none⟩),zap i,zap o] w fun e w'=>e=.returned (.bool (zav l l.length i o))∧Below w.heap.size w w':=by
 refine zaf ?_
 intro Q HQ
 have hA:Below w.heap.size w ((w.alloc (.cells #[.int .i64 i.1,.int .i64 i.2] 81)).alloc (.cells #[.int .i64 o.1,.int .i64 o.2] 81)):=zad ((Below.refl _ _).alloc (Nat.le_refl _) _) ((Below.refl _ _).alloc (Nat.le_refl _) _)
 have l0:=(Loc.made w #[.int .i64 i.1,.int .i64 i.2] 81).alloc (.cells #[.int .i64 o.1,.int .i64 o.2] 81)
 have l1:=Loc.made (w.alloc (.cells #[.int .i64 i.1,.int .i64 i.2] 81)) #[.int .i64 o.1,.int .i64 o.2] 81
 simp only [World.size_alloc]at l1
 have h1:=h.keep hA
 have hG1:=hG.keep hA
 obtain⟨cs,lg,hc0,_⟩:=h1.set.loc
 have g0:(((w.alloc (.cells #[.int .i64 i.1,.int .i64 i.2] 81)).alloc (.cells #[.int .i64 o.1,.int .i64 o.2] 81))).cell? ⟨g,0,none⟩=some (.slice a l.length c):=(lg.cell 0).trans hc0
 have hlen:=h1.len
 have LL:=hide (And.intro hA (And.intro l0 (And.intro l1 (And.intro h1 hG1))))
 have HF:=hide hF
 have HI:=hide (And.intro hi hk0)
 have HGG:=hide (show g≠w.heap.size∧g≠w.heap.size+1∧2≤w.heap.size from ⟨by have:=h.set.lt;omega,by have:=h.set.lt;omega,by have h9:=zaI hG.2.2.1;exact h9⟩)
 clear h hA l0 l1 h1 hG hG1 lg hc0 hF hi hk0
 unfold zap at *
 go_enter Tryz.func93,Tryz.ntmps93
 go_wp2_with fail
 go_step3
 go_wp2_with fail
 go_step3
 go_wp2_with fail
 obtain⟨hA,l0,l1,h1,hG1⟩:=zaa LL
 clear LL
 generalize ((w.alloc (.cells #[.int .i64 i.1,.int .i64 i.2] 81)).alloc (.cells #[.int .i64 o.1,.int .i64 o.2] 81))=w1 at *
 have LZ:=hide l0
 go_loopw [12] (fun x wr=>∃(j:Nat) (i':IdV),j≤l.length∧x=.int .i64 (j:Int)∧Hid (zav l (l.length-j) i' o=zav l l.length i o)∧Hid (okI i')∧(∃k,posP l i'=some k)∧Loc wr w.heap.size #[.int .i64 i'.1,.int .i64 i'.2] 81∧Frm w1 wr [w.heap.size]) (fun x _=>l.length-(intOf x).toNat)
 case atStart=>exact⟨0,i,Nat.zero_le _,rfl,hide rfl,hide (zaa HI).1,⟨k0,(zaa HI).2⟩,l0,Frm.refl _ _⟩
 case round=>
  clear l0 g0
  obtain⟨j,i',hj,rfl,HW,HO,⟨k,hk⟩,l0,hf⟩:=hrel
  have l1r:=l1.frm hf (by simp)
  have hGr:=hG1.frm hf (fun q hq=>by have e:q=w.heap.size:=(by simpa using hq);have:=(zaa HGG).2.2;omega)
  have hr:=h1.frm hf (by simpa using (zaa HGG).1) (fun e=>by have e9:mb=w.heap.size:=(by simpa using e);exact h1.box (q:=mb) (cs:=_) (T:=81) (by rw [e9];exact (show Loc w1 w.heap.size _ 81 from zaa LZ)) (by decide) (by decide) (by simp)) (fun q hq e=>by have e9:q=w.heap.size:=(by simpa using e);exact h1.box (q:=q) (by rw [e9];exact (zaa LZ)) (by decide) (by decide) (by simp [hq])) (fun q hq=>by have e9:q=w.heap.size:=(by simpa using hq);rw [e9];exact Cells.ofL (zaa LZ))
  obtain⟨iN,iR⟩:=i'
  obtain⟨oN,oR⟩:=o
  have b0:wr.cell? ⟨w.heap.size,0,none⟩=some (.int .i64 iN):=l0.cell 0
  have b1:wr.cell? ⟨w.heap.size,1,none⟩=some (.int .i64 iR):=l0.cell 1
  have c0:wr.cell? ⟨w.heap.size+1,0,none⟩=some (.int .i64 oN):=l1r.cell 0
  have c1:wr.cell? ⟨w.heap.size+1,1,none⟩=some (.int .i64 oR):=l1r.cell 1
  obtain⟨y0,y1,y2,y3⟩:=hGr
  have hBr:Below w.heap.size w wr:=hA.trans (hf.below hA.size (fun q hq=>by have e:q=w.heap.size:=(by simpa using hq);omega))
  by_cases hlt:j<l.length
  ·have hlt':(j:Int)<(l.length:Int):=by omega
   obtain⟨n,hn⟩:∃n,l.length-j=n+1:=⟨l.length-j-1,by omega⟩
   have hw:=zaa HW
   rw [hn]at hw
   by_cases e1:iN=oN
   ·by_cases e2:iR=oR
    ·have heq:(iN,iR)=(oN,oR):=by rw [e1,e2]
     have d1:(iN == oN)=true:=by simpa using e1
     have d2:(iR == oR)=true:=by simpa using e2
     have HE:=hide (zaa HQ (.returned (.bool true)) wr ⟨by rw [←hw,heq,zhp],hBr⟩)
     clear hw HW HQ HO hr l1r l0 hf hBr h1 l1 hA hk HI HF hn
     clear heq e1 e2
     go_wp2_with fail
     exact zaa HE
    ·have hne:(iN,iR)≠(oN,oR):=fun e=>e2 (Prod.mk.inj e).2
     have d1:(iN == oN)=true:=by simpa using e1
     have d2:(iR == oR)=false:=by simpa using e2
     clear e1 e2
     by_cases z1:iN=0
     ·by_cases z2:iR=0
      ·have htop:(iN,iR)=zak∨(iN,iR)=zag:=.inl (by rw [z1,z2];rfl)
       have w1_:(iN == 0)=true:=by simpa using z1
       have w2_:(iR == 0)=true:=by simpa using z2
       clear z1 z2
       have HE:=hide (zaa HQ (.returned (.bool false)) wr ⟨by rw [←hw,zbR hne htop],hBr⟩)
       clear hw HW HQ HO hr l1r l0 hf hBr h1 l1 hA hk HI HF hn
       clear hne htop
       go_wp2_with fail
       exact zaa HE
      ·by_cases z3:iR=1
       ·have htop:(iN,iR)=zak∨(iN,iR)=zag:=.inr (by rw [z1,z3];rfl)
        have w1_:(iN == 0)=true:=by simpa using z1
        have w2_:(iR == 0)=false:=by simpa using z2
        have w3_:(iR == 1)=true:=by simpa using z3
        clear z1 z2 z3
        have HE:=hide (zaa HQ (.returned (.bool false)) wr ⟨by rw [←hw,zbR hne htop],hBr⟩)
        clear hw HW HQ HO hr l1r l0 hf hBr h1 l1 hA hk HI HF hn
        clear hne htop
        go_wp2_with fail
        exact zaa HE
       ·have htop:¬ ((iN,iR)=zak∨(iN,iR)=zag):=fun e=>by rcases e with e | e;(exact z2 (Prod.mk.inj e).2);(exact z3 (Prod.mk.inj e).2)
        have w1_:(iN == 0)=true:=by simpa using z1
        have w2_:(iR == 0)=false:=by simpa using z2
        have w3_:(iR == 1)=false:=by simpa using z3
        clear z1 z2 z3
        have hkl:k<l.length:=(posP_some.1 hk).1
        have h2k:2≤k:=by
         rcases Nat.lt_or_ge k 2 with h9 | h9
         ·exact absurd (((zaa HF).low hk).1 h9) htop
         ·exact h9
        have hup:=hw.symm.trans (zcb (n:=n) hne htop hk hkl)
        obtain⟨k',hk'⟩:=(zaa HF).par k l[k] h2k (by simp [hkl])
        have hop:=(hr.ids l[k] (List.getElem_mem hkl)).2
        have HFD:=hide (zcj hr (iN,iR) (zaa HO))
        unfold zap at HFD
        have HK:=hide (And.intro hk (And.intro h2k (And.intro hup (And.intro hk' (And.intro hop (And.intro hr (And.intro l0 hf)))))))
        clear hw HW HQ HO hr l1r l0 hf hBr hk hne htop h2k hup hk' hop h1 l1 hA
        go_wp2_with fail
        refine (zaa HFD).mono ?_
        rintro e w4 ⟨hn4,hs4,hb4⟩
        obtain⟨hk,h2k,hup,hk',hop,hr,l0,hf⟩:=zaa HK
        obtain⟨gr,rfl,rfl⟩:=hs4 k hk
        have hb:=hb4
        have h4:=hr.keep hb
        obtain⟨k1,ck,n1,cn,t1,ct,a1,ca,Fa,_,_,p2,p3,_⟩:=h4.own hkl
        have l4:=l0.all hb
        have q0:=l4.cell 0
        have q1:=l4.cell 1
        have qf0:=l4.frozen 0
        have qf1:=l4.frozen 1
        have lX:=(l4.set 0 (.int .i64 l[k].parN)).set 1 (.int .i64 l[k].parR)
        have fX:=hf.trans ((Frm.ofBelow hb _).trans ((zab w4 w.heap.size 0 (.int .i64 l[k].parN)).trans (zab _ w.heap.size 1 (.int .i64 l[k].parR))))
        have HE:=hide (And.intro lX (And.intro fX (And.intro hup (And.intro hk' hop))))
        clear hk h2k hup hk' hop hr l0 hf h4 l4 lX fX HK HFD hn4 hs4 hb4 hb
        generalize l[k]=pk at *
        go_wp2_with fail
        go_roundw
        case rel=>exact⟨j+1,(pk.parN,pk.parR),by omega,by go_num,hide (by rw [show l.length-(j+1)=n by omega];exact (zaa HE).2.2.1.symm),hide (zaa HE).2.2.2.2,⟨k',(zaa HE).2.2.2.1⟩,(zaa HE).1,(zaa HE).2.1⟩
        case measure=>simp [intOf];omega
     ·have htop:¬ ((iN,iR)=zak∨(iN,iR)=zag):=fun e=>by rcases e with e | e<;>exact z1 (Prod.mk.inj e).1
      have w1_:(iN == 0)=false:=by simpa using z1
      clear z1
      have hkl:k<l.length:=(posP_some.1 hk).1
      have h2k:2≤k:=by
       rcases Nat.lt_or_ge k 2 with h9 | h9
       ·exact absurd (((zaa HF).low hk).1 h9) htop
       ·exact h9
      have hup:=hw.symm.trans (zcb (n:=n) hne htop hk hkl)
      obtain⟨k',hk'⟩:=(zaa HF).par k l[k] h2k (by simp [hkl])
      have hop:=(hr.ids l[k] (List.getElem_mem hkl)).2
      have HFD:=hide (zcj hr (iN,iR) (zaa HO))
      unfold zap at HFD
      have HK:=hide (And.intro hk (And.intro h2k (And.intro hup (And.intro hk' (And.intro hop (And.intro hr (And.intro l0 hf)))))))
      clear hw HW HQ HO hr l1r l0 hf hBr hk hne htop h2k hup hk' hop h1 l1 hA
      go_wp2_with fail
      refine (zaa HFD).mono ?_
      rintro e w4 ⟨hn4,hs4,hb4⟩
      obtain⟨hk,h2k,hup,hk',hop,hr,l0,hf⟩:=zaa HK
      obtain⟨gr,rfl,rfl⟩:=hs4 k hk
      have hb:=hb4
      have h4:=hr.keep hb
      obtain⟨k1,ck,n1,cn,t1,ct,a1,ca,Fa,_,_,p2,p3,_⟩:=h4.own hkl
      have l4:=l0.all hb
      have q0:=l4.cell 0
      have q1:=l4.cell 1
      have qf0:=l4.frozen 0
      have qf1:=l4.frozen 1
      have lX:=(l4.set 0 (.int .i64 l[k].parN)).set 1 (.int .i64 l[k].parR)
      have fX:=hf.trans ((Frm.ofBelow hb _).trans ((zab w4 w.heap.size 0 (.int .i64 l[k].parN)).trans (zab _ w.heap.size 1 (.int .i64 l[k].parR))))
      have HE:=hide (And.intro lX (And.intro fX (And.intro hup (And.intro hk' hop))))
      clear hk h2k hup hk' hop hr l0 hf h4 l4 lX fX HK HFD hn4 hs4 hb4 hb
      generalize l[k]=pk at *
      go_wp2_with fail
      go_roundw
      case rel=>exact⟨j+1,(pk.parN,pk.parR),by omega,by go_num,hide (by rw [show l.length-(j+1)=n by omega];exact (zaa HE).2.2.1.symm),hide (zaa HE).2.2.2.2,⟨k',(zaa HE).2.2.2.1⟩,(zaa HE).1,(zaa HE).2.1⟩
      case measure=>simp [intOf];omega
   ·have hne:(iN,iR)≠(oN,oR):=fun e=>e1 (Prod.mk.inj e).1
    have d1:(iN == oN)=false:=by simpa using e1
    clear e1
    by_cases z1:iN=0
    ·by_cases z2:iR=0
     ·have htop:(iN,iR)=zak∨(iN,iR)=zag:=.inl (by rw [z1,z2];rfl)
      have w1_:(iN == 0)=true:=by simpa using z1
      have w2_:(iR == 0)=true:=by simpa using z2
      clear z1 z2
      have HE:=hide (zaa HQ (.returned (.bool false)) wr ⟨by rw [←hw,zbR hne htop],hBr⟩)
      clear hw HW HQ HO hr l1r l0 hf hBr h1 l1 hA hk HI HF hn
      clear hne htop
      go_wp2_with fail
      exact zaa HE
     ·by_cases z3:iR=1
      ·have htop:(iN,iR)=zak∨(iN,iR)=zag:=.inr (by rw [z1,z3];rfl)
       have w1_:(iN == 0)=true:=by simpa using z1
       have w2_:(iR == 0)=false:=by simpa using z2
       have w3_:(iR == 1)=true:=by simpa using z3
       clear z1 z2 z3
       have HE:=hide (zaa HQ (.returned (.bool false)) wr ⟨by rw [←hw,zbR hne htop],hBr⟩)
       clear hw HW HQ HO hr l1r l0 hf hBr h1 l1 hA hk HI HF hn
       clear hne htop
       go_wp2_with fail
       exact zaa HE
      ·have htop:¬ ((iN,iR)=zak∨(iN,iR)=zag):=fun e=>by rcases e with e | e;(exact z2 (Prod.mk.inj e).2);(exact z3 (Prod.mk.inj e).2)
       have w1_:(iN == 0)=true:=by simpa using z1
       have w2_:(iR == 0)=false:=by simpa using z2
       have w3_:(iR == 1)=false:=by simpa using z3
       clear z1 z2 z3
       have hkl:k<l.length:=(posP_some.1 hk).1
       have h2k:2≤k:=by
        rcases Nat.lt_or_ge k 2 with h9 | h9
        ·exact absurd (((zaa HF).low hk).1 h9) htop
        ·exact h9
       have hup:=hw.symm.trans (zcb (n:=n) hne htop hk hkl)
       obtain⟨k',hk'⟩:=(zaa HF).par k l[k] h2k (by simp [hkl])
       have hop:=(hr.ids l[k] (List.getElem_mem hkl)).2
       have HFD:=hide (zcj hr (iN,iR) (zaa HO))
       unfold zap at HFD
       have HK:=hide (And.intro hk (And.intro h2k (And.intro hup (And.intro hk' (And.intro hop (And.intro hr (And.intro l0 hf)))))))
       clear hw HW HQ HO hr l1r l0 hf hBr hk hne htop h2k hup hk' hop h1 l1 hA
       go_wp2_with fail
       refine (zaa HFD).mono ?_
       rintro e w4 ⟨hn4,hs4,hb4⟩
       obtain⟨hk,h2k,hup,hk',hop,hr,l0,hf⟩:=zaa HK
       obtain⟨gr,rfl,rfl⟩:=hs4 k hk
       have hb:=hb4
       have h4:=hr.keep hb
       obtain⟨k1,ck,n1,cn,t1,ct,a1,ca,Fa,_,_,p2,p3,_⟩:=h4.own hkl
       have l4:=l0.all hb
       have q0:=l4.cell 0
       have q1:=l4.cell 1
       have qf0:=l4.frozen 0
       have qf1:=l4.frozen 1
       have lX:=(l4.set 0 (.int .i64 l[k].parN)).set 1 (.int .i64 l[k].parR)
       have fX:=hf.trans ((Frm.ofBelow hb _).trans ((zab w4 w.heap.size 0 (.int .i64 l[k].parN)).trans (zab _ w.heap.size 1 (.int .i64 l[k].parR))))
       have HE:=hide (And.intro lX (And.intro fX (And.intro hup (And.intro hk' hop))))
       clear hk h2k hup hk' hop hr l0 hf h4 l4 lX fX HK HFD hn4 hs4 hb4 hb
       generalize l[k]=pk at *
       go_wp2_with fail
       go_roundw
       case rel=>exact⟨j+1,(pk.parN,pk.parR),by omega,by go_num,hide (by rw [show l.length-(j+1)=n by omega];exact (zaa HE).2.2.1.symm),hide (zaa HE).2.2.2.2,⟨k',(zaa HE).2.2.2.1⟩,(zaa HE).1,(zaa HE).2.1⟩
       case measure=>simp [intOf];omega
    ·have htop:¬ ((iN,iR)=zak∨(iN,iR)=zag):=fun e=>by rcases e with e | e<;>exact z1 (Prod.mk.inj e).1
     have w1_:(iN == 0)=false:=by simpa using z1
     clear z1
     have hkl:k<l.length:=(posP_some.1 hk).1
     have h2k:2≤k:=by
      rcases Nat.lt_or_ge k 2 with h9 | h9
      ·exact absurd (((zaa HF).low hk).1 h9) htop
      ·exact h9
     have hup:=hw.symm.trans (zcb (n:=n) hne htop hk hkl)
     obtain⟨k',hk'⟩:=(zaa HF).par k l[k] h2k (by simp [hkl])
     have hop:=(hr.ids l[k] (List.getElem_mem hkl)).2
     have HFD:=hide (zcj hr (iN,iR) (zaa HO))
     unfold zap at HFD
     have HK:=hide (And.intro hk (And.intro h2k (And.intro hup (And.intro hk' (And.intro hop (And.intro hr (And.intro l0 hf)))))))
     clear hw HW HQ HO hr l1r l0 hf hBr hk hne htop h2k hup hk' hop h1 l1 hA
     go_wp2_with fail
     refine (zaa HFD).mono ?_
     rintro e w4 ⟨hn4,hs4,hb4⟩
     obtain⟨hk,h2k,hup,hk',hop,hr,l0,hf⟩:=zaa HK
     obtain⟨gr,rfl,rfl⟩:=hs4 k hk
     have hb:=hb4
     have h4:=hr.keep hb
     obtain⟨k1,ck,n1,cn,t1,ct,a1,ca,Fa,_,_,p2,p3,_⟩:=h4.own hkl
     have l4:=l0.all hb
     have q0:=l4.cell 0
     have q1:=l4.cell 1
     have qf0:=l4.frozen 0
     have qf1:=l4.frozen 1
     have lX:=(l4.set 0 (.int .i64 l[k].parN)).set 1 (.int .i64 l[k].parR)
     have fX:=hf.trans ((Frm.ofBelow hb _).trans ((zab w4 w.heap.size 0 (.int .i64 l[k].parN)).trans (zab _ w.heap.size 1 (.int .i64 l[k].parR))))
     have HE:=hide (And.intro lX (And.intro fX (And.intro hup (And.intro hk' hop))))
     clear hk h2k hup hk' hop hr l0 hf h4 l4 lX fX HK HFD hn4 hs4 hb4 hb
     generalize l[k]=pk at *
     go_wp2_with fail
     go_roundw
     case rel=>exact⟨j+1,(pk.parN,pk.parR),by omega,by go_num,hide (by rw [show l.length-(j+1)=n by omega];exact (zaa HE).2.2.1.symm),hide (zaa HE).2.2.2.2,⟨k',(zaa HE).2.2.2.1⟩,(zaa HE).1,(zaa HE).2.1⟩
     case measure=>simp [intOf];omega
  ·have hlt':¬ (j:Int)<(l.length:Int):=by omega
   have hw:=zaa HW
   rw [show l.length-j=0 by omega]at hw
   have HE:=hide (zaa HQ (.returned (.bool false)) wr ⟨by rw [←hw];rfl,hBr⟩)
   clear hw HW HQ hr l1r l0 hf hBr h1 l1 hA
   go_wp2_with fail
   exact zaa HE
def mayI (l:List PlV) (i o:IdV):Bool:= !decide (i=zak∨i=zag) && zae l o && !zav l l.length o i
theorem zkt {l:List PlV} {i o:IdV} (h:i=zak∨i=zag):mayI l i o=false:=by unfold mayI;rw [decide_eq_true h];rfl
theorem zlU {l:List PlV} {i o:IdV} (h:zae l o=false):mayI l i o=false:=by unfold mayI;rw [h];simp
theorem zjT {l:List PlV} {i o:IdV} (h:¬ (i=zak∨i=zag)) (k:zae l o=true):mayI l i o = !zav l l.length o i:=by unfold mayI;rw [decide_eq_false h,k];simp
set_option maxHeartbeats 6400000 in
theorem zld {B:Nat} {w:World} {g mb:Nat} {a:Option Addr} {c:Nat} {l:List PlV} {F:List Nat} (h:FoS B w g mb a c l F) (hF:Fr l) (hG:Glo w) (hB2:2≤B) (i o:IdV) (ho:okI o) :
  Calls Tryz.prog 121 #[.pointer (some ⟨g,0,none⟩),zap i,zap o] w fun e w'=>e=.returned (.bool (mayI l i o))∧FoS B w' g mb a c l F∧Frm w w' [g]:=by
 refine zaf ?_
 intro Q HQ
 have hA:Below w.heap.size w ((w.alloc (.cells #[.int .i64 i.1,.int .i64 i.2] 81)).alloc (.cells #[.int .i64 o.1,.int .i64 o.2] 81)):=zad ((Below.refl _ _).alloc (Nat.le_refl _) _) ((Below.refl _ _).alloc (Nat.le_refl _) _)
 have l0:=(Loc.made w #[.int .i64 i.1,.int .i64 i.2] 81).alloc (.cells #[.int .i64 o.1,.int .i64 o.2] 81)
 have l1:=Loc.made (w.alloc (.cells #[.int .i64 i.1,.int .i64 i.2] 81)) #[.int .i64 o.1,.int .i64 o.2] 81
 simp only [World.size_alloc]at l1
 have h1:=h.keep hA
 have hG1:=hG.keep hA
 have HT:=hide (ziT h1 o ho)
 have b0:=l0.cell 0
 have b1:=l0.cell 1
 have c0:=l1.cell 0
 have c1:=l1.cell 1
 obtain⟨y0,y1,y2,y3⟩:=id hG1
 have LL:=hide (And.intro hA (And.intro l0 (And.intro l1 (And.intro h1 (And.intro hG1 hF)))))
 have HGL:=hide (And.intro h.set.lt (And.intro hB2 h.geg))
 have HO:=hide ho
 clear h hA l0 l1 h1 hG hG1 hF ho hB2
 obtain⟨iN,iR⟩:=i
 obtain⟨oN,oR⟩:=o
 unfold zap at *
 by_cases z1:iN=0
 ·by_cases z2:iR=0
  ·have htop:(iN,iR)=zak∨(iN,iR)=zag:=.inl (by rw [z1,z2];rfl)
   have w1_:(iN == 0)=true:=by simpa using z1
   have w2_:(iR == 0)=true:=by simpa using z2
   clear z1 z2
   have HE:=hide (zaa HQ (.returned (.bool false)) _ ⟨by rw [zkt htop],(zaa LL).2.2.2.1,Frm.ofBelow (zaa LL).1 _⟩)
   clear htop HQ LL HT
   go_enter Tryz.func121,Tryz.ntmps121
   go_wp2_with fail
   exact zaa HE
  ·by_cases z3:iR=1
   ·have htop:(iN,iR)=zak∨(iN,iR)=zag:=.inr (by rw [z1,z3];rfl)
    have w1_:(iN == 0)=true:=by simpa using z1
    have w2_:(iR == 0)=false:=by simpa using z2
    have w3_:(iR == 1)=true:=by simpa using z3
    clear z1 z2 z3
    have HE:=hide (zaa HQ (.returned (.bool false)) _ ⟨by rw [zkt htop],(zaa LL).2.2.2.1,Frm.ofBelow (zaa LL).1 _⟩)
    clear htop HQ LL HT
    go_enter Tryz.func121,Tryz.ntmps121
    go_wp2_with fail
    exact zaa HE
   ·have htop:¬ ((iN,iR)=zak∨(iN,iR)=zag):=fun e=>by rcases e with e | e;(exact z2 (Prod.mk.inj e).2);(exact z3 (Prod.mk.inj e).2)
    have w1_:(iN == 0)=true:=by simpa using z1
    have w2_:(iR == 0)=false:=by simpa using z2
    have w3_:(iR == 1)=false:=by simpa using z3
    clear z1 z2 z3
    have HM:=hide (And.intro (fun (k:zae l (oN,oR)=false)=>zlU (i:=(iN,iR)) k) (fun (k:zae l (oN,oR)=true)=>zjT htop k))
    clear htop
    go_enter Tryz.func121,Tryz.ntmps121
    go_wp2_with fail
    refine (zaa HT).mono ?_
    rintro e w2 ⟨rfl,h2,hf2⟩
    obtain⟨hA,l0,l1,h1,hG1,hF⟩:=zaa LL
    obtain⟨hgl,hB2,hgg⟩:=zaa HGL
    have m0:=l0.frm hf2 (by simp;omega)
    have m1:=l1.frm hf2 (by simp;omega)
    have hG2:=hG1.frm hf2 (fun q hq=>by have e:q=g:=(by simpa using hq);omega)
    have hfa:=(Frm.ofBelow hA [g]).trans hf2
    clear LL HT l0 l1 h1 hG1 hA hf2 b0 b1 c0 c1 y0 y1 y2 y3
    have b0:=m0.cell 0
    have b1:=m0.cell 1
    have c0:=m1.cell 0
    have c1:=m1.cell 1
    cases ht:zae l (oN,oR)with
    | false=>
     have HE:=hide (zaa HQ (.returned (.bool false)) w2 ⟨by rw [(zaa HM).1 ht],h2,hfa⟩)
     clear HQ HM ht h2 hfa hG2 hF m0 m1
     go_wp2_with fail
     exact zaa HE
    | true=>
     obtain⟨k,p,hk,_⟩:=zdD ht
     have HC:=hide (zho h2 hF hG2 (oN,oR) (iN,iR) (zaa HO) k hk)
     have hmm:=(zaa HM).2 ht
     unfold zap at HC
     have HZ:=hide (And.intro h2 hfa)
     clear h2 hfa hG2 hF m0 m1 ht hk HM
     go_wp2_with fail
     refine (zaa HC).mono ?_
     rintro e w3 ⟨rfl,hb3⟩
     have HE:=hide (zaa HQ (.returned (.bool (mayI l (iN,iR) (oN,oR)))) w3 ⟨rfl,(zaa HZ).1.keep hb3,(zaa HZ).2.trans (Frm.ofBelow hb3 _)⟩)
     rw [hmm]at HE
     clear HQ HZ HC hb3 hmm
     go_wp2_with fail
     exact zaa HE
 ·have htop:¬ ((iN,iR)=zak∨(iN,iR)=zag):=fun e=>by rcases e with e | e<;>exact z1 (Prod.mk.inj e).1
  have w1_:(iN == 0)=false:=by simpa using z1
  clear z1
  have HM:=hide (And.intro (fun (k:zae l (oN,oR)=false)=>zlU (i:=(iN,iR)) k) (fun (k:zae l (oN,oR)=true)=>zjT htop k))
  clear htop
  go_enter Tryz.func121,Tryz.ntmps121
  go_wp2_with fail
  refine (zaa HT).mono ?_
  rintro e w2 ⟨rfl,h2,hf2⟩
  obtain⟨hA,l0,l1,h1,hG1,hF⟩:=zaa LL
  obtain⟨hgl,hB2,hgg⟩:=zaa HGL
  have m0:=l0.frm hf2 (by simp;omega)
  have m1:=l1.frm hf2 (by simp;omega)
  have hG2:=hG1.frm hf2 (fun q hq=>by have e:q=g:=(by simpa using hq);omega)
  have hfa:=(Frm.ofBelow hA [g]).trans hf2
  clear LL HT l0 l1 h1 hG1 hA hf2 b0 b1 c0 c1 y0 y1 y2 y3
  have b0:=m0.cell 0
  have b1:=m0.cell 1
  have c0:=m1.cell 0
  have c1:=m1.cell 1
  cases ht:zae l (oN,oR)with
  | false=>
   have HE:=hide (zaa HQ (.returned (.bool false)) w2 ⟨by rw [(zaa HM).1 ht],h2,hfa⟩)
   clear HQ HM ht h2 hfa hG2 hF m0 m1
   go_wp2_with fail
   exact zaa HE
  | true=>
   obtain⟨k,p,hk,_⟩:=zdD ht
   have HC:=hide (zho h2 hF hG2 (oN,oR) (iN,iR) (zaa HO) k hk)
   have hmm:=(zaa HM).2 ht
   unfold zap at HC
   have HZ:=hide (And.intro h2 hfa)
   clear h2 hfa hG2 hF m0 m1 ht hk HM
   go_wp2_with fail
   refine (zaa HC).mono ?_
   rintro e w3 ⟨rfl,hb3⟩
   have HE:=hide (zaa HQ (.returned (.bool (mayI l (iN,iR) (oN,oR)))) w3 ⟨rfl,(zaa HZ).1.keep hb3,(zaa HZ).2.trans (Frm.ofBelow hb3 _)⟩)
   rw [hmm]at HE
   clear HQ HZ HC hb3 hmm
   go_wp2_with fail
   exact zaa HE
end Go.Proofs.YtlpnibbdmkeklaaGreatDoor
namespace Go.Proofs.YtlpnibbdmkeklaaGreatDoor
open Go.RowKit
set_option linter.unusedVariables false
set_option maxRecDepth 100000
def zan (n r:Int):Bool:=decide (1≤n) && (decide (n≤1000000) && (decide (0≤r) && decide (r<8)))
theorem zjR (n r:Int) :
  (zan n r=false∧decide (1≤n)=false)∨
  (zan n r=false∧decide (1≤n)=true∧decide (n≤1000000)=false)∨
  (zan n r=false∧decide (1≤n)=true∧decide (n≤1000000)=true∧decide (0≤r)=false)∨
  (zan n r=true∧decide (1≤n)=true∧decide (n≤1000000)=true∧decide (0≤r)=true∧decide (r<8)=true)∨
  (zan n r=false∧decide (1≤n)=true∧decide (n≤1000000)=true∧decide (0≤r)=true∧decide (r<8)=false):=by
 unfold zan
 cases decide (1≤n)<;>cases decide (n≤1000000)<;>cases decide (0≤r)<;>cases decide (r<8)<;>simp
set_option maxHeartbeats 1600000 in
theorem zaH (w:World) (n r:Int) :
  Calls Tryz.prog 89 #[.agg #[.int .i64 n,.int .i64 r]] w fun e w'=>e=.returned (.bool (zan n r))∧w'=w.alloc (.cells #[.int .i64 n,.int .i64 r] 81):=by
 rcases zjR n r with ⟨h,q1⟩ | ⟨h,q1,q2⟩ | ⟨h,q1,q2,q3⟩ | ⟨h,q1,q2,q3,q4⟩ | ⟨h,q1,q2,q3,q4⟩
 all_goals
  have HE:=hide h
  clear h
  go_enter Tryz.func89,Tryz.ntmps89
  go_wp2
  go_ret
  exact⟨by rw [zaa HE];rfl,rfl⟩
theorem ziA (n r:Int) :
  (zan n r=true∧idB n r=true)∨
  (zan n r=false∧idB n r=false∧(n == 0)=false)∨
  (zan n r=false∧idB n r=false∧n=0∧(n == 0)=true∧decide (0≤r)=false)∨
  (zan n r=false∧idB n r=decide (r≤121)∧n=0∧(n == 0)=true∧decide (0≤r)=true):=by
 unfold zan idB
 by_cases a:n=0
 ·subst a
  by_cases b:0≤r
  ·right;right;right
   refine⟨by simp,?_,rfl,rfl,by simpa using b⟩
   rw [Bool.eq_iff_iff]
   simp
   omega
  ·right;right;left
   refine⟨by simp,?_,rfl,rfl,by simpa using b⟩
   rw [Bool.eq_false_iff]
   simp only [ne_eq,Bool.and_eq_true,Bool.or_eq_true,decide_eq_true_eq]
   omega
 ·by_cases c:1≤n∧n≤1000000∧0≤r∧r<8
  ·left
   simp only [Bool.and_eq_true,Bool.or_eq_true,decide_eq_true_eq]
   omega
  ·right;left
   refine⟨?_,?_,by simpa using a⟩
   ·rw [Bool.eq_false_iff]
    simp only [ne_eq,Bool.and_eq_true,decide_eq_true_eq]
    omega
   ·rw [Bool.eq_false_iff]
    simp only [ne_eq,Bool.and_eq_true,Bool.or_eq_true,decide_eq_true_eq]
    omega
set_option maxHeartbeats 1600000 in
theorem zdZ (w:World) (n r:Int) :
  Calls Tryz.prog 55 #[.agg #[.int .i64 n,.int .i64 r]] w fun e w'=>e=.returned (.bool (idB n r))∧w'=(w.alloc (.cells #[.int .i64 n,.int .i64 r] 81)).alloc (.cells #[.int .i64 n,.int .i64 r] 81):=by
 have HS:=hide (zaH (w.alloc (.cells #[.int .i64 n,.int .i64 r] 81)) n r)
 rcases ziA n r with ⟨h,k⟩ | ⟨h,k,q1⟩ | ⟨h,k,rfl,q1,q2⟩ | ⟨h,k,rfl,q1,q2⟩
 all_goals
  rw [h]at HS
  have HE:=hide k
  clear h k
  go_enter Tryz.func55,Tryz.ntmps55
  go_wp2_with fail
  refine (zaa HS).mono ?_
  rintro e w1 ⟨rfl,rfl⟩
  go_wp2
  go_ret
  exact⟨by rw [zaa HE];rfl,rfl⟩
theorem zlJ (w:World) (v:Value) (l:List Int) (h:Byt w v l):Calls Tryz.prog 114 #[v] w fun e w'=>e=.returned (.bool (zbA l))∧w'=w:=by
 by_cases hn:zai l
 ·rw [(zbv l).2 hn];exact zih w v l h hn
 ·rw [Bool.eq_false_iff.2 (fun k=>hn ((zbv l).1 k))];exact zpS w v l h hn
theorem zhR (w:World) (v:Value) (l:List Int) (h:Byt w v l):Calls Tryz.prog 113 #[v] w fun e w'=>e=.returned (.bool (zbo l))∧w'=w:=by
 by_cases hn:zat l
 ·rw [(zbB l).2 hn];exact znH w v l h hn
 ·rw [Bool.eq_false_iff.2 (fun k=>hn ((zbB l).1 k))];exact zqq w v l h hn
def valB (t:List Int) (gone:Bool):Bool:=if gone then (t.length:Int) == 0 else zbo t
set_option maxHeartbeats 1600000 in
theorem zql (w:World) (v:Value) (t:List Int) (gone:Bool) (h:Byt w v t) :
  Calls Tryz.prog 115 #[v,.bool gone] w fun e w'=>e=.returned (.bool (valB t gone))∧w'=w:=by
 have HT:=hide (zhR w v t h)
 obtain⟨a,c,rfl,_,_⟩:=h.shape
 clear h
 cases gone
 ·go_enter Tryz.func115,Tryz.ntmps115
  go_wp2_with fail
  refine (zaa HT).mono ?_
  rintro e w1 ⟨rfl,rfl⟩
  go_wp2
  go_ret
  exact⟨rfl,rfl⟩
 ·go_enter Tryz.func115,Tryz.ntmps115
  go_wp2_with fail
  go_ret
  exact⟨rfl,rfl⟩
def zcy (k:Int) (n t:List Int):Bool:=if k=0 then zbA n && (t.length:Int) == 0 else if k=1 then (n.length:Int) == 0 && zbo t else false
theorem zlm (w:World):Calls Tryz.prog 125 #[.slice none 0 0] w fun e w'=>e=.returned (.bool true)∧w'=w:=by
 go_enter Tryz.func125,Tryz.ntmps125
 go_wp2
 refine wp_loop_rounds 1 ?_
 rw [rounds_succ]
 go_wp2
 go_ret
 exact⟨rfl,rfl⟩
set_option maxHeartbeats 3200000 in
theorem znc (w:World) (k:Int) (vn vt:Value) (n t:List Int) (g:Nat) (hn:Byt w vn n) (ht:Byt w vt t) :
  Calls Tryz.prog 90 #[.agg #[.int .i64 k,vn,vt,.slice none 0 0,.slice none 0 0],.pointer (some ⟨g,0,none⟩)] w fun e w'=>e=.returned (.bool (zcy k n t))∧w'=w.alloc (.cells #[.int .i64 k,vn,vt,.slice none 0 0,.slice none 0 0] 37):=by
 have HA:=hide ((Below.refl w.heap.size w).alloc (Nat.le_refl _) (.cells #[.int .i64 k,vn,vt,.slice none 0 0,.slice none 0 0] 37))
 have HN:=hide (zlJ _ vn n (hn.keep (zaa HA)))
 have HT:=hide (zhR _ vt t (ht.keep (zaa HA)))
 obtain⟨a1,c1,rfl,_,_⟩:=hn.shape
 obtain⟨a2,c2,rfl,_,_⟩:=ht.shape
 clear hn ht
 by_cases k0:k=0
 ·subst k0
  have HE:=hide (show zcy 0 n t=(zbA n && (t.length:Int) == 0) from rfl)
  generalize zbA n=x at *
  generalize n.length=ln at *
  generalize t.length=lt at *
  cases x
  ·go_enter Tryz.func90,Tryz.ntmps90
   go_wp2_with fail
   refine (zaa HN).mono ?_
   rintro e w1 ⟨rfl,rfl⟩
   go_wp2_with fail
   go_ret
   exact⟨by rw [zaa HE];rfl,rfl⟩
  ·by_cases h0:lt=0
   ·subst h0
    go_enter Tryz.func90,Tryz.ntmps90
    go_wp2_with fail
    refine (zaa HN).mono ?_
    rintro e w1 ⟨rfl,rfl⟩
    go_wp2_with fail
    refine (zlm _).mono ?_
    rintro e w1 ⟨rfl,rfl⟩
    go_wp2_with fail
    go_ret
    exact⟨by rw [zaa HE];rfl,rfl⟩
   ·have h0':((lt:Int) == 0)=false:=by simpa using h0
    go_enter Tryz.func90,Tryz.ntmps90
    go_wp2_with fail
    refine (zaa HN).mono ?_
    rintro e w1 ⟨rfl,rfl⟩
    go_wp2_with fail
    go_ret
    exact⟨by rw [zaa HE,h0'];rfl,rfl⟩
 ·by_cases k1:k=1
  ·subst k1
   have HE:=hide (show zcy 1 n t=((n.length:Int) == 0 && zbo t) from rfl)
   generalize zbo t=x at *
   generalize n.length=ln at *
   generalize t.length=lt at *
   by_cases h0:ln=0
   ·subst h0
    cases x
    ·go_enter Tryz.func90,Tryz.ntmps90
     go_wp2_with fail
     refine (zaa HT).mono ?_
     rintro e w1 ⟨rfl,rfl⟩
     go_wp2_with fail
     go_ret
     exact⟨by rw [zaa HE];rfl,rfl⟩
    ·go_enter Tryz.func90,Tryz.ntmps90
     go_wp2_with fail
     refine (zaa HT).mono ?_
     rintro e w1 ⟨rfl,rfl⟩
     go_wp2_with fail
     go_ret
     exact⟨by rw [zaa HE];rfl,rfl⟩
   ·have h0':((ln:Int) == 0)=false:=by simpa using h0
    go_enter Tryz.func90,Tryz.ntmps90
    go_wp2_with fail
    go_ret
    exact⟨by rw [zaa HE,h0'];rfl,rfl⟩
  ·have HE:=hide (show zcy k n t=false by unfold zcy;rw [if_neg k0,if_neg k1])
   have q0:(k == 0)=false:=by simpa using k0
   have q1:(k == 1)=false:=by simpa using k1
   go_enter Tryz.func90,Tryz.ntmps90
   go_wp2_with fail
   go_ret
   exact⟨by rw [zaa HE];rfl,rfl⟩
set_option maxHeartbeats 3200000 in
theorem zoY (w:World) (k:Int) (vn vt:Value) (n t:List Int) (hn:Byt w vn n) (ht:Byt w vt t) :
  Calls Tryz.prog 56 #[.agg #[.int .i64 k,vn,vt,.slice none 0 0,.slice none 0 0]] w fun e w'=>e=.returned (.bool (zcy k n t))∧w'=((w.alloc (.cells #[.int .i64 k,vn,vt,.slice none 0 0,.slice none 0 0] 37)).alloc (.cells #[.int .u32 0,.int .i32 0,.int .u32 0,.map none] 110)).alloc (.cells #[.int .i64 k,vn,vt,.slice none 0 0,.slice none 0 0] 37):=by
 have HN:=hide (fun W (h:Below w.heap.size w W)=>hn.keep h)
 have HT:=hide (fun W (h:Below w.heap.size w W)=>ht.keep h)
 obtain⟨a1,c1,rfl,_,_⟩:=hn.shape
 obtain⟨a2,c2,rfl,_,_⟩:=ht.shape
 clear hn ht
 go_enter Tryz.func56,Tryz.ntmps56
 go_wp2_with fail
 have HB:=hide (((Below.refl w.heap.size w).alloc (Nat.le_refl _) (.cells #[.int .i64 k,.slice a1 n.length c1,.slice a2 t.length c2,.slice none 0 0,.slice none 0 0] 37)).alloc (by simp) (.cells #[.int .u32 0,.int .i32 0,.int .u32 0,.map none] 110))
 refine (znc _ k _ _ n t _ (zaa HN _ (zaa HB)) (zaa HT _ (zaa HB))).mono ?_
 rintro e w1 ⟨rfl,rfl⟩
 go_wp2
 go_ret
 exact⟨rfl,rfl⟩
def zbl (o:OpV):Bool:=(o.kind == 0) && (zbz o.atN o.atR && (zbz o.nodeN o.nodeR && (zbz o.parN o.parR && ((o.key.length:Int) == 0 && ((o.elem == 0) && ((o.name.length:Int) == 0 && ((o.text.length:Int) == 0 && !o.gone)))))))
set_option maxHeartbeats 3200000 in
theorem zet (w:World) (o:OpV) (a1 a2 a3:Option Addr) (c1 c2 c3:Nat) :
  Calls Tryz.prog 116 #[zaU o (.slice a1 o.key.length c1) (.slice a2 o.name.length c2) (.slice a3 o.text.length c3)] w fun e w'=>e=.returned (.bool (zbl o))∧Below w.heap.size w w':=by
 unfold zaU
 go_enter Tryz.func116,Tryz.ntmps116
 go_wp2_with fail
 all_goals
  go_ret
  exact⟨by simp [zbl,zbz, *],(Below.refl w.heap.size w).alloc (Nat.le_refl _) _⟩
end Go.Proofs.YtlpnibbdmkeklaaGreatDoor
namespace Go.Proofs.YtlpnibbdmkeklaaGreatDoor
set_option linter.unusedVariables false
theorem zee (o:OpV):zbK o=(decide (o.kind<0) || (decide (3<o.kind) || (!zan o.atN o.atR || !zbo o.text))):=by
 unfold zbK zan
 have e1:decide (1≤o.atN) = !decide (o.atN<1):=by rw [Bool.eq_iff_iff];simp
 have e2:decide (o.atN≤1000000) = !decide (1000000<o.atN):=by rw [Bool.eq_iff_iff];simp
 have e3:decide (0≤o.atR) = !decide (o.atR<0):=by rw [Bool.eq_iff_iff];simp
 have e4:decide (o.atR<8) = !decide (8≤o.atR):=by rw [Bool.eq_iff_iff];simp
 rw [e1,e2,e3,e4]
 cases decide (o.kind<0)<;>cases decide (3<o.kind)<;>cases decide (o.atN<1)<;>cases decide (1000000<o.atN)<;>cases decide (o.atR<0)<;>cases decide (8≤o.atR)<;>rfl
theorem zfC {t:List Int} (h:((t.length:Int) == 0)=true):zbo t=true:=by
 have:t=[]:=by simpa using h
 subst this
 rfl
theorem zgo:((([]:List Int).length:Int) == 0)=true:=rfl
theorem zeu:zbz 0 0=true:=rfl
def zjr (o:OpV):OpV:=⟨0,0,0,o.nodeN,o.nodeR,0,0,[],0,[],[],o.gone⟩
def zjv (o:OpV):OpV:=⟨0,0,0,0,0,0,0,[],o.elem,o.name,o.text,o.gone⟩
def zju (o:OpV):OpV:=⟨0,0,0,0,0,o.parN,o.parR,o.key,o.elem,o.name,[],o.gone⟩
def zjw (o:OpV):OpV:=⟨0,0,0,0,0,o.parN,o.parR,o.key,o.elem,[],[],false⟩
theorem zjp {o:OpV} (h:o.kind=0):opB o=(zan o.atN o.atR && ((idB o.parN o.parR && (keyB o.key && zcy o.elem o.name o.text)) && zbl (zjr o))):=by
 unfold opB
 rw [zee,h]
 simp only [Int.lt_irrefl,decide_false,Bool.false_or,beq_self_eq_true,if_true,show decide ((3:Int)<0)=false from rfl]
 unfold zgb zbl zjr
 simp only [zeu,zgo,beq_self_eq_true,Bool.true_and]
 unfold zcy
 cases hs:zan o.atN o.atR
 ·simp
 cases idB o.parN o.parR
 ·simp
 cases keyB o.key
 ·simp
 cases zbz o.nodeN o.nodeR
 ·simp
 cases o.gone
 ·by_cases e1:o.elem=1
  ·rw [e1]
   cases zbo o.text<;>simp
  ·by_cases e0:o.elem=0
   ·rw [e0]
    cases ht:zbo o.text
    ·cases hl:((o.text.length:Int) == 0)
     ·simp
     ·rw [zfC hl]at ht;cases ht
    ·simp
   ·simp [e0,e1]
 ·simp
theorem zjt {o:OpV} (h:o.kind=1):opB o=(zan o.atN o.atR && ((idB o.nodeN o.nodeR && (idB o.parN o.parR && keyB o.key)) && zbl (zjv o))):=by
 unfold opB
 rw [zee,h]
 simp only [show decide ((1:Int)<0)=false from rfl,Bool.false_or,show ((1:Int) == 0)=false from rfl,show ((1:Int) == 1)=true from rfl,show decide ((3:Int)<1)=false from rfl,if_true]
 unfold zdY zbl zjv
 simp only [zeu,zgo,beq_self_eq_true,Bool.true_and]
 cases hs:zan o.atN o.atR
 ·simp
 cases idB o.nodeN o.nodeR
 ·simp
 cases idB o.parN o.parR
 ·simp
 cases keyB o.key
 ·simp
 cases hl:((o.text.length:Int) == 0)
 ·simp
 ·rw [zfC hl];simp
theorem zjs {o:OpV} (h:o.kind=2):opB o=(zan o.atN o.atR && ((idB o.nodeN o.nodeR && zbo o.text) && zbl (zju o))):=by
 unfold opB
 rw [zee,h]
 simp only [show decide ((2:Int)<0)=false from rfl,Bool.false_or,show ((2:Int) == 0)=false from rfl,show ((2:Int) == 1)=false from rfl,show decide ((3:Int)<2)=false from rfl]
 unfold zeb zbl zju
 rw [h]
 simp only [zeu,zgo,beq_self_eq_true,Bool.true_and,if_true]
 have ek:decide (0<(o.key.length:Int)) = !((o.key.length:Int) == 0):=by rw [Bool.eq_iff_iff];simp [Nat.pos_iff_ne_zero]
 rw [ek]
 cases hs:zan o.atN o.atR
 ·simp
 cases idB o.nodeN o.nodeR
 ·simp
 cases zbo o.text
 ·simp
 cases zbz o.parN o.parR
 ·simp
 cases ((o.key.length:Int) == 0)
 ·simp
 cases (o.elem == 0)
 ·simp
 simp
theorem zjo {o:OpV} (h:o.kind=3):opB o=(zan o.atN o.atR && ((idB o.nodeN o.nodeR && (zbA o.name && valB o.text o.gone)) && zbl (zjw o))):=by
 unfold opB
 rw [zee,h]
 simp only [show decide ((3:Int)<0)=false from rfl,Bool.false_or,show ((3:Int) == 0)=false from rfl,show ((3:Int) == 1)=false from rfl,show decide ((3:Int)<3)=false from rfl]
 unfold zeb zbl zjw valB
 rw [h]
 simp only [zeu,zgo,beq_self_eq_true,Bool.true_and,show ((3:Int) == 2)=false from rfl]
 have ek:decide (0<(o.key.length:Int)) = !((o.key.length:Int) == 0):=by rw [Bool.eq_iff_iff];simp [Nat.pos_iff_ne_zero]
 rw [ek]
 cases hs:zan o.atN o.atR
 ·simp
 cases idB o.nodeN o.nodeR
 ·simp
 cases zbz o.parN o.parR
 ·simp
 cases ((o.key.length:Int) == 0)
 ·simp
 cases (o.elem == 0)
 ·simp
 cases zbA o.name
 ·simp
 cases o.gone
 ·cases zbo o.text<;>simp
 ·cases hl:((o.text.length:Int) == 0)
  ·simp
  ·rw [zfC hl];simp
theorem zqA {o:OpV} (h0:o.kind≠0) (h1:o.kind≠1) (h2:o.kind≠2) (h3:o.kind≠3):opB o=false:=by
 have:(decide (o.kind<0) || decide (3<o.kind))=true:=by
  simp only [Bool.or_eq_true,decide_eq_true_eq]
  omega
 unfold opB
 rw [zee,←Bool.or_assoc,this]
 rfl
end Go.Proofs.YtlpnibbdmkeklaaGreatDoor
