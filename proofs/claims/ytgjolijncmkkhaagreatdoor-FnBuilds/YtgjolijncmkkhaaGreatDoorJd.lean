/- Own texts joined: BaseZ, OpenO. -/
import Derived.Test.YtgjolijncmkkhaaGreatDoorJa
import Derived.Test.YtgjolijncmkkhaaGreatDoorProg
import Derived.ChangeArms
import Derived.ChangeSlices
import Derived.WideShapes
namespace Go.Proofs.YtgjolijncmkkhaaGreatDoor
open Go.RowKit
set_option linter.unusedVariables false
def okZ (l:Xc):Prop:=∀x∈l,-9223372036854775808<=x∧x<=9223372036854775807
def valz (l:Xc):Xf:=l.map (Value.int .i64)
def Ints (w:Xg) (v:Xh) (l:Xc):Prop:=
 okZ l∧l.length<=maxLen∧
 ((v=.slice none 0 0∧l=[])∨
  (∃x cap,v=.slice (some x) 0 cap∧cap<=maxLen∧l=[])∨
  (∃b off cap,v=.slice (some ⟨b,off,none⟩) l.length cap∧l.length<=cap∧cap<=maxLen∧l≠[]∧b<w.heap.size∧
   ∀i,i<l.length->w.cell? ⟨b,off+i,none⟩=some (.int .i64 (l.getD i 0))))
def OwnZ (w:Xg) (base:Nat) (v:Xh) (l:Xc):Prop:=okZ l∧w.ownsRow base 3 1 v l.length (valz l)
theorem okZ.at {a:Xc} (h:okZ a) (i:Nat) : -9223372036854775808<=a[i]?.getD 0∧a[i]?.getD 0<=9223372036854775807:=by
 by_cases hi:i<a.length
 ·rw [List.getElem?_eq_getElem hi];exact h _ (List.getElem_mem hi)
 ·rw [List.getElem?_eq_none (by omega)];decide
theorem zyd {l:Xc} {i:Nat} (h:i<l.length):(valz l)[i]? = some (.int .i64 (l.getD i 0)):=by simp [valz,h]
theorem OwnZ.mono {w:Xg} {base base':Nat} {v:Xh} {l:Xc} (h:OwnZ w base v l) (hb:base'<=base):OwnZ w base' v l:=by
 refine⟨h.1,h.2.1,?_⟩
 rcases h.2.2 with h' | ⟨g,cap,cur,h1,h2,h3⟩
 ·exact .inl h'
 ·exact .inr ⟨g,cap,cur,h1,by omega,h3⟩
theorem OwnZ.ints {w:Xg} {base:Nat} {v:Xh} {l:Xc} (h:OwnZ w base v l):Ints w v l:=by
 obtain⟨Fa,Ba,Da⟩:=h
 have hl:=Ba
 rcases Da with ⟨rfl,h0⟩ | ⟨g,cap,Ha,rfl,hb,hg,Ga,Ca,Ia,Aa⟩
 ·exact⟨Fa,by omega,.inl ⟨rfl,List.eq_nil_of_length_eq_zero h0⟩⟩
 ·refine⟨Fa,by omega,.inr ?_⟩
  by_cases h0:l=[]
  ·subst h0;exact .inl ⟨_,cap,rfl,Ca,rfl⟩
  ·refine .inr ⟨g,0,cap,rfl,Ga,Ca,h0,?_,fun i hi=> ?_⟩
   ·by_cases hlt:g<w.heap.size
    ·exact hlt
    ·rw [Array.getElem?_eq_none (by omega)]at hg;cases hg
   ·have:=World.ownsRow.cellAt (w:=w) (base:=base) (e:=3) (size:=1) (g:=g) (n:=l.length) (cap:=cap) (xs:=valz l) ⟨Ba,.inr ⟨g,cap,Ha,rfl,hb,hg,Ga,Ca,Ia,Aa⟩⟩ i (by omega)
    rw [zyd hi]at this
    simpa using this
theorem Ints.shape {w:Xg} {v:Xh} {l:Xc} (h:Ints w v l):∃a cap,v=.slice a l.length cap∧l.length<=cap∧cap<=maxLen:=by
 obtain⟨_,hm,⟨rfl,rfl⟩ | ⟨x,cap,rfl,hc,rfl⟩ | ⟨b,Aa,cap,rfl,h1,h2,_⟩⟩:=h
 ·exact⟨none,0,rfl,Nat.le_refl _,hm⟩
 ·exact⟨some x,cap,rfl,Nat.zero_le _,hc⟩
 ·exact⟨_,cap,rfl,h1,h2⟩
end Go.Proofs.YtgjolijncmkkhaaGreatDoor
namespace Go.Proofs.YtgjolijncmkkhaaGreatDoor
open Go.RowKit Go.ChangeShapes
set_option linter.unusedVariables false
set_option maxRecDepth 100000
variable {H:Type} {enc:Xi×Xh->H} {W:Xg} {held:Bool}
theorem zqw {fuel:Nat} {cs:Xf} {x:DataW H×List MemPlace} (h:DataW.trod enc Tryz.prog W 0 (fun _=>true) held fuel 22 cs=some x) :
  ∃v l,cs=[v]∧Byt W v l:=by
 rcases open_ints Tryz.underlying22 Tryz.underlying5 (by kernel_rfl) h with ⟨Ba,_⟩ | ⟨a,len,Da,zs,Ba,_,hl,hm,hz,_,Aa,Ca⟩
 ·exact⟨_,_,Ba,zlj (zs:=[]) (.inl ⟨rfl,rfl,rfl,rfl⟩)⟩
 ·exact⟨_,_,Ba,zlj (.inr ⟨_,rfl,hl,hm,by simpa using hz,Aa,Ca⟩)⟩
theorem zsH {r:Reach} {base:Nat} {v:Xh} {d:DataW H} {p:List MemPlace} (hv:Value.okWide Tryz.prog W r base 22 v) (h:DataW.Trod enc Tryz.prog W 0 (fun _=>true) held 22 v d p):∃l,Byt W v l:=by
 obtain⟨a,len,Ba,rfl⟩:=WideShapes.okWide_slice Tryz.underlying22 hv
 obtain⟨Aa,hf⟩:=h
 obtain⟨u,l,hu,hb⟩:=zqw hf
 simp [Value.cells]at hu
 subst hu
 exact⟨l,hb⟩
end Go.Proofs.YtgjolijncmkkhaaGreatDoor
