/- Own texts joined: BaseZ, OpenO. -/
import Derived.Test.YtgjolijncmkkhaaGreatDoorJa
import Derived.Test.YtgjolijncmkkhaaGreatDoorProg
import Derived.ChangeArms
import Derived.ChangeSlices
import Derived.WideShapes
namespace Go.Proofs.YtgjolijncmkkhaaGreatDoor
open Go.RowKit
set_option linter.unusedVariables false
def okZ (l:Xg):Prop:=∀x∈l,-9223372036854775808<=x∧x<=9223372036854775807
def valz (l:Xg):Xj:=l.map (Value.int .i64)
def Ints (w:Xk) (v:Xl) (l:Xg):Prop:=
 okZ l∧l.length<=maxLen∧
 ((v=.slice none 0 0∧l=[])∨
  (∃x cap,v=.slice (some x) 0 cap∧cap<=maxLen∧l=[])∨
  (∃b off cap,v=.slice (some ⟨b,off,none⟩) l.length cap∧l.length<=cap∧cap<=maxLen∧l≠[]∧b<w.heap.size∧
   ∀i,i<l.length->w.cell? ⟨b,off+i,none⟩=some (.int .i64 (l.getD i 0))))
def OwnZ (w:Xk) (base:Nat) (v:Xl) (l:Xg):Prop:=okZ l∧w.ownsRow base 3 1 v l.length (valz l)
theorem zyU:okZ []:=fun _ h=>by cases h
theorem okZ.at {a:Xg} (h:okZ a) (i:Nat) : -9223372036854775808<=a[i]?.getD 0∧a[i]?.getD 0<=9223372036854775807:=by
 by_cases hi:i<a.length
 ·rw [List.getElem?_eq_getElem hi];exact h _ (List.getElem_mem hi)
 ·rw [List.getElem?_eq_none (by omega)];decide
theorem okZ.one {x:Int} (h0 : -9223372036854775808<=x) (h1:x<=9223372036854775807):okZ [x]:=fun y hy=>by simp at hy;subst hy;exact⟨h0,h1⟩
theorem zyH {l:Xg} {i:Nat} (h:i<l.length):(valz l)[i]? = some (.int .i64 (l.getD i 0)):=by simp [valz,h]
theorem OwnZ.lt {w:Xk} {base:Nat} {v:Xl} {l:Xg} (h:OwnZ w base v l):∀k,v.ownBlock=some k->base<=k∧k<w.heap.size:=h.2.lt
theorem OwnZ.mono {w:Xk} {base base':Nat} {v:Xl} {l:Xg} (h:OwnZ w base v l) (hb:base'<=base):OwnZ w base' v l:=by
 refine⟨h.1,h.2.1,?_⟩
 rcases h.2.2 with h' | ⟨g,cap,cur,h1,h2,h3⟩
 ·exact .inl h'
 ·exact .inr ⟨g,cap,cur,h1,by omega,h3⟩
theorem OwnZ.ints {w:Xk} {base:Nat} {v:Xl} {l:Xg} (h:OwnZ w base v l):Ints w v l:=by
 obtain⟨Fa,Ba,Ca⟩:=h
 have hl:=Ba
 rcases Ca with ⟨rfl,h0⟩ | ⟨g,cap,Ia,rfl,hb,hg,Ga,Da,Ha,Aa⟩
 ·exact⟨Fa,by omega,.inl ⟨rfl,List.eq_nil_of_length_eq_zero h0⟩⟩
 ·refine⟨Fa,by omega,.inr ?_⟩
  by_cases h0:l=[]
  ·subst h0;exact .inl ⟨_,cap,rfl,Da,rfl⟩
  ·refine .inr ⟨g,0,cap,rfl,Ga,Da,h0,?_,fun i hi=> ?_⟩
   ·by_cases hlt:g<w.heap.size
    ·exact hlt
    ·rw [Array.getElem?_eq_none (by omega)]at hg;cases hg
   ·have:=World.ownsRow.cellAt (w:=w) (base:=base) (e:=3) (size:=1) (g:=g) (n:=l.length) (cap:=cap) (xs:=valz l) ⟨Ba,.inr ⟨g,cap,Ia,rfl,hb,hg,Ga,Da,Ha,Aa⟩⟩ i (by omega)
    rw [zyH hi]at this
    simpa using this
theorem Ints.shape {w:Xk} {v:Xl} {l:Xg} (h:Ints w v l):∃a cap,v=.slice a l.length cap∧l.length<=cap∧cap<=maxLen:=by
 obtain⟨_,hm,⟨rfl,rfl⟩ | ⟨x,cap,rfl,hc,rfl⟩ | ⟨b,Aa,cap,rfl,h1,h2,_⟩⟩:=h
 ·exact⟨none,0,rfl,Nat.le_refl _,hm⟩
 ·exact⟨some x,cap,rfl,Nat.zero_le _,hc⟩
 ·exact⟨_,cap,rfl,h1,h2⟩
theorem Ints.keep {w w':Xk} {v:Xl} {l:Xg} (h:Ints w v l) (hb:Below w.heap.size w w'):Ints w' v l:=by
 obtain⟨Aa,hm,h1 | h2 | ⟨b,Ba,Ca,rfl,h1,h2,h3,h4,h5⟩⟩:=h
 ·exact⟨Aa,hm,.inl h1⟩
 ·exact⟨Aa,hm,.inr (.inl h2)⟩
 ·exact⟨Aa,hm,.inr (.inr ⟨b,Ba,Ca,rfl,h1,h2,h3,Nat.lt_of_lt_of_le h4 hb.size,fun i hi=>by rw [hb.cell (p:=⟨b,Ba+i,none⟩) h4];exact h5 i hi⟩)⟩
end Go.Proofs.YtgjolijncmkkhaaGreatDoor
namespace Go.Proofs.YtgjolijncmkkhaaGreatDoor
open Go.RowKit Go.ChangeShapes
set_option linter.unusedVariables false
set_option maxRecDepth 100000
variable {H:Type} {enc:Xm×Xl->H} {W:Xk} {held:Bool}
theorem zrl {fuel:Nat} {cs:Xj} {x:DataW H×List MemPlace} (h:DataW.trod enc Tryz.prog W 0 (fun _=>true) held fuel 22 cs=some x) :
  ∃v l,cs=[v]∧Byt W v l:=by
 rcases open_ints Tryz.underlying22 Tryz.underlying5 (by kernel_rfl) h with ⟨Ba,_⟩ | ⟨a,len,Da,zs,Ba,_,hl,hm,hz,_,Aa,Ca⟩
 ·exact⟨_,_,Ba,zkK (zs:=[]) (.inl ⟨rfl,rfl,rfl,rfl⟩)⟩
 ·exact⟨_,_,Ba,zkK (.inr ⟨_,rfl,hl,hm,by simpa using hz,Aa,Ca⟩)⟩
theorem zsV {r:Reach} {base:Nat} {v:Xl} {d:DataW H} {p:List MemPlace} (hv:Value.okWide Tryz.prog W r base 22 v) (h:DataW.Trod enc Tryz.prog W 0 (fun _=>true) held 22 v d p):∃l,Byt W v l:=by
 obtain⟨a,len,Ba,rfl⟩:=WideShapes.okWide_slice Tryz.underlying22 hv
 obtain⟨Aa,hf⟩:=h
 obtain⟨u,l,hu,hb⟩:=zrl hf
 simp [Value.cells]at hu
 subst hu
 exact⟨l,hb⟩
end Go.Proofs.YtgjolijncmkkhaaGreatDoor
