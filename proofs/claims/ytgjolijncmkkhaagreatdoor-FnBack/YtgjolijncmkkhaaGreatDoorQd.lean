/- Own texts joined: BaseZ, OpenO. -/
import Derived.Test.YtgjolijncmkkhaaGreatDoorQa
import Derived.Test.YtgjolijncmkkhaaGreatDoorProg
import Derived.ChangeArms
import Derived.ChangeSlices
import Derived.WideShapes
namespace Go.Proofs.YtgjolijncmkkhaaGreatDoor
open Go.RowKit
set_option linter.unusedVariables false
end Go.Proofs.YtgjolijncmkkhaaGreatDoor
namespace Go.Proofs.YtgjolijncmkkhaaGreatDoor
open Go.RowKit Go.ChangeShapes
set_option linter.unusedVariables false
set_option maxRecDepth 100000
variable {H:Type} {enc:Xm×Xl->H} {W:Xk} {held:Bool}
theorem zrC {fuel:Nat} {cs:Xj} {x:DataW H×List MemPlace} (h:DataW.trod enc Tryz.prog W 0 (fun _=>true) held fuel 22 cs=some x) :
  ∃v l,cs=[v]∧Byt W v l:=by
 rcases open_ints Tryz.underlying22 Tryz.underlying5 (by kernel_rfl) h with ⟨Ba,_⟩ | ⟨a,len,Da,zs,Ba,_,hl,hm,hz,_,Aa,Ca⟩
 ·exact⟨_,_,Ba,zlP (zs:=[]) (.inl ⟨rfl,rfl,rfl,rfl⟩)⟩
 ·exact⟨_,_,Ba,zlP (.inr ⟨_,rfl,hl,hm,by simpa using hz,Aa,Ca⟩)⟩
theorem zua {r:Reach} {base:Nat} {v:Xl} {d:DataW H} {p:List MemPlace} (hv:Value.okWide Tryz.prog W r base 22 v) (h:DataW.Trod enc Tryz.prog W 0 (fun _=>true) held 22 v d p):∃l,Byt W v l:=by
 obtain⟨a,len,Ba,rfl⟩:=WideShapes.okWide_slice Tryz.underlying22 hv
 obtain⟨Aa,hf⟩:=h
 obtain⟨u,l,hu,hb⟩:=zrC hf
 simp [Value.cells]at hu
 subst hu
 exact⟨l,hb⟩
end Go.Proofs.YtgjolijncmkkhaaGreatDoor
