/- Owned rows lie apart. -/
import Derived.Test.YtjannojebngoeabBase
namespace Go.Proofs.Ytjannojebngoeab
open Go.RowKit
set_option linter.unusedVariables false

/-- Two owned rows of which one was made behind the other lie in different blocks. -/
theorem own_apart {w w' : World} {b b' : Nat} {v v' : Value} {l l' : List Int} (h : Own w b v l) (h' : Own w' b' v' l') (hs : w.heap.size ≤ b') : v.ownBlock = none ∨ v.ownBlock ≠ v'.ownBlock := by
  cases hv : v.ownBlock with
  | none => exact .inl rfl
  | some g =>
    right
    intro e
    have h1 := h.lt g hv
    have h2 := h'.lt g e.symm
    omega
theorem own_apart' {w w' : World} {b b' : Nat} {v v' : Value} {l l' : List Int} (h : Own w b v l) (h' : Own w' b' v' l') (hs : w.heap.size ≤ b') : v'.ownBlock = none ∨ v'.ownBlock ≠ v.ownBlock := by
  cases hv : v'.ownBlock with
  | none => exact .inl rfl
  | some g =>
    right
    intro e
    have h1 := h.lt g e.symm
    have h2 := h'.lt g hv
    omega
end Go.Proofs.Ytjannojebngoeab
