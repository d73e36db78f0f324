/- A region that draws its order, whose operations only read and whose callees leave what was there as it was: one walk, in the order of the text. No program. -/
import Derived.Test.YtcabolcfoijglaaBase
import Derived.BigQuiet
namespace Go.Proofs.Ytcabolcfoijglaa
open Go.RowKit
set_option linter.unusedVariables false

/-- A world in which all that was there in w is as it was. -/
structure Gr (w : World) where
  W : World
  h : Below w.heap.size w W
theorem wp_region_gr {P : Program} {id : Nat} {Q : Exit → Act → World → Prop} {a : Act} {w : World} {l : List Oper} (hm : P.follows .mixedOrders = true) (hB : Region.lexB .any l.toArray = true)
    (h : wpQuiet P l.toArray (fun w' => ∃ p : Gr w, w' = p.W) (fun a' => ∀ w', (∃ p : Gr w, w' = p.W) → Q .normal a' w') l a) : (Code.region id l.toArray true).wp P Q a w :=
  wp_region_quiet (C := fun w' => ∃ p : Gr w, w' = p.W) hm hB ⟨⟨w.drew, (Below.refl _ _).drew⟩, rfl⟩ (by simpa using h)
theorem Gr.cell {w : World} {a : Addr} {v : Value} (hb : a.block < w.heap.size) (h : w.cell? a = some v) (p : Gr w) : p.W.cell? a = some v := (p.h.cell hb).trans h
/-- A callee's contract, met in such a world. -/
theorem calls_gr {P : Program} {f : FuncId} {args : Array Value} {w : World} {p : Gr w} {v : Value} (h : Calls P f args p.W fun e w' => e = .returned v ∧ Below p.W.heap.size p.W w') : Calls P f args p.W fun e w'' => e = .returned v ∧ ∃ q : Gr w, w'' = q.W :=
  h.mono fun _ _ ⟨he, hB⟩ => ⟨he, ⟨⟨_, bstep p.h hB⟩, rfl⟩⟩
end Go.Proofs.Ytcabolcfoijglaa
