/- A frame by what may turn: blocks by their number and what lies in them. -/
import Derived.Test.YteioihjgjbjmjaaToT
namespace Go.Proofs.Yteioihjgjbjmjaa
open Go.RowKit
set_option linter.unusedVariables false

/-- All blocks but those that may turn (Mt) lie as they lay. -/
structure Frp (Mt : Nat → Obj → Prop) (a b : World) : Prop where
  os : b.os = a.os
  tape : b.tape = a.tape
  output : b.output = a.output
  size : a.heap.size ≤ b.heap.size
  block : ∀ i o, a.heap[i]? = some o → ¬ Mt i o → b.heap[i]? = some o
theorem Frp.refl (Mt : Nat → Obj → Prop) (a : World) : Frp Mt a a := ⟨rfl, rfl, rfl, Nat.le_refl _, fun _ _ h _ => h⟩
theorem Frp.trans {Mt : Nat → Obj → Prop} {a b c : World} (h : Frp Mt a b) (k : Frp Mt b c) : Frp Mt a c :=
  ⟨k.os.trans h.os, k.tape.trans h.tape, k.output.trans h.output, Nat.le_trans h.size k.size, fun i o hi hm => k.block i o (h.block i o hi hm) hm⟩
theorem Frp.ofBelow {a b : World} (h : Below a.heap.size a b) (Mt : Nat → Obj → Prop) : Frp Mt a b :=
  ⟨h.os, h.tape, h.output, h.size, fun i o hi _ => (h.block i (Array.getElem?_eq_some_iff.1 hi).1).trans hi⟩
theorem Frp.ofFrm {a b : World} {S : List Nat} (h : Frm a b S) {Mt : Nat → Obj → Prop} (hm : ∀ g ∈ S, ∀ o, a.heap[g]? = some o → Mt g o) : Frp Mt a b :=
  ⟨h.os, h.tape, h.output, h.size, fun i o hi hn => (h.block i (Array.getElem?_eq_some_iff.1 hi).1 (fun e => hn (hm i e o hi))).trans hi⟩
theorem Frp.below {Mt : Nat → Obj → Prop} {a b : World} {B : Nat} (h : Frp Mt a b) (hB : B ≤ a.heap.size) (hm : ∀ i o, i < B → ¬ Mt i o) : Below B a b :=
  ⟨h.os, h.tape, h.output, h.size, fun i hi => by
    have hlt : i < a.heap.size := by omega
    have := h.block i _ (Array.getElem?_eq_getElem hlt) (hm i _ hi)
    rw [this, Array.getElem?_eq_getElem hlt]⟩

theorem Loc.frp {Mt : Nat → Obj → Prop} {w w' : World} {g : Nat} {cs : Array Value} {T : TypeId} (h : Loc w g cs T) (f : Frp Mt w w') (hn : ¬ Mt g (.cells cs T (0, 0))) : Loc w' g cs T := f.block g _ h hn
theorem own_obj {w : World} {base : Nat} {e : TypeId} {size n : Nat} {v : Value} {xs : List Value} (h : w.ownsRow base e size v n xs) {g : Nat} (hg : v.ownBlock = some g) : ∃ cur, w.heap[g]? = some (.cells cur e (0, 0)) := by
  rcases h.2 with ⟨rfl, _⟩ | ⟨g', cap, cur, rfl, _, ho, _⟩
  · cases hg
  · cases hg; exact ⟨cur, ho⟩
/-- Rows of bytes at or beyond B may turn, nothing else. -/
def MtB (B : Nat) (i : Nat) (o : Obj) : Prop := B ≤ i ∧ ∃ cs, o = .cells cs 5 (0, 0)
theorem Frp.ofAppend {w w' : World} {B : Nat} {v : Value} {l : List Int} (ho : Own w B v l) (h : w.grownBy w' v.ownBlock) : Frp (MtB B) w w' :=
  Frp.ofFrm (Frm.ofGrown h) (fun g hg o hob => by
    have hg' : v.ownBlock = some g := by simpa using hg
    obtain ⟨cur, hcur⟩ := own_obj ho.2 hg'
    rw [hcur] at hob
    cases hob
    exact ⟨(ho.lt g hg').1, cur, rfl⟩)
theorem Frp.toBelow {B : Nat} {a b : World} (h : Frp (MtB B) a b) (hB : B ≤ a.heap.size) : Below B a b := h.below hB (fun i o hi hm => by have := hm.1; omega)
end Go.Proofs.Yteioihjgjbjmjaa
