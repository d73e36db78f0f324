/- Trees as data by their depth, and what it is for one to be readable in memory. -/
import Derived.Test.YtcabolcfoijglaaBase
namespace Go.Proofs.Ytcabolcfoijglaa
open Go.RowKit
set_option linter.unusedVariables false

/-- A node whose kids are of whatever kind. -/
structure Nd (α : Type) where
  kind : Int
  name : List Int
  text : List Int
  attrs : List (List Int × List Int)
  kids : List α

/-- Trees of depth below n. -/
def Tr : Nat → Type
  | 0 => Empty
  | n + 1 => Nd (Tr n)

/-- Elements of 'size' cells each lie behind the value v, one a member of l; element i has the cells C, of which R holds. -/
def Elems {α : Type} (w : World) (size : Nat) (v : Value) (l : List α) (R : List Value → α → Prop) : Prop :=
  l.length ≤ maxLen ∧
  ((v = .slice none 0 0 ∧ l = []) ∨
   (∃ x cap, v = .slice (some x) 0 cap ∧ cap ≤ maxLen ∧ l = []) ∨
   (∃ b off cap, v = .slice (some ⟨b, off, none⟩) l.length cap ∧ l.length ≤ cap ∧ cap ≤ maxLen ∧ l ≠ [] ∧ b < w.heap.size ∧
      ∀ i (hi : i < l.length), ∃ C : List Value, C.length = size ∧ (∀ j, j < size → w.cell? ⟨b, off + i * size + j, none⟩ = C[j]?) ∧ R C l[i]))

theorem Elems.shape {α : Type} {w : World} {size : Nat} {v : Value} {l : List α} {R : List Value → α → Prop} (h : Elems w size v l R) : ∃ a cap, v = .slice a l.length cap ∧ l.length ≤ cap ∧ cap ≤ maxLen := by
  obtain ⟨hm, ⟨rfl, rfl⟩ | ⟨x, cap, rfl, hc, rfl⟩ | ⟨b, off, cap, rfl, h1, h2, _⟩⟩ := h
  · exact ⟨none, 0, rfl, Nat.le_refl _, hm⟩
  · exact ⟨some x, cap, rfl, Nat.zero_le _, hc⟩
  · exact ⟨_, cap, rfl, h1, h2⟩

theorem Elems.keep {α : Type} {w w' : World} {size : Nat} {v : Value} {l : List α} {R R' : List Value → α → Prop} (h : Elems w size v l R) (hb : Below w.heap.size w w') (hR : ∀ C x, x ∈ l → R C x → R' C x) : Elems w' size v l R' := by
  obtain ⟨hm, h1 | h2 | ⟨b, off, cap, rfl, h1, h2, h3, h4, h5⟩⟩ := h
  · exact ⟨hm, .inl h1⟩
  · exact ⟨hm, .inr (.inl h2)⟩
  · refine ⟨hm, .inr (.inr ⟨b, off, cap, rfl, h1, h2, h3, Nat.lt_of_lt_of_le h4 hb.size, fun i hi => ?_⟩)⟩
    obtain ⟨C, hC, hc, hr⟩ := h5 i hi
    exact ⟨C, hC, fun j hj => (hb.cell (p := ⟨b, off + i * size + j, none⟩) h4).trans (hc j hj), hR C _ (List.getElem_mem hi) hr⟩

/-- An element of five cells, cell by cell. -/
theorem five_of {α : Type} {w : World} {b off k : Nat} {x : α} {R : List Value → α → Prop} (h : ∃ C : List Value, C.length = 5 ∧ (∀ j, j < 5 → w.cell? ⟨b, off + k * 5 + j, none⟩ = C[j]?) ∧ R C x) :
    ∃ c0 c1 c2 c3 c4, w.cell? ⟨b, off + k * 5, none⟩ = some c0 ∧ w.cell? ⟨b, off + k * 5 + 1, none⟩ = some c1 ∧ w.cell? ⟨b, off + k * 5 + 2, none⟩ = some c2 ∧ w.cell? ⟨b, off + k * 5 + 3, none⟩ = some c3 ∧ w.cell? ⟨b, off + k * 5 + 4, none⟩ = some c4 ∧ R [c0, c1, c2, c3, c4] x := by
  obtain ⟨C, hC, hcell, hr⟩ := h
  match C, hC with
  | [c0, c1, c2, c3, c4], _ => exact ⟨c0, c1, c2, c3, c4, hcell 0 (by omega), hcell 1 (by omega), hcell 2 (by omega), hcell 3 (by omega), hcell 4 (by omega), hr⟩
/-- An element of two cells, cell by cell. -/
theorem two_of {α : Type} {w : World} {b off k : Nat} {x : α} {R : List Value → α → Prop} (h : ∃ C : List Value, C.length = 2 ∧ (∀ j, j < 2 → w.cell? ⟨b, off + k * 2 + j, none⟩ = C[j]?) ∧ R C x) :
    ∃ c0 c1, w.cell? ⟨b, off + k * 2, none⟩ = some c0 ∧ w.cell? ⟨b, off + k * 2 + 1, none⟩ = some c1 ∧ R [c0, c1] x := by
  obtain ⟨C, hC, hcell, hr⟩ := h
  match C, hC with
  | [c0, c1], _ => exact ⟨c0, c1, hcell 0 (by omega), hcell 1 (by omega), hr⟩

/-- The two cells of an attribute. -/
def RdAttr (w : World) (C : List Value) (x : List Int × List Int) : Prop := ∃ a b, C = [a, b] ∧ Byt w a x.1 ∧ Byt w b x.2
def RdAttrs (w : World) (v : Value) (l : List (List Int × List Int)) : Prop := Elems w 2 v l (RdAttr w)

/-- The five cells of a node. -/
def RdNode : (n : Nat) → World → List Value → Tr n → Prop
  | 0 => fun _ _ _ => False
  | n + 1 => fun w C t => ∃ a b c d, C = [.int .i64 t.kind, a, b, c, d] ∧ -9223372036854775808 ≤ t.kind ∧ t.kind ≤ 9223372036854775807 ∧ Byt w a t.name ∧ Byt w b t.text ∧ RdAttrs w c t.attrs ∧ Elems w 5 d t.kids (RdNode n w)
def RdKids (n : Nat) (w : World) (v : Value) (l : List (Tr n)) : Prop := Elems w 5 v l (RdNode n w)

theorem RdAttrs.keep {w w' : World} {v : Value} {l : List (List Int × List Int)} (h : RdAttrs w v l) (hb : Below w.heap.size w w') : RdAttrs w' v l :=
  Elems.keep h hb (fun C x _ ⟨a, b, e, h1, h2⟩ => ⟨a, b, e, h1.keep hb, h2.keep hb⟩)
theorem RdNode.keep {n : Nat} {w w' : World} {C : List Value} {t : Tr n} (h : RdNode n w C t) (hb : Below w.heap.size w w') : RdNode n w' C t := by
  induction n generalizing C with
  | zero => exact h
  | succ n ih =>
    obtain ⟨a, b, c, d, e, k1, k2, h1, h2, h3, h4⟩ := h
    exact ⟨a, b, c, d, e, k1, k2, h1.keep hb, h2.keep hb, h3.keep hb, Elems.keep h4 hb (fun C x _ hr => ih hr)⟩
theorem RdKids.keep {n : Nat} {w w' : World} {v : Value} {l : List (Tr n)} (h : RdKids n w v l) (hb : Below w.heap.size w w') : RdKids n w' v l :=
  Elems.keep h hb (fun C x _ hr => RdNode.keep hr hb)

/-- How great: bytes, attributes and nodes. -/
def szA (l : List (List Int × List Int)) : Nat := l.length + (l.map fun x => x.1.length + x.2.length).sum
def szT : (n : Nat) → Tr n → Nat
  | 0 => fun _ => 0
  | n + 1 => fun t => t.name.length + t.text.length + szA t.attrs + (t.kids.length + (t.kids.map (szT n)).sum)
def szK (n : Nat) (l : List (Tr n)) : Nat := l.length + (l.map (szT n)).sum

/-- What is left of 'left' when m is taken, or -1. -/
def rest (m : Nat) (left : Int) : Int := if (m : Int) ≤ left then left - (m : Int) else -1
theorem rest_in {m : Nat} {left : Int} (h : (m : Int) ≤ left) : rest m left = left - (m : Int) := by rw [rest, if_pos h]
theorem rest_out {m : Nat} {left : Int} (h : ¬ (m : Int) ≤ left) : rest m left = -1 := by rw [rest, if_neg h]
theorem rest_rest {a b : Nat} {left : Int} (h : (a : Int) ≤ left) : rest (a + b) left = rest b (left - (a : Int)) := by
  by_cases h1 : ((a + b : Nat) : Int) ≤ left
  · rw [rest_in h1, rest_in (by omega)]; omega
  · rw [rest_out h1, rest_out (by omega)]
theorem rest_bad {a b : Nat} {left : Int} (h : ¬ (a : Int) ≤ left) : rest (a + b) left = -1 := rest_out (by omega)

end Go.Proofs.Ytcabolcfoijglaa
