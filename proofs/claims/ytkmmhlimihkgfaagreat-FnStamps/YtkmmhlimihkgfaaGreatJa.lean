/- Own texts joined: Base, Tree, LocB, OwnT, HalfT, BaseZ, NameS, NameB, KeyS, IdS, OpS, SzB, SzO, EqI, EqO, Eq, EqZ, EqJ, EqP. -/
import Derived.WalkKit
import Derived.OpenShut
import Derived.WalkSpells
import Derived.WalkSmall
import Derived.Laws.AppendOwnNone
import Derived.Laws.CopyOwn
import Derived.Test.YtkmmhlimihkgfaaGreatChecked
import Derived.Deep.QuietTactic
import Derived.BigQuiet

/- Rows of bytes in memory, as the contracts of this seat speak of them: what may be read, what is owned, what other blocks keep. No condition. -/
namespace Go.Proofs.YtkmmhlimihkgfaaGreat
open Go.RowKit
set_option linter.unusedVariables false

theorem hide {p : Prop} (h : p) : Hid p := h
theorem unhide {p : Prop} (h : Hid p) : p := h

/-- Each number is a byte. -/
def okB (l : List Int) : Prop := ∀ x ∈ l, 0 ≤ x ∧ x ≤ 255

/-- The cells of a row of bytes. -/
def vals (l : List Int) : List Value := l.map (Value.int .u8)

/-- The value v is a slice whose elements can be read in w: the bytes l. -/
def Byt (w : World) (v : Value) (l : List Int) : Prop :=
  okB l ∧ l.length ≤ maxLen ∧
  ((v = .slice none 0 0 ∧ l = []) ∨
   (∃ x cap, v = .slice (some x) 0 cap ∧ cap ≤ maxLen ∧ l = []) ∨
   (∃ b off cap, v = .slice (some ⟨b, off, none⟩) l.length cap ∧ l.length ≤ cap ∧ cap ≤ maxLen ∧ l ≠ [] ∧ b < w.heap.size ∧
      ∀ i, i < l.length → w.cell? ⟨b, off + i, none⟩ = some (.int .u8 (l.getD i 0))))

/-- The value v is a slice at the head of a block of the call's own, from 'base' on: the bytes l. -/
def Own (w : World) (base : Nat) (v : Value) (l : List Int) : Prop := okB l ∧ w.ownsRow base 5 1 v l.length (vals l)

theorem getD_at {l : List Int} {k : Nat} (h : k < l.length) : l.getD k 0 = l[k] := by simp [h]
theorem okB_nil : okB [] := fun _ h => by cases h
theorem okB.app {a b : List Int} (h : okB a) (k : okB b) : okB (a ++ b) := fun x hx => by
  rcases List.mem_append.1 hx with h' | h'
  · exact h x h'
  · exact k x h'
theorem okB.take {a : List Int} (h : okB a) (n : Nat) : okB (a.take n) := fun x hx => h x (List.mem_of_mem_take hx)
theorem okB.drop {a : List Int} (h : okB a) (n : Nat) : okB (a.drop n) := fun x hx => h x (List.mem_of_mem_drop hx)
theorem okB.at {a : List Int} (h : okB a) (i : Nat) : 0 ≤ a[i]?.getD 0 ∧ a[i]?.getD 0 ≤ 255 := by
  by_cases hi : i < a.length
  · rw [List.getElem?_eq_getElem hi]; exact h _ (List.getElem_mem hi)
  · rw [List.getElem?_eq_none (by omega)]; decide
theorem okB.one {x : Int} (h0 : 0 ≤ x) (h1 : x ≤ 255) : okB [x] := fun y hy => by simp at hy; subst hy; exact ⟨h0, h1⟩

theorem vals_len (l : List Int) : (vals l).length = l.length := by simp [vals]
theorem vals_app (a b : List Int) : vals (a ++ b) = vals a ++ vals b := by simp [vals]
theorem vals_one (l : List Int) : ∀ u ∈ vals l, u.oneCell' = true := ints_oneCell _ _
theorem vals_at {l : List Int} {i : Nat} (h : i < l.length) : (vals l)[i]? = some (.int .u8 (l.getD i 0)) := by simp [vals, h]

/-- What is owned lies in a block between 'base' and the heap's end. -/
theorem Own.lt {w : World} {base : Nat} {v : Value} {l : List Int} (h : Own w base v l) : ∀ k, v.ownBlock = some k → base ≤ k ∧ k < w.heap.size := h.2.lt

theorem Own.mono {w : World} {base base' : Nat} {v : Value} {l : List Int} (h : Own w base v l) (hb : base' ≤ base) : Own w base' v l := by
  refine ⟨h.1, h.2.1, ?_⟩
  rcases h.2.2 with h' | ⟨g, cap, cur, h1, h2, h3⟩
  · exact .inl h'
  · exact .inr ⟨g, cap, cur, h1, by omega, h3⟩

/-- What is owned can be read. -/
theorem Own.byt {w : World} {base : Nat} {v : Value} {l : List Int} (h : Own w base v l) : Byt w v l := by
  obtain ⟨hok, hlen, hrow⟩ := h
  have hl := hlen
  rcases hrow with ⟨rfl, h0⟩ | ⟨g, cap, cur, rfl, hb, hg, hnc, hcm, hcs, htake⟩
  · exact ⟨hok, by omega, .inl ⟨rfl, List.eq_nil_of_length_eq_zero h0⟩⟩
  · refine ⟨hok, by omega, .inr ?_⟩
    by_cases h0 : l = []
    · subst h0; exact .inl ⟨_, cap, rfl, hcm, rfl⟩
    · refine .inr ⟨g, 0, cap, rfl, hnc, hcm, h0, ?_, fun i hi => ?_⟩
      · by_cases hlt : g < w.heap.size
        · exact hlt
        · rw [Array.getElem?_eq_none (by omega)] at hg; cases hg
      · have := World.ownsRow.cellAt (w := w) (base := base) (e := 5) (size := 1) (g := g) (n := l.length) (cap := cap) (xs := vals l) ⟨hlen, .inr ⟨g, cap, cur, rfl, hb, hg, hnc, hcm, hcs, htake⟩⟩ i (by omega)
        rw [vals_at hi] at this
        simpa using this

/-- The length that a readable value bears. -/
theorem Byt.shape {w : World} {v : Value} {l : List Int} (h : Byt w v l) : ∃ a cap, v = .slice a l.length cap ∧ l.length ≤ cap ∧ cap ≤ maxLen := by
  obtain ⟨_, hm, ⟨rfl, rfl⟩ | ⟨x, cap, rfl, hc, rfl⟩ | ⟨b, off, cap, rfl, h1, h2, _⟩⟩ := h
  · exact ⟨none, 0, rfl, Nat.le_refl _, hm⟩
  · exact ⟨some x, cap, rfl, Nat.zero_le _, hc⟩
  · exact ⟨_, cap, rfl, h1, h2⟩

/-- A world in which all blocks that were there stand as they stood. -/
theorem Byt.keep {w w' : World} {v : Value} {l : List Int} (h : Byt w v l) (hb : Below w.heap.size w w') : Byt w' v l := by
  obtain ⟨hok, hm, h1 | h2 | ⟨b, off, cap, rfl, h1, h2, h3, h4, h5⟩⟩ := h
  · exact ⟨hok, hm, .inl h1⟩
  · exact ⟨hok, hm, .inr (.inl h2)⟩
  · exact ⟨hok, hm, .inr (.inr ⟨b, off, cap, rfl, h1, h2, h3, Nat.lt_of_lt_of_le h4 hb.size, fun i hi => by rw [hb.cell (p := ⟨b, off + i, none⟩) h4]; exact h5 i hi⟩)⟩

theorem Own.keep {w w' : World} {base : Nat} {v : Value} {l : List Int} (h : Own w base v l) (hb : Below w.heap.size w w') : Own w' base v l :=
  ⟨h.1, h.2.kept (row := none) ⟨hb.os, hb.tape, hb.output, hb.size, fun k hk _ => hb.block k hk⟩ (by cases hv : v.ownBlock <;> simp)⟩

/-- A write into another block leaves what is owned. -/
theorem Own.keepBy {w w' : World} {base : Nat} {v : Value} {l : List Int} {row : Option Nat} (h : Own w base v l) (hg : w.grownBy w' row) (hne : v.ownBlock = none ∨ v.ownBlock ≠ row) : Own w' base v l :=
  ⟨h.1, h.2.kept hg hne⟩

theorem Below.ofGrown {w w' : World} (h : w.grownBy w' none) : Below w.heap.size w w' := ⟨h.os, h.tape, h.output, h.size, fun k hk => h.block k hk (by simp)⟩
theorem Below.toGrown {w w' : World} (h : Below w.heap.size w w') (row : Option Nat) : w.grownBy w' row := ⟨h.os, h.tape, h.output, h.size, fun k hk _ => h.block k hk⟩

/-- Two steps of which the first keeps all that was there, the second what was there before both. -/
theorem bstep {a b c : World} (h : Below a.heap.size a b) (k : Below b.heap.size b c) : Below a.heap.size a c := h.trans (k.mono h.size)
/-- A write into a block that was not there at the start. -/
theorem bstepBy {a b c : World} {row : Option Nat} (h : Below a.heap.size a b) (k : b.grownBy c row) (hr : ∀ g, row = some g → a.heap.size ≤ g) : Below a.heap.size a c := h.grown k h.size hr
theorem grown_trans {a b c : World} {row : Option Nat} (h : a.grownBy b row) (k : b.grownBy c row) : a.grownBy c row :=
  ⟨k.os.trans h.os, k.tape.trans h.tape, k.output.trans h.output, Nat.le_trans h.size k.size, fun i hi hne => (k.block i (Nat.lt_of_lt_of_le hi h.size) hne).trans (h.block i hi hne)⟩

theorem add_plain (b off i : Nat) : (⟨b, off, none⟩ : Addr).add i = ⟨b, off + i, none⟩ := by
  unfold Addr.add
  by_cases h : i = 0 <;> simp [h]
theorem lt_of_cell {w : World} {a : Addr} {v : Value} (h : w.cell? a = some v) : a.block < w.heap.size := by
  by_cases hlt : a.block < w.heap.size
  · exact hlt
  · unfold World.cell? at h
    rw [Array.getElem?_eq_none (by omega)] at h
    cases h

/-- An argument that was read as a row of numbers is a readable row of bytes. -/
theorem byt_of_row {w : World} {a : Option Addr} {len cap : Nat} {zs : List Int}
    (h : (a = none ∧ len = 0 ∧ cap = 0 ∧ zs = []) ∨ ∃ x, a = some x ∧ len ≤ cap ∧ cap ≤ maxLen ∧ zs.length = cap ∧ (∀ i, i < zs.length → w.cell? (x.add i) = some (.int .u8 (zs.getD i 0))) ∧ ∀ n ∈ zs, (Lit.int .u8 n).wf = true) :
    Byt w (.slice a len cap) (zs.take len) := by
  rcases h with ⟨rfl, rfl, rfl, rfl⟩ | ⟨x, rfl, hl, hm, hz, hcell, hwz⟩
  · exact ⟨okB_nil, by simp [maxLen], .inl ⟨rfl, rfl⟩⟩
  · have hok : okB (zs.take len) := fun n hn => bounds_u8 (hwz n (List.mem_of_mem_take hn))
    have hlen : (zs.take len).length = len := by simp; omega
    by_cases h0 : len = 0
    · subst h0
      exact ⟨hok, by simp [maxLen], .inr (.inl ⟨x, cap, rfl, hm, by simp⟩)⟩
    · obtain ⟨b, off, spot⟩ := x
      have hc := hcell 0 (by omega)
      have hspot : spot = none := by simpa [Addr.add] using World.cell?_spot hc
      subst hspot
      refine ⟨hok, by omega, .inr (.inr ⟨b, off, cap, by rw [hlen], by omega, hm, ?_, ?_, fun i hi => ?_⟩)⟩
      · intro e; rw [e] at hlen; simp at hlen; omega
      · have := lt_of_cell hc; simpa [Addr.add] using this
      · have hi' := hcell i (by omega)
        rw [List.getD_eq_getElem?_getD, List.getElem?_take, if_pos (by omega), ← List.getD_eq_getElem?_getD]
        rw [add_plain] at hi'
        exact hi'

end Go.Proofs.YtkmmhlimihkgfaaGreat

/- Trees as data by their depth, and what it is for one to be readable in memory. -/
namespace Go.Proofs.YtkmmhlimihkgfaaGreat
open Go.RowKit
set_option linter.unusedVariables false

/-- A node whose kids are of whatever kind. -/
structure Nd (α : Type) where
  kind : Int
  name : List Int
  text : List Int
  attrs : List (List Int × List Int)
  kids : List α

/-- Trees of depth below n. -/
def Tr : Nat → Type
  | 0 => Empty
  | n + 1 => Nd (Tr n)

/-- Elements of 'size' cells each lie behind the value v, one a member of l; element i has the cells C, of which R holds. -/
def Elems {α : Type} (w : World) (size : Nat) (v : Value) (l : List α) (R : List Value → α → Prop) : Prop :=
  l.length ≤ maxLen ∧
  ((v = .slice none 0 0 ∧ l = []) ∨
   (∃ x cap, v = .slice (some x) 0 cap ∧ cap ≤ maxLen ∧ l = []) ∨
   (∃ b off cap, v = .slice (some ⟨b, off, none⟩) l.length cap ∧ l.length ≤ cap ∧ cap ≤ maxLen ∧ l ≠ [] ∧ b < w.heap.size ∧
      ∀ i (hi : i < l.length), ∃ C : List Value, C.length = size ∧ (∀ j, j < size → w.cell? ⟨b, off + i * size + j, none⟩ = C[j]?) ∧ R C l[i]))

theorem Elems.shape {α : Type} {w : World} {size : Nat} {v : Value} {l : List α} {R : List Value → α → Prop} (h : Elems w size v l R) : ∃ a cap, v = .slice a l.length cap ∧ l.length ≤ cap ∧ cap ≤ maxLen := by
  obtain ⟨hm, ⟨rfl, rfl⟩ | ⟨x, cap, rfl, hc, rfl⟩ | ⟨b, off, cap, rfl, h1, h2, _⟩⟩ := h
  · exact ⟨none, 0, rfl, Nat.le_refl _, hm⟩
  · exact ⟨some x, cap, rfl, Nat.zero_le _, hc⟩
  · exact ⟨_, cap, rfl, h1, h2⟩

theorem Elems.keep {α : Type} {w w' : World} {size : Nat} {v : Value} {l : List α} {R R' : List Value → α → Prop} (h : Elems w size v l R) (hb : Below w.heap.size w w') (hR : ∀ C x, x ∈ l → R C x → R' C x) : Elems w' size v l R' := by
  obtain ⟨hm, h1 | h2 | ⟨b, off, cap, rfl, h1, h2, h3, h4, h5⟩⟩ := h
  · exact ⟨hm, .inl h1⟩
  · exact ⟨hm, .inr (.inl h2)⟩
  · refine ⟨hm, .inr (.inr ⟨b, off, cap, rfl, h1, h2, h3, Nat.lt_of_lt_of_le h4 hb.size, fun i hi => ?_⟩)⟩
    obtain ⟨C, hC, hc, hr⟩ := h5 i hi
    exact ⟨C, hC, fun j hj => (hb.cell (p := ⟨b, off + i * size + j, none⟩) h4).trans (hc j hj), hR C _ (List.getElem_mem hi) hr⟩

/-- An element of five cells, cell by cell. -/
theorem five_of {α : Type} {w : World} {b off k : Nat} {x : α} {R : List Value → α → Prop} (h : ∃ C : List Value, C.length = 5 ∧ (∀ j, j < 5 → w.cell? ⟨b, off + k * 5 + j, none⟩ = C[j]?) ∧ R C x) :
    ∃ c0 c1 c2 c3 c4, w.cell? ⟨b, off + k * 5, none⟩ = some c0 ∧ w.cell? ⟨b, off + k * 5 + 1, none⟩ = some c1 ∧ w.cell? ⟨b, off + k * 5 + 2, none⟩ = some c2 ∧ w.cell? ⟨b, off + k * 5 + 3, none⟩ = some c3 ∧ w.cell? ⟨b, off + k * 5 + 4, none⟩ = some c4 ∧ R [c0, c1, c2, c3, c4] x := by
  obtain ⟨C, hC, hcell, hr⟩ := h
  match C, hC with
  | [c0, c1, c2, c3, c4], _ => exact ⟨c0, c1, c2, c3, c4, hcell 0 (by omega), hcell 1 (by omega), hcell 2 (by omega), hcell 3 (by omega), hcell 4 (by omega), hr⟩
/-- An element of two cells, cell by cell. -/
theorem two_of {α : Type} {w : World} {b off k : Nat} {x : α} {R : List Value → α → Prop} (h : ∃ C : List Value, C.length = 2 ∧ (∀ j, j < 2 → w.cell? ⟨b, off + k * 2 + j, none⟩ = C[j]?) ∧ R C x) :
    ∃ c0 c1, w.cell? ⟨b, off + k * 2, none⟩ = some c0 ∧ w.cell? ⟨b, off + k * 2 + 1, none⟩ = some c1 ∧ R [c0, c1] x := by
  obtain ⟨C, hC, hcell, hr⟩ := h
  match C, hC with
  | [c0, c1], _ => exact ⟨c0, c1, hcell 0 (by omega), hcell 1 (by omega), hr⟩

/-- The two cells of an attribute. -/
def RdAttr (w : World) (C : List Value) (x : List Int × List Int) : Prop := ∃ a b, C = [a, b] ∧ Byt w a x.1 ∧ Byt w b x.2
def RdAttrs (w : World) (v : Value) (l : List (List Int × List Int)) : Prop := Elems w 2 v l (RdAttr w)

/-- The five cells of a node. -/
def RdNode : (n : Nat) → World → List Value → Tr n → Prop
  | 0 => fun _ _ _ => False
  | n + 1 => fun w C t => ∃ a b c d, C = [.int .i64 t.kind, a, b, c, d] ∧ -9223372036854775808 ≤ t.kind ∧ t.kind ≤ 9223372036854775807 ∧ Byt w a t.name ∧ Byt w b t.text ∧ RdAttrs w c t.attrs ∧ Elems w 5 d t.kids (RdNode n w)
def RdKids (n : Nat) (w : World) (v : Value) (l : List (Tr n)) : Prop := Elems w 5 v l (RdNode n w)

theorem RdAttrs.keep {w w' : World} {v : Value} {l : List (List Int × List Int)} (h : RdAttrs w v l) (hb : Below w.heap.size w w') : RdAttrs w' v l :=
  Elems.keep h hb (fun C x _ ⟨a, b, e, h1, h2⟩ => ⟨a, b, e, h1.keep hb, h2.keep hb⟩)
theorem RdNode.keep {n : Nat} {w w' : World} {C : List Value} {t : Tr n} (h : RdNode n w C t) (hb : Below w.heap.size w w') : RdNode n w' C t := by
  induction n generalizing C with
  | zero => exact h
  | succ n ih =>
    obtain ⟨a, b, c, d, e, k1, k2, h1, h2, h3, h4⟩ := h
    exact ⟨a, b, c, d, e, k1, k2, h1.keep hb, h2.keep hb, h3.keep hb, Elems.keep h4 hb (fun C x _ hr => ih hr)⟩
theorem RdKids.keep {n : Nat} {w w' : World} {v : Value} {l : List (Tr n)} (h : RdKids n w v l) (hb : Below w.heap.size w w') : RdKids n w' v l :=
  Elems.keep h hb (fun C x _ hr => RdNode.keep hr hb)

/-- How great: bytes, attributes and nodes. -/
def szA (l : List (List Int × List Int)) : Nat := l.length + (l.map fun x => x.1.length + x.2.length).sum
def szT : (n : Nat) → Tr n → Nat
  | 0 => fun _ => 0
  | n + 1 => fun t => t.name.length + t.text.length + szA t.attrs + (t.kids.length + (t.kids.map (szT n)).sum)
def szK (n : Nat) (l : List (Tr n)) : Nat := l.length + (l.map (szT n)).sum

/-- What is left of 'left' when m is taken, or -1. -/
def rest (m : Nat) (left : Int) : Int := if (m : Int) ≤ left then left - (m : Int) else -1
theorem rest_in {m : Nat} {left : Int} (h : (m : Int) ≤ left) : rest m left = left - (m : Int) := by rw [rest, if_pos h]
theorem rest_out {m : Nat} {left : Int} (h : ¬ (m : Int) ≤ left) : rest m left = -1 := by rw [rest, if_neg h]
theorem rest_rest {a b : Nat} {left : Int} (h : (a : Int) ≤ left) : rest (a + b) left = rest b (left - (a : Int)) := by
  by_cases h1 : ((a + b : Nat) : Int) ≤ left
  · rw [rest_in h1, rest_in (by omega)]; omega
  · rw [rest_out h1, rest_out (by omega)]
theorem rest_bad {a b : Nat} {left : Int} (h : ¬ (a : Int) ≤ left) : rest (a + b) left = -1 := rest_out (by omega)

end Go.Proofs.YtkmmhlimihkgfaaGreat

/- Blocks of a call's own: what is known of them whole, and what becomes of them while others are written. -/
namespace Go.Proofs.YtkmmhlimihkgfaaGreat
open Go.RowKit
set_option linter.unusedVariables false

/-- The block of an owned slice. -/
def FB (v : Value) : List Nat := v.ownBlock.toList

/-- Of the blocks that were there none but those in S has turned. -/
structure Frm (w w' : World) (S : List Nat) : Prop where
  os : w'.os = w.os
  tape : w'.tape = w.tape
  output : w'.output = w.output
  size : w.heap.size ≤ w'.heap.size
  block : ∀ k, k < w.heap.size → k ∉ S → w'.heap[k]? = w.heap[k]?

theorem Frm.refl (w : World) (S : List Nat) : Frm w w S := ⟨rfl, rfl, rfl, Nat.le_refl _, fun _ _ _ => rfl⟩
theorem Frm.trans {a b c : World} {S : List Nat} (h : Frm a b S) (k : Frm b c S) : Frm a c S :=
  ⟨k.os.trans h.os, k.tape.trans h.tape, k.output.trans h.output, Nat.le_trans h.size k.size, fun i hi hn => (k.block i (Nat.lt_of_lt_of_le hi h.size) hn).trans (h.block i hi hn)⟩
theorem Frm.mono {a b : World} {S S' : List Nat} (h : Frm a b S) (hs : ∀ g ∈ S, g ∈ S') : Frm a b S' := ⟨h.os, h.tape, h.output, h.size, fun i hi hn => h.block i hi (fun e => hn (hs i e))⟩
theorem Frm.ofBelow {a b : World} (h : Below a.heap.size a b) (S : List Nat) : Frm a b S := ⟨h.os, h.tape, h.output, h.size, fun i hi _ => h.block i hi⟩
theorem Frm.ofGrown {a b : World} {row : Option Nat} (h : a.grownBy b row) : Frm a b row.toList := ⟨h.os, h.tape, h.output, h.size, fun i hi hn => h.block i hi (fun e => hn (by rw [← e]; simp))⟩
theorem Frm.below {a b : World} {S : List Nat} {B : Nat} (h : Frm a b S) (hB : B ≤ a.heap.size) (hs : ∀ g ∈ S, B ≤ g) : Below B a b := ⟨h.os, h.tape, h.output, h.size, fun i hi => h.block i (by omega) (fun e => by have := hs i e; omega)⟩
/-- A step that writes blocks which were not there at the start. -/
theorem Frm.new {a b c : World} {S S' : List Nat} (h : Frm a b S) (k : Frm b c S') (hs : ∀ g ∈ S', a.heap.size ≤ g) : Frm a c S :=
  ⟨k.os.trans h.os, k.tape.trans h.tape, k.output.trans h.output, Nat.le_trans h.size k.size, fun i hi hn => (k.block i (Nat.lt_of_lt_of_le hi h.size) (fun e => by have := hs i e; omega)).trans (h.block i hi hn)⟩

theorem ownsRow_frm {w w' : World} {base : Nat} {e : TypeId} {size : Nat} {v : Value} {n : Nat} {xs : List Value} {S : List Nat} (h : w.ownsRow base e size v n xs) (f : Frm w w' S) (hd : ∀ g ∈ FB v, g ∉ S) : w'.ownsRow base e size v n xs := by
  refine ⟨h.1, ?_⟩
  rcases h.2 with h' | ⟨g, cap, cur, rfl, hb, hg, hr⟩
  · exact .inl h'
  · have hlt : g < w.heap.size := by
      by_cases hlt : g < w.heap.size
      · exact hlt
      · rw [Array.getElem?_eq_none (by omega)] at hg; cases hg
    exact .inr ⟨g, cap, cur, rfl, hb, (f.block g hlt (hd g (by simp [FB, Value.ownBlock]))).trans hg, hr⟩
theorem Own.frm {w w' : World} {base : Nat} {v : Value} {l : List Int} {S : List Nat} (h : Own w base v l) (f : Frm w w' S) (hd : ∀ g ∈ FB v, g ∉ S) : Own w' base v l := ⟨h.1, ownsRow_frm h.2 f hd⟩
theorem ownsRow_base {w : World} {base : Nat} {e : TypeId} {size : Nat} {v : Value} {n : Nat} {xs : List Value} (h : w.ownsRow base e size v n xs) (b : Nat) (hb : b ≤ base) : w.ownsRow b e size v n xs := by
  refine ⟨h.1, ?_⟩
  rcases h.2 with h' | ⟨g, cap, cur, e1, h1, h2⟩
  · exact .inl h'
  · exact .inr ⟨g, cap, cur, e1, by omega, h2⟩

/-- Blocks from lo on, below hi. -/
def Rng (F : List Nat) (lo hi : Nat) : Prop := ∀ g ∈ F, lo ≤ g ∧ g < hi
theorem Rng.mono {F : List Nat} {lo hi lo' hi' : Nat} (h : Rng F lo hi) (h1 : lo' ≤ lo) (h2 : hi ≤ hi') : Rng F lo' hi' := fun g hg => by have := h g hg; omega
theorem Rng.app {F G : List Nat} {lo hi : Nat} (h : Rng F lo hi) (k : Rng G lo hi) : Rng (F ++ G) lo hi := fun g hg => by
  rcases List.mem_append.1 hg with h' | h'
  · exact h g h'
  · exact k g h'
theorem Rng.nil (lo hi : Nat) : Rng [] lo hi := fun g hg => by cases hg
theorem nodup_app {F G : List Nat} {lo mid hi : Nat} (hF : F.Nodup) (hG : G.Nodup) (h : Rng F lo mid) (k : Rng G mid hi) : (F ++ G).Nodup := by
  rw [List.nodup_append]
  exact ⟨hF, hG, fun a ha b hb e => by have := h a ha; have := k b hb; omega⟩
theorem FB_nodup (v : Value) : (FB v).Nodup := by unfold FB; cases v.ownBlock <;> simp
theorem Own.rng {w : World} {base : Nat} {v : Value} {l : List Int} (h : Own w base v l) : Rng (FB v) base w.heap.size := fun g hg => h.lt g (by simpa [FB] using hg)

/-- A block of the call's own that is known whole. -/
def Loc (w : World) (g : Nat) (cs : Array Value) (T : TypeId) : Prop := w.heap[g]? = some (.cells cs T (0, 0))
theorem Loc.lt {w : World} {g : Nat} {cs : Array Value} {T : TypeId} (h : Loc w g cs T) : g < w.heap.size := by
  by_cases hlt : g < w.heap.size
  · exact hlt
  · unfold Loc at h; rw [Array.getElem?_eq_none (by omega)] at h; cases h
theorem Loc.cell {w : World} {g : Nat} {cs : Array Value} {T : TypeId} (h : Loc w g cs T) (j : Nat) : w.cell? ⟨g, j, none⟩ = cs[j]? := cell_of_row w g j cs T (0, 0) h
theorem Loc.frozen {w : World} {g : Nat} {cs : Array Value} {T : TypeId} (h : Loc w g cs T) (j : Nat) : w.frozen? ⟨g, j, none⟩ = false := frozen_of_row w g j cs T h
theorem Loc.keep {w w' : World} {g : Nat} {cs : Array Value} {T : TypeId} {B : Nat} (h : Loc w g cs T) (hb : Below B w w') (hB : g < B) : Loc w' g cs T := (hb.block g hB).trans h
theorem Loc.all {w w' : World} {g : Nat} {cs : Array Value} {T : TypeId} (h : Loc w g cs T) (hb : Below w.heap.size w w') : Loc w' g cs T := h.keep hb h.lt
theorem Loc.frm {w w' : World} {g : Nat} {cs : Array Value} {T : TypeId} {S : List Nat} (h : Loc w g cs T) (f : Frm w w' S) (hn : g ∉ S) : Loc w' g cs T := (f.block g h.lt hn).trans h
theorem Loc.set {w : World} {g : Nat} {cs : Array Value} {T : TypeId} (h : Loc w g cs T) (j : Nat) (v : Value) : Loc (w.setCell ⟨g, j, none⟩ v) g (cs.setIfInBounds j v) T := heap_setCell_same w g j cs T v h
theorem Loc.other {w : World} {g : Nat} {cs : Array Value} {T : TypeId} (h : Loc w g cs T) (q j : Nat) (v : Value) (hn : g ≠ q) : Loc (w.setCell ⟨q, j, none⟩ v) g cs T := (heap_setCell_other w ⟨q, j, none⟩ g v hn).trans h
theorem Loc.alloc {w : World} {g : Nat} {cs : Array Value} {T : TypeId} (h : Loc w g cs T) (o : Obj) : Loc (w.alloc o) g cs T := (heap_alloc_old w o h.lt).trans h
theorem Loc.made (w : World) (cs : Array Value) (T : TypeId) : Loc (w.alloc (.cells cs T)) w.heap.size cs T := heap_alloc_new w _
theorem set_frm (w : World) (g j : Nat) (v : Value) : Frm w (w.setCell ⟨g, j, none⟩ v) [g] :=
  ⟨rfl, rfl, rfl, by simp, fun k _ hk => heap_setCell_other w ⟨g, j, none⟩ k v (fun e => hk (by simp [e]))⟩

end Go.Proofs.YtkmmhlimihkgfaaGreat

/- Trees that a call has made: which blocks are theirs, and what becomes of them while others are written. -/
namespace Go.Proofs.YtkmmhlimihkgfaaGreat
open Go.RowKit
set_option linter.unusedVariables false

/-- Elements of 'size' cells each in a row of the call's own; each element owns what R says. -/
def OwElems {α : Type} (w : World) (e : TypeId) (size : Nat) (v : Value) (l : List α) (R : List Value → α → List Nat → Prop) (F : List Nat) : Prop :=
  ∃ (Cs : List (List Value)) (Fs : List (List Nat)), Cs.length = l.length ∧ Fs.length = l.length ∧ (∀ i (hi : i < l.length), (Cs.getD i []).length = size ∧ R (Cs.getD i []) l[i] (Fs.getD i [])) ∧
    w.ownsRow 0 e size v l.length Cs.flatten ∧ F = FB v ++ Fs.flatten

def OwAttr (w : World) (C : List Value) (x : List Int × List Int) (F : List Nat) : Prop := ∃ a b, C = [a, b] ∧ Own w 0 a x.1 ∧ Own w 0 b x.2 ∧ F = FB a ++ FB b
def OwAttrs (w : World) (v : Value) (l : List (List Int × List Int)) (F : List Nat) : Prop := OwElems w 157 2 v l (OwAttr w) F
def OwNode : (n : Nat) → World → List Value → Tr n → List Nat → Prop
  | 0 => fun _ _ _ _ => False
  | n + 1 => fun w C t F => ∃ a b c d Fc Fd, C = [.int .i64 t.kind, a, b, c, d] ∧ -9223372036854775808 ≤ t.kind ∧ t.kind ≤ 9223372036854775807 ∧ Own w 0 a t.name ∧ Own w 0 b t.text ∧
      OwAttrs w c t.attrs Fc ∧ OwElems w 61 5 d t.kids (OwNode n w) Fd ∧ F = FB a ++ FB b ++ Fc ++ Fd
def OwKids (n : Nat) (w : World) (v : Value) (l : List (Tr n)) (F : List Nat) : Prop := OwElems w 61 5 v l (OwNode n w) F

theorem mem_flat {Fs : List (List Nat)} {i g : Nat} (h : g ∈ Fs.getD i []) : g ∈ Fs.flatten := by
  by_cases hi : i < Fs.length
  · rw [List.getD_eq_getElem?_getD, List.getElem?_eq_getElem hi] at h
    exact List.mem_flatten.2 ⟨_, List.getElem_mem hi, h⟩
  · rw [List.getD_eq_getElem?_getD, List.getElem?_eq_none (by omega)] at h; simp at h

theorem OwElems.frm {α : Type} {w w' : World} {e : TypeId} {size : Nat} {v : Value} {l : List α} {R R' : List Value → α → List Nat → Prop} {F S : List Nat} (h : OwElems w e size v l R F) (f : Frm w w' S) (hd : ∀ g ∈ F, g ∉ S)
    (hR : ∀ C x G, R C x G → (∀ g ∈ G, g ∉ S) → R' C x G) : OwElems w' e size v l R' F := by
  obtain ⟨Cs, Fs, h1, h2, h3, h4, rfl⟩ := h
  refine ⟨Cs, Fs, h1, h2, fun i hi => ⟨(h3 i hi).1, hR _ _ _ (h3 i hi).2 (fun g hg => hd g (List.mem_append_right _ (mem_flat hg)))⟩, ownsRow_frm h4 f (fun g hg => hd g (List.mem_append_left _ hg)), rfl⟩
theorem OwAttrs.frm {w w' : World} {v : Value} {l : List (List Int × List Int)} {F S : List Nat} (h : OwAttrs w v l F) (f : Frm w w' S) (hd : ∀ g ∈ F, g ∉ S) : OwAttrs w' v l F :=
  OwElems.frm h f hd (fun C x G ⟨a, b, e, h1, h2, h3⟩ hG => by
    subst h3
    exact ⟨a, b, e, h1.frm f (fun g hg => hG g (by simp [hg])), h2.frm f (fun g hg => hG g (by simp [hg])), rfl⟩)
theorem OwNode.frm {n : Nat} {w w' : World} {C : List Value} {t : Tr n} {F S : List Nat} (h : OwNode n w C t F) (f : Frm w w' S) (hd : ∀ g ∈ F, g ∉ S) : OwNode n w' C t F := by
  induction n generalizing C F with
  | zero => exact h
  | succ n ih =>
    obtain ⟨a, b, c, d, Fc, Fd, e, k1, k2, h1, h2, h3, h4, rfl⟩ := h
    exact ⟨a, b, c, d, Fc, Fd, e, k1, k2, h1.frm f (fun g hg => hd g (by simp [hg])), h2.frm f (fun g hg => hd g (by simp [hg])), h3.frm f (fun g hg => hd g (by simp [hg])),
      OwElems.frm h4 f (fun g hg => hd g (by simp [hg])) (fun C x G hr hG => ih hr hG), rfl⟩
theorem OwNode.keep {n : Nat} {w w' : World} {C : List Value} {t : Tr n} {F : List Nat} (h : OwNode n w C t F) (hb : Below w.heap.size w w') : OwNode n w' C t F := h.frm (Frm.ofBelow hb []) (fun _ _ => by simp)
theorem OwKids.frm {n : Nat} {w w' : World} {v : Value} {l : List (Tr n)} {F S : List Nat} (h : OwKids n w v l F) (f : Frm w w' S) (hd : ∀ g ∈ F, g ∉ S) : OwKids n w' v l F := OwElems.frm h f hd (fun C x G hr hG => OwNode.frm hr f hG)

/-- A cell of the flat row of elements of one size. -/
theorem flat_at (Cs : List (List Value)) (size : Nat) (h : ∀ i, i < Cs.length → (Cs.getD i []).length = size) (i j : Nat) (hi : i < Cs.length) (hj : j < size) : Cs.flatten[i * size + j]? = (Cs.getD i [])[j]? := by
  induction Cs generalizing i with
  | nil => simp at hi
  | cons C Cs ih =>
    have h0 : C.length = size := by simpa using h 0 (by simp)
    cases i with
    | zero => simp [List.getElem?_append, h0, hj]
    | succ i =>
      have e : (i + 1) * size + j = C.length + (i * size + j) := by rw [h0, Nat.succ_mul]; omega
      rw [List.flatten_cons, e, List.getElem?_append_right (by omega), Nat.add_sub_cancel_left]
      have := ih (fun k hk => by simpa using h (k + 1) (by simpa using hk)) i (by simpa using hi)
      simpa using this

/-- What is owned can be read. -/
theorem OwElems.rd {α : Type} {w : World} {e : TypeId} {size : Nat} {v : Value} {l : List α} {R : List Value → α → List Nat → Prop} {R' : List Value → α → Prop} {F : List Nat} (h : OwElems w e size v l R F) (hm : l.length ≤ maxLen)
    (hR : ∀ C x G, R C x G → R' C x) : Elems w size v l R' := by
  obtain ⟨Cs, Fs, h1, h2, h3, h4, rfl⟩ := h
  have h4' := h4
  refine ⟨hm, ?_⟩
  rcases h4.2 with ⟨rfl, h0⟩ | ⟨g, cap, cur, rfl, hb, hg, hnc, hcm, hcs, htake⟩
  · exact .inl ⟨rfl, List.eq_nil_of_length_eq_zero h0⟩
  · by_cases h0 : l = []
    · subst h0
      exact .inr (.inl ⟨_, cap, rfl, hcm, rfl⟩)
    · refine .inr (.inr ⟨g, 0, cap, rfl, hnc, hcm, h0, (h4'.lt g rfl).2, fun i hi => ⟨Cs.getD i [], (h3 i hi).1, fun j hj => ?_, hR _ _ _ (h3 i hi).2⟩⟩)
      have hlt : i * size + j < l.length * size := by
        have : (i + 1) * size ≤ l.length * size := Nat.mul_le_mul_right _ hi
        rw [Nat.succ_mul] at this; omega
      rw [Nat.zero_add, h4'.cellAt (i * size + j) hlt]
      exact flat_at Cs size (fun k hk => (h3 k (by omega)).1) i j (by omega) hj
theorem OwElems.len {α : Type} {w : World} {e : TypeId} {size : Nat} {v : Value} {l : List α} {R : List Value → α → List Nat → Prop} {F : List Nat} (h : OwElems w e size v l R F) : l.length ≤ maxLen := by
  obtain ⟨Cs, Fs, h1, h2, h3, h4, rfl⟩ := h
  rcases h4.2 with ⟨_, h0⟩ | ⟨g, cap, cur, rfl, hb, hg, hnc, hcm, _⟩
  · rw [h0]; exact Nat.zero_le _
  · omega
theorem OwAttrs.rd {w : World} {v : Value} {l : List (List Int × List Int)} {F : List Nat} (h : OwAttrs w v l F) : RdAttrs w v l := OwElems.rd h (OwElems.len h) (fun C x G ⟨a, b, e, h1, h2, _⟩ => ⟨a, b, e, h1.byt, h2.byt⟩)
theorem OwNode.rd {n : Nat} {w : World} {C : List Value} {t : Tr n} {F : List Nat} (h : OwNode n w C t F) : RdNode n w C t := by
  induction n generalizing C F with
  | zero => exact h
  | succ n ih =>
    obtain ⟨a, b, c, d, Fc, Fd, e, k1, k2, h1, h2, h3, h4, rfl⟩ := h
    exact ⟨a, b, c, d, e, k1, k2, h1.byt, h2.byt, h3.rd, OwElems.rd h4 (OwElems.len h4) (fun C x G hr => ih hr)⟩
theorem OwKids.rd {n : Nat} {w : World} {v : Value} {l : List (Tr n)} {F : List Nat} (h : OwKids n w v l F) : RdKids n w v l := OwElems.rd h (OwElems.len h) (fun C x G hr => OwNode.rd hr)

end Go.Proofs.YtkmmhlimihkgfaaGreat

/- The laws' own copy of a slice of attributes, of nodes, of a whole tree, by contracts. -/
namespace Go.Proofs.YtkmmhlimihkgfaaGreat
open Go.RowKit
set_option linter.unusedVariables false


theorem take_two (xs : List Value) (m : Nat) (v1 v2 : Value) (h : m + 2 ≤ xs.length) : ((xs.set m v1).set (m + 1) v2).take (m + 2) = xs.take m ++ [v1, v2] := by
  apply List.ext_getElem?
  intro i
  have hl : (xs.take m).length = m := by simp; omega
  rw [List.getElem?_take, List.getElem?_append, hl]
  by_cases h1 : i < m
  · rw [if_pos (by omega), if_pos h1, List.getElem?_set, if_neg (by omega), List.getElem?_set, if_neg (by omega), List.getElem?_take, if_pos h1]
  · rw [if_neg h1]
    by_cases h2 : i = m
    · subst h2
      rw [if_pos (by omega), List.getElem?_set, if_neg (by omega), List.getElem?_set, if_pos rfl, if_pos (by omega)]; simp
    · by_cases h3 : i = m + 1
      · subst h3
        rw [if_pos (by omega), List.getElem?_set, if_pos rfl, if_pos (by simp; omega)]; simp
      · rw [if_neg (by omega), List.getElem?_eq_none (by simp; omega)]
theorem take_more (xs : List Value) (m j : Nat) (ys : List Value) (v : Value) (h : xs.take (m + j) = ys) (hl : m + j < xs.length) : (xs.set (m + j) v).take (m + j + 1) = ys ++ [v] := by
  subst h
  have hl2 : m + j < (xs.set (m + j) v).length := by simpa using hl
  rw [List.take_succ_eq_append_getElem hl2, List.getElem_set_self, List.take_set_of_le (Nat.le_refl _)]
theorem take_five (xs : List Value) (m : Nat) (v0 v1 v2 v3 v4 : Value) (h : m + 5 ≤ xs.length) :
    (((((xs.set m v0).set (m + 1) v1).set (m + 2) v2).set (m + 3) v3).set (m + 4) v4).take (m + 5) = xs.take m ++ [v0, v1, v2, v3, v4] := by
  have h0 := take_more xs m 0 (xs.take m) v0 rfl (by omega)
  have h1 := take_more (xs.set m v0) m 1 _ v1 h0 (by simp; omega)
  have h2 := take_more ((xs.set m v0).set (m + 1) v1) m 2 _ v2 h1 (by simp; omega)
  have h3 := take_more (((xs.set m v0).set (m + 1) v1).set (m + 2) v2) m 3 _ v3 h2 (by simp; omega)
  have h4 := take_more ((((xs.set m v0).set (m + 1) v1).set (m + 2) v2).set (m + 3) v3) m 4 _ v4 h3 (by simp; omega)
  simpa using h4

/-- The elements that have been laid so far in a row of the call's own. -/
structure Half {α : Type} (w : World) (e : TypeId) (size g n : Nat) (l : List α) (R : List Value → α → List Nat → Prop) (lo k : Nat) : Prop where
  laid : ∃ (Cs : List (List Value)) (Fs : List (List Nat)) (xs : List Value), Cs.length = k ∧ Fs.length = k ∧ (∀ i (hi : i < l.length), i < k → (Cs.getD i []).length = size ∧ R (Cs.getD i []) l[i] (Fs.getD i [])) ∧
    w.ownsRow 0 e size (.slice (some ⟨g, 0, none⟩) n n) n xs ∧ xs.take (k * size) = Cs.flatten ∧ Fs.flatten.Nodup ∧ Rng Fs.flatten lo w.heap.size

theorem Half.whole {α : Type} {w : World} {e : TypeId} {size g n : Nat} {l : List α} {R : List Value → α → List Nat → Prop} {lo : Nat} (h : Half w e size g n l R lo n) (hn : l.length = n) (hg : g < lo) :
    ∃ F, OwElems w e size (.slice (some ⟨g, 0, none⟩) n n) l R F ∧ F.Nodup ∧ (∀ q ∈ F, g ≤ q ∧ q < w.heap.size) := by
  obtain ⟨Cs, Fs, xs, h1, h2, h3, h4, h5, h6, h7⟩ := h.laid
  subst hn
  have hx : xs = Cs.flatten := by rw [← h5, List.take_of_length_le (by rw [h4.1]; exact Nat.le_refl _)]
  subst hx
  have hlt := (h4.lt g rfl).2
  refine ⟨FB (.slice (some ⟨g, 0, none⟩) l.length l.length) ++ Fs.flatten, ⟨Cs, Fs, h1, h2, fun i hi => h3 i hi hi, h4, rfl⟩, ?_, fun q hq => ?_⟩
  · rw [List.nodup_append]
    refine ⟨FB_nodup _, h6, fun a ha b hb e => ?_⟩
    have := h7 b hb
    simp [FB, Value.ownBlock] at ha
    omega
  · rcases List.mem_append.1 hq with h' | h'
    · simp [FB, Value.ownBlock] at h'; omega
    · have := h7 q h'; omega

theorem Half.start {α : Type} {w : World} {e : TypeId} {size g n : Nat} {l : List α} {R : List Value → α → List Nat → Prop} (lo : Nat) {xs : List Value} (h : w.ownsRow 0 e size (.slice (some ⟨g, 0, none⟩) n n) n xs) : Half w e size g n l R lo 0 :=
  ⟨[], [], xs, rfl, rfl, fun i hi h0 => by omega, h, by simp, by simp, Rng.nil _ _⟩

theorem flat_snoc {α : Type} (Cs : List (List α)) (C : List α) : (Cs ++ [C]).flatten = Cs.flatten ++ C := by simp
theorem getD_snoc {β : Type} (Cs : List (List β)) (C : List β) (i : Nat) : (Cs ++ [C]).getD i [] = if i < Cs.length then Cs.getD i [] else if i = Cs.length then C else [] := by
  by_cases h : i < Cs.length
  · rw [if_pos h, List.getD_eq_getElem?_getD, List.getElem?_append_left h, ← List.getD_eq_getElem?_getD]
  · rw [if_neg h]
    by_cases h2 : i = Cs.length
    · subst h2; simp
    · rw [if_neg h2, List.getD_eq_getElem?_getD, List.getElem?_eq_none (by simp; omega)]; rfl

/-- One element more. w1: behind the call that made it; w2: behind its store. -/
theorem Half.step {α : Type} {w w1 w2 : World} {e : TypeId} {size g n : Nat} {l : List α} {R R2 : List Value → α → List Nat → Prop} {lo k : Nat} (h : Half w e size g n l R lo k) (hk : k < l.length) (hlo : g < lo) (hlow : lo ≤ w.heap.size)
    (hB : Below w.heap.size w w1) (C : List Value) (G : List Nat) (hC : C.length = size) (hR : R2 C l[k] G) (hG : G.Nodup) (hrng : Rng G w.heap.size w1.heap.size)
    (hmono : ∀ C x G, R C x G → (∀ q ∈ G, q ≠ g) → R2 C x G) (hf : Frm w1 w2 [g]) (hs : ∀ xs : List Value, w1.ownsRow 0 e size (.slice (some ⟨g, 0, none⟩) n n) n xs → ∃ ys, w2.ownsRow 0 e size (.slice (some ⟨g, 0, none⟩) n n) n ys ∧ ys.take (k * size + size) = xs.take (k * size) ++ C) :
    Half w2 e size g n l R2 lo (k + 1) := by
  obtain ⟨Cs, Fs, xs, h1, h2, h3, h4, h5, h6, h7⟩ := h.laid
  have h4' : w1.ownsRow 0 e size (.slice (some ⟨g, 0, none⟩) n n) n xs := ownsRow_frm h4 (Frm.ofBelow hB []) (fun _ _ => by simp)
  obtain ⟨ys, hy1, hy2⟩ := hs xs h4'
  have hsz := hf.size
  have hsz1 := hB.size
  refine ⟨Cs ++ [C], Fs ++ [G], ys, by simp [h1], by simp [h2], fun i hi hik => ?_, hy1, ?_, ?_, ?_⟩
  · rw [getD_snoc, getD_snoc, h1, h2]
    by_cases hlt : i < k
    · rw [if_pos hlt, if_pos hlt]
      have := h3 i hi hlt
      refine ⟨this.1, hmono _ _ _ this.2 (fun q hq => ?_)⟩
      have := h7 q (mem_flat hq)
      omega
    · have e : i = k := by omega
      subst e
      rw [if_neg hlt, if_neg hlt, if_pos rfl, if_pos rfl]
      exact ⟨hC, hR⟩
  · rw [flat_snoc, ← h5, Nat.succ_mul]; exact hy2
  · rw [flat_snoc, List.nodup_append]
    exact ⟨h6, hG, fun a ha b hb e => by have := h7 a ha; have := hrng b hb; omega⟩
  · rw [flat_snoc]
    exact (h7.mono (Nat.le_refl _) (by omega)).app (hrng.mono (by omega) (by omega))

end Go.Proofs.YtkmmhlimihkgfaaGreat

/- Rows of ints in memory: what may be read, what is owned. -/
namespace Go.Proofs.YtkmmhlimihkgfaaGreat
open Go.RowKit
set_option linter.unusedVariables false

/-- Each number is a byte. -/
def okZ (l : List Int) : Prop := ∀ x ∈ l, -9223372036854775808 ≤ x ∧ x ≤ 9223372036854775807

/-- The cells of a row of bytes. -/
def valz (l : List Int) : List Value := l.map (Value.int .i64)

/-- The value v is a slice whose elements can be read in w: the bytes l. -/
def Ints (w : World) (v : Value) (l : List Int) : Prop :=
  okZ l ∧ l.length ≤ maxLen ∧
  ((v = .slice none 0 0 ∧ l = []) ∨
   (∃ x cap, v = .slice (some x) 0 cap ∧ cap ≤ maxLen ∧ l = []) ∨
   (∃ b off cap, v = .slice (some ⟨b, off, none⟩) l.length cap ∧ l.length ≤ cap ∧ cap ≤ maxLen ∧ l ≠ [] ∧ b < w.heap.size ∧
      ∀ i, i < l.length → w.cell? ⟨b, off + i, none⟩ = some (.int .i64 (l.getD i 0))))

/-- The value v is a slice at the head of a block of the call's own, from 'base' on: the bytes l. -/
def OwnZ (w : World) (base : Nat) (v : Value) (l : List Int) : Prop := okZ l ∧ w.ownsRow base 3 1 v l.length (valz l)

theorem okZ_nil : okZ [] := fun _ h => by cases h
theorem okZ.app {a b : List Int} (h : okZ a) (k : okZ b) : okZ (a ++ b) := fun x hx => by
  rcases List.mem_append.1 hx with h' | h'
  · exact h x h'
  · exact k x h'
theorem okZ.take {a : List Int} (h : okZ a) (n : Nat) : okZ (a.take n) := fun x hx => h x (List.mem_of_mem_take hx)
theorem okZ.drop {a : List Int} (h : okZ a) (n : Nat) : okZ (a.drop n) := fun x hx => h x (List.mem_of_mem_drop hx)
theorem okZ.at {a : List Int} (h : okZ a) (i : Nat) : -9223372036854775808 ≤ a[i]?.getD 0 ∧ a[i]?.getD 0 ≤ 9223372036854775807 := by
  by_cases hi : i < a.length
  · rw [List.getElem?_eq_getElem hi]; exact h _ (List.getElem_mem hi)
  · rw [List.getElem?_eq_none (by omega)]; decide
theorem okZ.one {x : Int} (h0 : -9223372036854775808 ≤ x) (h1 : x ≤ 9223372036854775807) : okZ [x] := fun y hy => by simp at hy; subst hy; exact ⟨h0, h1⟩

theorem valz_len (l : List Int) : (valz l).length = l.length := by simp [valz]
theorem valz_app (a b : List Int) : valz (a ++ b) = valz a ++ valz b := by simp [valz]
theorem valz_one (l : List Int) : ∀ u ∈ valz l, u.oneCell' = true := ints_oneCell _ _
theorem valz_at {l : List Int} {i : Nat} (h : i < l.length) : (valz l)[i]? = some (.int .i64 (l.getD i 0)) := by simp [valz, h]

/-- What is owned lies in a block between 'base' and the heap's end. -/
theorem OwnZ.lt {w : World} {base : Nat} {v : Value} {l : List Int} (h : OwnZ w base v l) : ∀ k, v.ownBlock = some k → base ≤ k ∧ k < w.heap.size := h.2.lt

theorem OwnZ.mono {w : World} {base base' : Nat} {v : Value} {l : List Int} (h : OwnZ w base v l) (hb : base' ≤ base) : OwnZ w base' v l := by
  refine ⟨h.1, h.2.1, ?_⟩
  rcases h.2.2 with h' | ⟨g, cap, cur, h1, h2, h3⟩
  · exact .inl h'
  · exact .inr ⟨g, cap, cur, h1, by omega, h3⟩

/-- What is owned can be read. -/
theorem OwnZ.ints {w : World} {base : Nat} {v : Value} {l : List Int} (h : OwnZ w base v l) : Ints w v l := by
  obtain ⟨hok, hlen, hrow⟩ := h
  have hl := hlen
  rcases hrow with ⟨rfl, h0⟩ | ⟨g, cap, cur, rfl, hb, hg, hnc, hcm, hcs, htake⟩
  · exact ⟨hok, by omega, .inl ⟨rfl, List.eq_nil_of_length_eq_zero h0⟩⟩
  · refine ⟨hok, by omega, .inr ?_⟩
    by_cases h0 : l = []
    · subst h0; exact .inl ⟨_, cap, rfl, hcm, rfl⟩
    · refine .inr ⟨g, 0, cap, rfl, hnc, hcm, h0, ?_, fun i hi => ?_⟩
      · by_cases hlt : g < w.heap.size
        · exact hlt
        · rw [Array.getElem?_eq_none (by omega)] at hg; cases hg
      · have := World.ownsRow.cellAt (w := w) (base := base) (e := 3) (size := 1) (g := g) (n := l.length) (cap := cap) (xs := valz l) ⟨hlen, .inr ⟨g, cap, cur, rfl, hb, hg, hnc, hcm, hcs, htake⟩⟩ i (by omega)
        rw [valz_at hi] at this
        simpa using this

/-- The length that a readable value bears. -/
theorem Ints.shape {w : World} {v : Value} {l : List Int} (h : Ints w v l) : ∃ a cap, v = .slice a l.length cap ∧ l.length ≤ cap ∧ cap ≤ maxLen := by
  obtain ⟨_, hm, ⟨rfl, rfl⟩ | ⟨x, cap, rfl, hc, rfl⟩ | ⟨b, off, cap, rfl, h1, h2, _⟩⟩ := h
  · exact ⟨none, 0, rfl, Nat.le_refl _, hm⟩
  · exact ⟨some x, cap, rfl, Nat.zero_le _, hc⟩
  · exact ⟨_, cap, rfl, h1, h2⟩

/-- A world in which all blocks that were there stand as they stood. -/
theorem Ints.keep {w w' : World} {v : Value} {l : List Int} (h : Ints w v l) (hb : Below w.heap.size w w') : Ints w' v l := by
  obtain ⟨hok, hm, h1 | h2 | ⟨b, off, cap, rfl, h1, h2, h3, h4, h5⟩⟩ := h
  · exact ⟨hok, hm, .inl h1⟩
  · exact ⟨hok, hm, .inr (.inl h2)⟩
  · exact ⟨hok, hm, .inr (.inr ⟨b, off, cap, rfl, h1, h2, h3, Nat.lt_of_lt_of_le h4 hb.size, fun i hi => by rw [hb.cell (p := ⟨b, off + i, none⟩) h4]; exact h5 i hi⟩)⟩

theorem OwnZ.keep {w w' : World} {base : Nat} {v : Value} {l : List Int} (h : OwnZ w base v l) (hb : Below w.heap.size w w') : OwnZ w' base v l :=
  ⟨h.1, h.2.kept (row := none) ⟨hb.os, hb.tape, hb.output, hb.size, fun k hk _ => hb.block k hk⟩ (by cases hv : v.ownBlock <;> simp)⟩

/-- A write into another block leaves what is owned. -/
theorem OwnZ.keepBy {w w' : World} {base : Nat} {v : Value} {l : List Int} {row : Option Nat} (h : OwnZ w base v l) (hg : w.grownBy w' row) (hne : v.ownBlock = none ∨ v.ownBlock ≠ row) : OwnZ w' base v l :=
  ⟨h.1, h.2.kept hg hne⟩

/-- An argument that was read as a row of numbers is a readable row of bytes. -/
theorem ints_of_row {w : World} {a : Option Addr} {len cap : Nat} {zs : List Int}
    (h : (a = none ∧ len = 0 ∧ cap = 0 ∧ zs = []) ∨ ∃ x, a = some x ∧ len ≤ cap ∧ cap ≤ maxLen ∧ zs.length = cap ∧ (∀ i, i < zs.length → w.cell? (x.add i) = some (.int .i64 (zs.getD i 0))) ∧ ∀ n ∈ zs, (Lit.int .i64 n).wf = true) :
    Ints w (.slice a len cap) (zs.take len) := by
  rcases h with ⟨rfl, rfl, rfl, rfl⟩ | ⟨x, rfl, hl, hm, hz, hcell, hwz⟩
  · exact ⟨okZ_nil, by simp [maxLen], .inl ⟨rfl, rfl⟩⟩
  · have hok : okZ (zs.take len) := fun n hn => bounds_i64 (hwz n (List.mem_of_mem_take hn))
    have hlen : (zs.take len).length = len := by simp; omega
    by_cases h0 : len = 0
    · subst h0
      exact ⟨hok, by simp [maxLen], .inr (.inl ⟨x, cap, rfl, hm, by simp⟩)⟩
    · obtain ⟨b, off, spot⟩ := x
      have hc := hcell 0 (by omega)
      have hspot : spot = none := by simpa [Addr.add] using World.cell?_spot hc
      subst hspot
      refine ⟨hok, by omega, .inr (.inr ⟨b, off, cap, by rw [hlen], by omega, hm, ?_, ?_, fun i hi => ?_⟩)⟩
      · intro e; rw [e] at hlen; simp at hlen; omega
      · have := lt_of_cell hc; simpa [Addr.add] using this
      · have hi' := hcell i (by omega)
        rw [List.getD_eq_getElem?_getD, List.getElem?_take, if_pos (by omega), ← List.getD_eq_getElem?_getD]
        rw [add_plain] at hi'
        exact hi'

end Go.Proofs.YtkmmhlimihkgfaaGreat

/- spec.NameOk and spec.l2text answer what the plain tests say. -/
namespace Go.Proofs.YtkmmhlimihkgfaaGreat
open Go.RowKit
set_option linter.unusedVariables false

/-- The test f holds of each of the first k bytes. -/
def allTo (f : Nat → Int → Prop) (l : List Int) (k : Nat) : Prop := ∀ i, i < k → f i (l.getD i 0)
theorem allTo_step {f : Nat → Int → Prop} {l : List Int} {k : Nat} (h : allTo f l k) (h1 : f k (l.getD k 0)) : allTo f l (k + 1) := fun i hi => by
  by_cases e : i = k
  · subst e; exact h1
  · exact h i (by omega)

/-- A byte that may stand at place i of a name. -/
def nameCh (i : Nat) (x : Int) : Prop := (97 ≤ x ∧ x ≤ 122) ∨ (0 < i ∧ 48 ≤ x ∧ x ≤ 57)
def NameOk (l : List Int) : Prop := 1 ≤ l.length ∧ l.length ≤ 8 ∧ allTo nameCh l l.length
/-- A byte that may stand in a text. -/
def textCh (_ : Nat) (x : Int) : Prop := 32 ≤ x ∧ x ≤ 126
def TextOk (l : List Int) : Prop := l.length ≤ 30 ∧ allTo textCh l l.length

theorem nameS_short (w : World) (a : Option Addr) (n cap : Nat) (h : n < 1 ∨ 8 < n) :
    Calls Tryz.prog 37 #[.slice a n cap] w fun e w' => e = .returned (.bool false) ∧ w' = w := by
  by_cases h1 : n < 1
  · have h1' : (n : Int) < 1 := by omega
    go_enter Tryz.func37, Tryz.ntmps37
    go_wp2
    go_ret
    exact ⟨rfl, rfl⟩
  · have h1' : decide ((n : Int) < 1) = false := by simp; omega
    have h2 : (8 : Int) < (n : Int) := by omega
    go_enter Tryz.func37, Tryz.ntmps37
    go_wp2
    go_ret
    exact ⟨rfl, rfl⟩

open Classical in
set_option maxHeartbeats 1600000 in
theorem nameS_row (w : World) (b off cap : Nat) (l : List Int) (hok : okB l) (h1 : 1 ≤ l.length) (h8 : l.length ≤ 8)
    (hc : ∀ i, i < l.length → w.cell? ⟨b, off + i, none⟩ = some (.int .u8 (l.getD i 0))) :
    Calls Tryz.prog 37 #[.slice (some ⟨b, off, none⟩) l.length cap] w fun e w' => e = .returned (.bool (decide (NameOk l))) ∧ w' = w := by
  have d1 : decide ((l.length : Int) < 1) = false := by simp; omega
  have d2 : decide ((8 : Int) < (l.length : Int)) = false := by simp; omega
  go_enter Tryz.func37, Tryz.ntmps37
  go_wp2
  go_loop [3] (fun i => ∃ k : Nat, k ≤ l.length ∧ i = .int .i64 k ∧ allTo nameCh l k) (fun i => l.length - (intOf i).toNat)
  case atStart => exact ⟨0, Nat.zero_le _, rfl, fun i hi => by omega⟩
  case round =>
    obtain ⟨k, hk, rfl, ha⟩ := hrel
    have HA := hide ha
    clear ha
    by_cases hlt : k < l.length
    · obtain ⟨x, hx⟩ : ∃ x, x = l.getD k 0 := ⟨_, rfl⟩
      have hcx : w.cell? ⟨b, off + k, none⟩ = some (.int .u8 x) := by rw [hx]; exact hc _ hlt
      have HX := hide hx
      have hlt' : (k : Int) < (l.length : Int) := by omega
      clear hc hx
      by_cases hn : nameCh k x
      · have HN := hide hn
        have hcase : (decide (x < 97) = false ∧ decide (122 < x) = false) ∨ (decide (x < 97) = true ∧ ((k : Int) == 0) = false ∧ decide (x < 48) = false ∧ decide (57 < x) = false) := by
          rcases hn with ⟨a1, a2⟩ | ⟨a1, a2, a3⟩
          · left; simp; omega
          · right; simp; omega
        clear hn
        rcases hcase with ⟨q1, q2⟩ | ⟨q1, q2, q3, q4⟩
        all_goals
          go_wp2
          go_round
          case rel => exact ⟨k + 1, by omega, by go_num, allTo_step (unhide HA) (by rw [← unhide HX]; exact unhide HN)⟩
          case measure => simp [intOf]; omega
      · have HF := hide (show decide (NameOk l) = false by
          simp only [decide_eq_false_iff_not]
          rintro ⟨_, _, h⟩
          exact hn (by rw [unhide HX]; exact h k hlt))
        have hcase : (decide (x < 97) = true ∧ (((k : Int) == 0) = true ∨ ((k : Int) == 0) = false ∧ (decide (x < 48) = true ∨ decide (x < 48) = false ∧ decide (57 < x) = true))) ∨
            (decide (x < 97) = false ∧ decide (122 < x) = true ∧ (((k : Int) == 0) = true ∨ ((k : Int) == 0) = false ∧ decide (x < 48) = false ∧ decide (57 < x) = true)) := by
          unfold nameCh at hn
          simp
          omega
        clear hn
        rcases hcase with ⟨q1, q2 | ⟨q2, q3 | ⟨q3, q4⟩⟩⟩ | ⟨q1, q2, q3 | ⟨q3, q4, q5⟩⟩
        all_goals
          go_wp2
          go_ret
          exact ⟨by rw [unhide HF]; rfl, rfl⟩
    · have e : k = l.length := by omega
      subst e
      have HF := hide (show decide (NameOk l) = true by simp only [decide_eq_true_eq]; exact ⟨h1, h8, unhide HA⟩)
      clear hc
      go_wp2
      go_ret
      exact ⟨by rw [unhide HF]; rfl, rfl⟩

open Classical in
theorem nameS_any (w : World) (v : Value) (l : List Int) (h : Byt w v l) :
    Calls Tryz.prog 37 #[v] w fun e w' => e = .returned (.bool (decide (NameOk l))) ∧ w' = w := by
  by_cases hl : l.length < 1 ∨ 8 < l.length
  · obtain ⟨a, cap, rfl, _⟩ := h.shape
    have hd : decide (NameOk l) = false := by simp only [decide_eq_false_iff_not]; rintro ⟨_, _, _⟩; omega
    rw [hd]
    exact nameS_short w a _ cap hl
  · obtain ⟨hok, hm, ⟨rfl, rfl⟩ | ⟨x, cap, rfl, hc, rfl⟩ | ⟨b, off, cap, rfl, _, _, _, _, h5⟩⟩ := h
    · simp at hl
    · simp at hl
    · exact nameS_row w b off cap l hok (by omega) (by omega) h5

open Classical in
set_option maxHeartbeats 1600000 in
theorem textS_any (w : World) (v : Value) (l : List Int) (h : Byt w v l) :
    Calls Tryz.prog 33 #[v] w fun e w' => e = .returned (.bool (decide (TextOk l))) ∧ w' = w := by
  by_cases hl : 30 < l.length
  · obtain ⟨a, cap, rfl, _⟩ := h.shape
    have HD := hide (show decide (TextOk l) = false by simp only [decide_eq_false_iff_not]; rintro ⟨_, _⟩; omega)
    have d2 : (30 : Int) < (l.length : Int) := by omega
    go_enter Tryz.func33, Tryz.ntmps33
    go_wp2
    go_ret
    exact ⟨by rw [unhide HD]; rfl, rfl⟩
  have d2 : ¬ (30 : Int) < (l.length : Int) := by omega
  by_cases h0 : l = []
  · obtain ⟨a, cap, rfl, _⟩ := h.shape
    subst h0
    have HD := hide (show decide (TextOk []) = true by simp only [decide_eq_true_eq]; exact ⟨by simp, fun i hi => by simp at hi⟩)
    go_enter Tryz.func33, Tryz.ntmps33
    go_wp2
    refine wp_loop_rounds 1 ?_
    rw [rounds_succ]
    go_wp2
    go_ret
    exact ⟨by rw [unhide HD]; rfl, rfl⟩
  obtain ⟨hok, hm, ⟨_, e⟩ | ⟨_, _, _, _, e⟩ | ⟨b, off, cap, rfl, _, _, _, _, hc⟩⟩ := h
  · exact absurd e h0
  · exact absurd e h0
  go_enter Tryz.func33, Tryz.ntmps33
  go_wp2
  go_loop [3] (fun i => ∃ k : Nat, k ≤ l.length ∧ i = .int .i64 k ∧ allTo textCh l k) (fun i => l.length - (intOf i).toNat)
  case atStart => exact ⟨0, Nat.zero_le _, rfl, fun i hi => by omega⟩
  case round =>
    obtain ⟨k, hk, rfl, ha⟩ := hrel
    have HA := hide ha
    clear ha
    by_cases hlt : k < l.length
    · obtain ⟨x, hx⟩ : ∃ x, x = l.getD k 0 := ⟨_, rfl⟩
      have hcx : w.cell? ⟨b, off + k, none⟩ = some (.int .u8 x) := by rw [hx]; exact hc _ hlt
      have HX := hide hx
      have hlt' : (k : Int) < (l.length : Int) := by omega
      clear hc hx
      by_cases hn : textCh k x
      · have HN := hide hn
        have q1 : decide (x < 32) = false := by unfold textCh at hn; simp; omega
        have q2 : decide (126 < x) = false := by unfold textCh at hn; simp; omega
        clear hn
        go_wp2
        go_round
        case rel => exact ⟨k + 1, by omega, by go_num, allTo_step (unhide HA) (by rw [← unhide HX]; exact unhide HN)⟩
        case measure => simp [intOf]; omega
      · have HF := hide (show decide (TextOk l) = false by
          simp only [decide_eq_false_iff_not]
          rintro ⟨_, h⟩
          exact hn (by rw [unhide HX]; exact h k hlt))
        have hcase : decide (x < 32) = true ∨ (decide (x < 32) = false ∧ decide (126 < x) = true) := by
          unfold textCh at hn; simp; omega
        clear hn
        rcases hcase with q1 | ⟨q1, q2⟩
        all_goals
          go_wp2
          go_ret
          exact ⟨by rw [unhide HF]; rfl, rfl⟩
    · have e : k = l.length := by omega
      subst e
      have HF := hide (show decide (TextOk l) = true by simp only [decide_eq_true_eq]; exact ⟨by omega, unhide HA⟩)
      clear hc
      go_wp2
      go_ret
      exact ⟨by rw [unhide HF]; rfl, rfl⟩

theorem nameS_yes (w : World) (v : Value) (l : List Int) (h : Byt w v l) (hn : NameOk l) : Calls Tryz.prog 37 #[v] w fun e w' => e = .returned (.bool true) ∧ w' = w := by
  refine (nameS_any w v l h).mono ?_
  rintro e w' ⟨rfl, h⟩
  exact ⟨by simp [hn], h⟩
theorem nameS_no (w : World) (v : Value) (l : List Int) (h : Byt w v l) (hn : ¬ NameOk l) : Calls Tryz.prog 37 #[v] w fun e w' => e = .returned (.bool false) ∧ w' = w := by
  refine (nameS_any w v l h).mono ?_
  rintro e w' ⟨rfl, h⟩
  exact ⟨by simp [hn], h⟩
theorem textS_yes (w : World) (v : Value) (l : List Int) (h : Byt w v l) (hn : TextOk l) : Calls Tryz.prog 33 #[v] w fun e w' => e = .returned (.bool true) ∧ w' = w := by
  refine (textS_any w v l h).mono ?_
  rintro e w' ⟨rfl, h⟩
  exact ⟨by simp [hn], h⟩
theorem textS_no (w : World) (v : Value) (l : List Int) (h : Byt w v l) (hn : ¬ TextOk l) : Calls Tryz.prog 33 #[v] w fun e w' => e = .returned (.bool false) ∧ w' = w := by
  refine (textS_any w v l h).mono ?_
  rintro e w' ⟨rfl, h⟩
  exact ⟨by simp [hn], h⟩

/-- The tests as truth values. -/
def allB (f : Nat → Int → Bool) (l : List Int) : Bool := (List.range l.length).all fun i => f i (l.getD i 0)
theorem allB_iff {f : Nat → Int → Bool} {p : Nat → Int → Prop} (h : ∀ i x, f i x = true ↔ p i x) (l : List Int) : allB f l = true ↔ allTo p l l.length := by
  unfold allB allTo
  rw [List.all_eq_true]
  constructor
  · intro k i hi; exact (h _ _).1 (k i (List.mem_range.2 hi))
  · intro k i hi; exact (h _ _).2 (k i (List.mem_range.1 hi))
def nameB (l : List Int) : Bool := decide (1 ≤ l.length) && decide (l.length ≤ 8) && allB (fun i x => decide (97 ≤ x ∧ x ≤ 122) || decide (0 < i ∧ 48 ≤ x ∧ x ≤ 57)) l
theorem nameB_iff (l : List Int) : nameB l = true ↔ NameOk l := by
  unfold nameB NameOk
  rw [Bool.and_eq_true, Bool.and_eq_true, decide_eq_true_eq, decide_eq_true_eq, allB_iff (p := nameCh) (fun i x => by unfold nameCh; rw [Bool.or_eq_true, decide_eq_true_eq, decide_eq_true_eq]), and_assoc]
def textB (l : List Int) : Bool := decide (l.length ≤ 30) && allB (fun _ x => decide (32 ≤ x ∧ x ≤ 126)) l
theorem textB_iff (l : List Int) : textB l = true ↔ TextOk l := by
  unfold textB TextOk
  rw [Bool.and_eq_true, decide_eq_true_eq, allB_iff (p := textCh) (fun i x => by unfold textCh; rw [decide_eq_true_eq])]

end Go.Proofs.YtkmmhlimihkgfaaGreat

/- spec.NameOk and spec.l2text answer the plain tests' Booleans. -/
namespace Go.Proofs.YtkmmhlimihkgfaaGreat
open Go.RowKit
set_option linter.unusedVariables false

theorem nameS_b (w : World) (v : Value) (l : List Int) (h : Byt w v l) : Calls Tryz.prog 37 #[v] w fun e w' => e = .returned (.bool (nameB l)) ∧ w' = w := by
  by_cases hn : NameOk l
  · rw [(nameB_iff l).2 hn]; exact nameS_yes w v l h hn
  · rw [Bool.eq_false_iff.2 (fun k => hn ((nameB_iff l).1 k))]; exact nameS_no w v l h hn
theorem textS_b (w : World) (v : Value) (l : List Int) (h : Byt w v l) : Calls Tryz.prog 33 #[v] w fun e w' => e = .returned (.bool (textB l)) ∧ w' = w := by
  by_cases hn : TextOk l
  · rw [(textB_iff l).2 hn]; exact textS_yes w v l h hn
  · rw [Bool.eq_false_iff.2 (fun k => hn ((textB_iff l).1 k))]; exact textS_no w v l h hn

end Go.Proofs.YtkmmhlimihkgfaaGreat

/- spec.l4key answers what the plain test says. -/
namespace Go.Proofs.YtkmmhlimihkgfaaGreat
open Go.RowKit
set_option linter.unusedVariables false

/-- A number that may stand in a key. -/
def keyCh (_ : Nat) (x : Int) : Prop := 0 ≤ x ∧ x ≤ 999
def KeyOk (l : List Int) : Prop := 1 ≤ l.length ∧ l.length ≤ 12 ∧ l.getD (l.length - 1) 0 ≠ 0 ∧ allTo keyCh l l.length

theorem keyS_short (w : World) (a : Option Addr) (n cap : Nat) (h : n < 1 ∨ 12 < n) :
    Calls Tryz.prog 36 #[.slice a n cap] w fun e w' => e = .returned (.bool false) ∧ w' = w := by
  by_cases h1 : n < 1
  · have h1' : (n : Int) < 1 := by omega
    go_enter Tryz.func36, Tryz.ntmps36
    go_wp2
    go_ret
    exact ⟨rfl, rfl⟩
  · have h1' : decide ((n : Int) < 1) = false := by simp; omega
    have h2 : (12 : Int) < (n : Int) := by omega
    go_enter Tryz.func36, Tryz.ntmps36
    go_wp2
    go_ret
    exact ⟨rfl, rfl⟩

open Classical in
set_option maxHeartbeats 1600000 in
theorem keyS_row (w : World) (b off cap : Nat) (l : List Int) (hok : okZ l) (h1 : 1 ≤ l.length) (h8 : l.length ≤ 12)
    (hc : ∀ i, i < l.length → w.cell? ⟨b, off + i, none⟩ = some (.int .i64 (l.getD i 0))) :
    Calls Tryz.prog 36 #[.slice (some ⟨b, off, none⟩) l.length cap] w fun e w' => e = .returned (.bool (decide (KeyOk l))) ∧ w' = w := by
  have d1 : decide ((l.length : Int) < 1) = false := by simp; omega
  have d2 : decide ((12 : Int) < (l.length : Int)) = false := by simp; omega
  obtain ⟨n, hn⟩ : ∃ n, l.length = n + 1 := ⟨l.length - 1, by omega⟩
  obtain ⟨z, hz⟩ : ∃ z, z = l.getD n 0 := ⟨_, rfl⟩
  have hcz : w.cell? ⟨b, off + n, none⟩ = some (.int .i64 z) := by rw [hz]; exact hc _ (by omega)
  have HZ := hide hz
  have HC := hide hc
  have HN := hide hn
  have e1 : (l.length : Int) - 1 = (n : Int) := by omega
  have hlt0 : n < l.length := by omega
  clear hc hz
  by_cases hz0 : z = 0
  · have HF := hide (show decide (KeyOk l) = false by
      simp only [decide_eq_false_iff_not]
      rintro ⟨_, _, h, _⟩
      rw [unhide HN, Nat.add_sub_cancel, ← unhide HZ] at h
      exact h hz0)
    subst hz0
    clear hn
    go_enter Tryz.func36, Tryz.ntmps36
    go_wp2
    go_ret
    exact ⟨by rw [unhide HF]; rfl, rfl⟩
  have HZ0 := hide hz0
  have dz : (z == 0) = false := by simpa using hz0
  clear hn
  go_enter Tryz.func36, Tryz.ntmps36
  go_wp2
  go_loop [3] (fun i => ∃ k : Nat, k ≤ l.length ∧ i = .int .i64 k ∧ allTo keyCh l k) (fun i => l.length - (intOf i).toNat)
  case atStart => exact ⟨0, Nat.zero_le _, rfl, fun i hi => by omega⟩
  case round =>
    obtain ⟨k, hk, rfl, ha⟩ := hrel
    have HA := hide ha
    clear ha hcz
    by_cases hlt : k < l.length
    · obtain ⟨x, hx⟩ : ∃ x, x = l.getD k 0 := ⟨_, rfl⟩
      have hcx : w.cell? ⟨b, off + k, none⟩ = some (.int .i64 x) := by rw [hx]; exact unhide HC _ hlt
      have HX := hide hx
      have hlt' : (k : Int) < (l.length : Int) := by omega
      clear hx
      by_cases hn : keyCh k x
      · have HN := hide hn
        have q1 : decide (x < 0) = false := by unfold keyCh at hn; simp; omega
        have q2 : decide (999 < x) = false := by unfold keyCh at hn; simp; omega
        clear hn
        go_wp2
        go_round
        case rel => exact ⟨k + 1, by omega, by go_num, allTo_step (unhide HA) (by rw [← unhide HX]; exact unhide HN)⟩
        case measure => simp [intOf]; omega
      · have HF := hide (show decide (KeyOk l) = false by
          simp only [decide_eq_false_iff_not]
          rintro ⟨_, _, _, h⟩
          exact hn (by rw [unhide HX]; exact h k hlt))
        have hcase : decide (x < 0) = true ∨ (decide (x < 0) = false ∧ decide (999 < x) = true) := by
          unfold keyCh at hn; simp; omega
        clear hn
        rcases hcase with q1 | ⟨q1, q2⟩
        all_goals
          go_wp2
          go_ret
          exact ⟨by rw [unhide HF]; rfl, rfl⟩
    · have e : k = l.length := by omega
      subst e
      have HF := hide (show decide (KeyOk l) = true by
        simp only [decide_eq_true_eq]
        exact ⟨h1, h8, by rw [unhide HN, Nat.add_sub_cancel, ← unhide HZ]; exact unhide HZ0, unhide HA⟩)
      go_wp2
      go_ret
      exact ⟨by rw [unhide HF]; rfl, rfl⟩

open Classical in
theorem keyS_any (w : World) (v : Value) (l : List Int) (h : Ints w v l) :
    Calls Tryz.prog 36 #[v] w fun e w' => e = .returned (.bool (decide (KeyOk l))) ∧ w' = w := by
  by_cases hl : l.length < 1 ∨ 12 < l.length
  · obtain ⟨a, cap, rfl, _⟩ := h.shape
    have hd : decide (KeyOk l) = false := by simp only [decide_eq_false_iff_not]; rintro ⟨_, _, _⟩; omega
    rw [hd]
    exact keyS_short w a _ cap hl
  · obtain ⟨hok, hm, ⟨rfl, rfl⟩ | ⟨x, cap, rfl, hc, rfl⟩ | ⟨b, off, cap, rfl, _, _, _, _, h5⟩⟩ := h
    · simp at hl
    · simp at hl
    · exact keyS_row w b off cap l hok (by omega) (by omega) h5

theorem keyS_yes (w : World) (v : Value) (l : List Int) (h : Ints w v l) (hn : KeyOk l) : Calls Tryz.prog 36 #[v] w fun e w' => e = .returned (.bool true) ∧ w' = w := by
  refine (keyS_any w v l h).mono ?_
  rintro e w' ⟨rfl, h⟩
  exact ⟨by simp [hn], h⟩
theorem keyS_no (w : World) (v : Value) (l : List Int) (h : Ints w v l) (hn : ¬ KeyOk l) : Calls Tryz.prog 36 #[v] w fun e w' => e = .returned (.bool false) ∧ w' = w := by
  refine (keyS_any w v l h).mono ?_
  rintro e w' ⟨rfl, h⟩
  exact ⟨by simp [hn], h⟩

def keyB (l : List Int) : Bool := decide (1 ≤ l.length) && (decide (l.length ≤ 12) && (decide (l.getD (l.length - 1) 0 ≠ 0) && allB (fun _ x => decide (0 ≤ x ∧ x ≤ 999)) l))
theorem keyB_iff (l : List Int) : keyB l = true ↔ KeyOk l := by
  unfold keyB KeyOk
  rw [Bool.and_eq_true, Bool.and_eq_true, Bool.and_eq_true, decide_eq_true_eq, decide_eq_true_eq, decide_eq_true_eq, allB_iff (p := keyCh) (fun i x => by unfold keyCh; rw [decide_eq_true_eq])]
/-- The three tests by their truth values. -/
theorem keyS_b (w : World) (v : Value) (l : List Int) (h : Ints w v l) : Calls Tryz.prog 36 #[v] w fun e w' => e = .returned (.bool (keyB l)) ∧ w' = w := by
  by_cases hn : KeyOk l
  · rw [(keyB_iff l).2 hn]; exact keyS_yes w v l h hn
  · rw [Bool.eq_false_iff.2 (fun k => hn ((keyB_iff l).1 k))]; exact keyS_no w v l h hn
end Go.Proofs.YtkmmhlimihkgfaaGreat

/- spec.l4id, spec.l4zero and spec.Less answer what the plain tests say. -/
namespace Go.Proofs.YtkmmhlimihkgfaaGreat
open Go.RowKit
set_option linter.unusedVariables false

/-- An Id that may be a node's. -/
def idB (n r : Int) : Bool := decide (0 ≤ n) && (decide (n ≤ 1000000) && (decide (0 ≤ r) && (decide (r < 8) || (decide (n = 0) && decide (r < 122)))))
def zeroB (n r : Int) : Bool := decide (n = 0) && decide (r = 0)

/-- The cases of idB. -/
theorem idB_cases (n r : Int) :
    (idB n r = false ∧ decide (0 ≤ n) = false) ∨
    (idB n r = false ∧ decide (0 ≤ n) = true ∧ decide (n ≤ 1000000) = false) ∨
    (idB n r = false ∧ decide (0 ≤ n) = true ∧ decide (n ≤ 1000000) = true ∧ decide (0 ≤ r) = false) ∨
    (idB n r = true ∧ decide (0 ≤ n) = true ∧ decide (n ≤ 1000000) = true ∧ decide (0 ≤ r) = true ∧ decide (r < 8) = true) ∨
    (idB n r = false ∧ decide (0 ≤ n) = true ∧ decide (n ≤ 1000000) = true ∧ decide (0 ≤ r) = true ∧ decide (r < 8) = false ∧ (n == 0) = false) ∨
    (idB n r = true ∧ decide (0 ≤ n) = true ∧ decide (n ≤ 1000000) = true ∧ decide (0 ≤ r) = true ∧ decide (r < 8) = false ∧ (n == 0) = true ∧ decide (r < 122) = true) ∨
    (idB n r = false ∧ decide (0 ≤ n) = true ∧ decide (n ≤ 1000000) = true ∧ decide (0 ≤ r) = true ∧ decide (r < 8) = false ∧ (n == 0) = true ∧ decide (r < 122) = false) := by
  unfold idB
  cases a : decide (0 ≤ n) <;> cases b : decide (n ≤ 1000000) <;> cases c : decide (0 ≤ r) <;> cases d : decide (r < 8) <;> by_cases e : n = 0 <;> cases f : decide (r < 122) <;> simp [e]

set_option maxHeartbeats 1600000 in
theorem idS_any (w : World) (n r : Int) :
    Calls Tryz.prog 35 #[.agg #[.int .i64 n, .int .i64 r]] w fun e w' => e = .returned (.bool (idB n r)) ∧ w' = w.alloc (.cells #[.int .i64 n, .int .i64 r] 25) := by
  rcases idB_cases n r with ⟨h, q1⟩ | ⟨h, q1, q2⟩ | ⟨h, q1, q2, q3⟩ | ⟨h, q1, q2, q3, q4⟩ | ⟨h, q1, q2, q3, q4, q5⟩ | ⟨h, q1, q2, q3, q4, q5, q6⟩ | ⟨h, q1, q2, q3, q4, q5, q6⟩
  all_goals
    have HE := hide h
    clear h
    go_enter Tryz.func35, Tryz.ntmps35
    go_wp2
    go_ret
    exact ⟨by rw [unhide HE]; rfl, rfl⟩

set_option maxHeartbeats 1600000 in
theorem zeroS_any (w : World) (n r : Int) :
    Calls Tryz.prog 34 #[.agg #[.int .i64 n, .int .i64 r]] w fun e w' => e = .returned (.bool (zeroB n r)) ∧ w' = w.alloc (.cells #[.int .i64 n, .int .i64 r] 25) := by
  go_enter Tryz.func34, Tryz.ntmps34
  go_wp2
  · have e0 : n = 0 := by assumption
    have e1 : r = 0 := by assumption
    go_ret
    exact ⟨by unfold zeroB; simp [e0, e1], by rw [e0, e1]⟩
  · have e0 : n = 0 := by assumption
    have e1 : ¬ r = 0 := by assumption
    go_ret
    exact ⟨by unfold zeroB; simp [e0, e1], by rw [e0]⟩
  · have e0 : ¬ n = 0 := by assumption
    go_ret
    exact ⟨by unfold zeroB; simp [e0], rfl⟩

end Go.Proofs.YtkmmhlimihkgfaaGreat

/- spec.OpOk answers what the plain test says. -/
namespace Go.Proofs.YtkmmhlimihkgfaaGreat
open Go.RowKit
set_option linter.unusedVariables false

/-- An operation's parts, read. -/
structure OpV where
  kind : Int
  atN : Int
  atR : Int
  nodeN : Int
  nodeR : Int
  parN : Int
  parR : Int
  key : List Int
  elem : Int
  name : List Int
  text : List Int
  gone : Bool

/-- The value of an operation whose rows are k, n, t. -/
def opVal (o : OpV) (k n t : Value) : Value := .agg #[.int .i64 o.kind, .int .i64 o.atN, .int .i64 o.atR, .int .i64 o.nodeN, .int .i64 o.nodeR, .int .i64 o.parN, .int .i64 o.parR, k, .int .i64 o.elem, n, t, .bool o.gone]
/-- It can be read. -/
def RdOp (w : World) (v : Value) (o : OpV) : Prop := ∃ k n t, v = opVal o k n t ∧ Ints w k o.key ∧ Byt w n o.name ∧ Byt w t o.text

def opNewB (o : OpV) : Bool := if !zeroB o.nodeN o.nodeR || (!idB o.parN o.parR || (!keyB o.key || o.gone)) then false else if o.elem == 1 then (o.name.length : Int) == 0 else o.elem == 0 && (nameB o.name && (o.text.length : Int) == 0)
def opMoveB (o : OpV) : Bool := idB o.nodeN o.nodeR && (idB o.parN o.parR && (keyB o.key && (o.elem == 0 && ((o.name.length : Int) == 0 && ((o.text.length : Int) == 0 && !o.gone)))))
def opRestB (o : OpV) : Bool := if !idB o.nodeN o.nodeR || (!zeroB o.parN o.parR || (decide (0 < (o.key.length : Int)) || !(o.elem == 0))) then false else if o.kind == 2 then (o.name.length : Int) == 0 && !o.gone else nameB o.name && (!o.gone || (o.text.length : Int) == 0)
def opHeadB (o : OpV) : Bool := decide (o.kind < 0) || (decide (3 < o.kind) || (decide (o.atN < 1) || (decide (1000000 < o.atN) || (decide (o.atR < 0) || (decide (8 ≤ o.atR) || !textB o.text)))))
def opB (o : OpV) : Bool := if opHeadB o then false else if o.kind == 0 then opNewB o else if o.kind == 1 then opMoveB o else opRestB o

set_option maxRecDepth 8000 in
set_option maxHeartbeats 3200000 in
theorem opS_any (w : World) (v : Value) (o : OpV) (h : RdOp w v o) :
    Calls Tryz.prog 8 #[v] w fun e w' => e = .returned (.bool (opB o)) ∧ Below w.heap.size w w' := by
  obtain ⟨k, n, t, rfl, hk, hn, ht⟩ := h
  obtain ⟨ak, ck, rfl, _, _⟩ := hk.shape
  obtain ⟨an, cn, rfl, _, _⟩ := hn.shape
  obtain ⟨at', ct, rfl, _, _⟩ := ht.shape
  generalize hnK : o.key.length = nK at *
  have hA := (Below.refl w.heap.size w).alloc (Nat.le_refl _) (.cells #[.int .i64 o.kind, .int .i64 o.atN, .int .i64 o.atR, .int .i64 o.nodeN, .int .i64 o.nodeR, .int .i64 o.parN, .int .i64 o.parR, .slice ak nK ck, .int .i64 o.elem, .slice an o.name.length cn, .slice at' o.text.length ct, .bool o.gone] 28)
  have HA := hide hA
  have HT := hide (ht.keep hA)
  have HN := hide (hn.keep hA)
  have HK := hide (hk.keep hA)
  clear hA ht hn hk
  unfold opVal
  have hcase : (decide (o.kind < 0) = true ∧ opHeadB o = true) ∨ (decide (o.kind < 0) = false ∧ ((decide (3 < o.kind) = true ∧ opHeadB o = true) ∨ (decide (3 < o.kind) = false ∧ ((decide (o.atN < 1) = true ∧ opHeadB o = true) ∨ (decide (o.atN < 1) = false ∧ ((decide (1000000 < o.atN) = true ∧ opHeadB o = true) ∨ (decide (1000000 < o.atN) = false ∧ ((decide (o.atR < 0) = true ∧ opHeadB o = true) ∨ (decide (o.atR < 0) = false ∧ ((decide (8 ≤ o.atR) = true ∧ opHeadB o = true) ∨ (decide (8 ≤ o.atR) = false ∧ opHeadB o = !textB o.text))))))))))) := by
    unfold opHeadB
    cases decide (o.kind < 0) <;> cases decide (3 < o.kind) <;> cases decide (o.atN < 1) <;> cases decide (1000000 < o.atN) <;> cases decide (o.atR < 0) <;> cases decide (8 ≤ o.atR) <;> simp
  rcases hcase with ⟨q1, hd⟩ | ⟨q1, ⟨q2, hd⟩ | ⟨q2, ⟨q3, hd⟩ | ⟨q3, ⟨q4, hd⟩ | ⟨q4, ⟨q5, hd⟩ | ⟨q5, ⟨q6, hd⟩ | ⟨q6, hd⟩⟩⟩⟩⟩⟩
  iterate 6
    · have HE := hide (show opB o = false by unfold opB; rw [if_pos hd])
      clear hd
      go_enter Tryz.func8, Tryz.ntmps8
      go_wp2_with fail
      go_ret
      exact ⟨by rw [unhide HE]; rfl, unhide HA⟩
  go_enter Tryz.func8, Tryz.ntmps8
  go_wp2_with fail
  refine (textS_b _ _ o.text (unhide HT)).mono ?_
  rintro e w1 ⟨rfl, rfl⟩
  cases hx : textB o.text
  · have HE := hide (show opB o = false by unfold opB; rw [if_pos (by rw [hd, hx]; rfl)])
    clear hd hx
    go_wp2_with fail
    go_ret
    exact ⟨by rw [unhide HE]; rfl, unhide HA⟩
  have HD := hide (show opHeadB o = false by rw [hd, hx]; rfl)
  clear hd hx
  cases k0 : (o.kind == 0)
  · cases k1 : (o.kind == 1)
    · have hB : opB o = opRestB o := by unfold opB; rw [unhide HD, k0, k1]; rfl
      go_wp2_with fail
      refine (idS_any _ o.nodeN o.nodeR).mono ?_
      rintro e w1 ⟨rfl, rfl⟩
      have HA1 := hide ((unhide HA).alloc (unhide HA).size (.cells #[.int .i64 o.nodeN, .int .i64 o.nodeR] 25))
      replace hB := hB.trans (show opRestB o = _ by unfold opRestB; rfl)
      cases x1 : idB o.nodeN o.nodeR
      · have HE := hide (show opB o = false by rw [hB, x1]; rfl)
        clear hB x1
        go_wp2_with fail
        go_ret
        exact ⟨by rw [unhide HE]; rfl, unhide HA1⟩
      rw [x1] at hB
      clear x1
      go_wp2_with fail
      refine (zeroS_any _ o.parN o.parR).mono ?_
      rintro e w1 ⟨rfl, rfl⟩
      have HA2 := hide ((unhide HA1).alloc (unhide HA1).size (.cells #[.int .i64 o.parN, .int .i64 o.parR] 25))
      cases x1 : zeroB o.parN o.parR
      · have HE := hide (show opB o = false by rw [hB, x1]; rfl)
        clear hB x1
        go_wp2_with fail
        go_ret
        exact ⟨by rw [unhide HE]; rfl, unhide HA2⟩
      rw [x1] at hB
      clear x1
      by_cases x1 : 0 < nK
      · have e1 : decide (0 < (o.key.length : Int)) = true := by rw [hnK]; simp; omega
        have e2 : decide (0 < nK) = true := by simp; omega
        have HE := hide (show opB o = false by rw [hB, e1]; rfl)
        clear hB e1
        go_wp2_with fail
        go_ret
        exact ⟨by rw [unhide HE]; rfl, unhide HA2⟩
      have e1 : decide (0 < (o.key.length : Int)) = false := by rw [hnK]; simp; omega
      rw [e1] at hB
      have z1 : nK = 0 := by omega
      clear e1 x1
      subst z1
      clear hnK
      cases x2 : (o.elem == 0)
      · have HE := hide (show opB o = false by rw [hB, x2]; rfl)
        clear hB
        go_wp2_with fail
        go_ret
        exact ⟨by rw [unhide HE]; rfl, unhide HA2⟩
      rw [x2] at hB
      cases x3 : (o.kind == 2)
      · rw [x3] at hB
        replace hB : opB o = (nameB o.name && (!o.gone || (o.text.length : Int) == 0)) := hB
        go_wp2_with fail
        have HN2 := hide ((((unhide HN).keep ((Below.refl _ _).alloc (Nat.le_refl _) (.cells #[.int .i64 o.nodeN, .int .i64 o.nodeR] 25)))).keep ((Below.refl _ _).alloc (Nat.le_refl _) (.cells #[.int .i64 o.parN, .int .i64 o.parR] 25)))
        refine (nameS_b _ _ o.name (unhide HN2)).mono ?_
        rintro e w1 ⟨rfl, rfl⟩
        cases x4 : nameB o.name
        · have HE := hide (show opB o = false by rw [hB, x4]; rfl)
          clear hB x4
          go_wp2_with fail
          go_ret
          exact ⟨by rw [unhide HE]; rfl, unhide HA2⟩
        rw [x4, Bool.true_and] at hB
        clear x4
        rcases Bool.eq_false_or_eq_true o.gone with hg | hg
        · rw [hg] at hB HA2
          replace hB : opB o = ((o.text.length : Int) == 0) := hB
          have HE := hide hB
          clear hB
          go_wp2_with fail
          go_ret
          exact ⟨by rw [unhide HE]; rfl, unhide HA2⟩
        · rw [hg] at hB HA2
          replace hB : opB o = true := hB
          have HE := hide hB
          clear hB
          go_wp2_with fail
          go_ret
          exact ⟨by rw [unhide HE]; rfl, unhide HA2⟩
      · rw [x3] at hB
        replace hB : opB o = ((o.name.length : Int) == 0 && !o.gone) := hB
        cases x4 : ((o.name.length : Int) == 0)
        · have HE := hide (show opB o = false by rw [hB, x4]; rfl)
          clear hB
          go_wp2_with fail
          go_ret
          exact ⟨by rw [unhide HE]; rfl, unhide HA2⟩
        rw [x4, Bool.true_and] at hB
        have HE := hide hB
        clear hB
        go_wp2_with fail
        go_ret
        exact ⟨by rw [unhide HE]; rfl, unhide HA2⟩
    · have hB : opB o = opMoveB o := by unfold opB; rw [unhide HD, k0, k1]; rfl
      go_wp2_with fail
      refine (idS_any _ o.nodeN o.nodeR).mono ?_
      rintro e w1 ⟨rfl, rfl⟩
      have HA1 := hide ((unhide HA).alloc (unhide HA).size (.cells #[.int .i64 o.nodeN, .int .i64 o.nodeR] 25))
      cases x1 : idB o.nodeN o.nodeR
      · have HE := hide (show opB o = false by rw [hB]; unfold opMoveB; rw [x1]; rfl)
        clear hB x1
        go_wp2_with fail
        go_ret
        exact ⟨by rw [unhide HE]; rfl, unhide HA1⟩
      replace hB := hB.trans (show opMoveB o = _ by unfold opMoveB; rw [x1, Bool.true_and])
      clear x1
      go_wp2_with fail
      refine (idS_any _ o.parN o.parR).mono ?_
      rintro e w1 ⟨rfl, rfl⟩
      have HA2 := hide ((unhide HA1).alloc (unhide HA1).size (.cells #[.int .i64 o.parN, .int .i64 o.parR] 25))
      cases x1 : idB o.parN o.parR
      · have HE := hide (show opB o = false by rw [hB, x1]; rfl)
        clear hB x1
        go_wp2_with fail
        go_ret
        exact ⟨by rw [unhide HE]; rfl, unhide HA2⟩
      rw [x1, Bool.true_and] at hB
      clear x1
      go_wp2_with fail
      have HK2 := hide ((((unhide HK).keep ((Below.refl _ _).alloc (Nat.le_refl _) (.cells #[.int .i64 o.nodeN, .int .i64 o.nodeR] 25)))).keep ((Below.refl _ _).alloc (Nat.le_refl _) (.cells #[.int .i64 o.parN, .int .i64 o.parR] 25)))
      refine (keyS_b _ _ o.key (unhide HK2)).mono ?_
      rintro e w1 ⟨rfl, rfl⟩
      cases x1 : keyB o.key
      · have HE := hide (show opB o = false by rw [hB, x1]; rfl)
        clear hB x1
        go_wp2_with fail
        go_ret
        exact ⟨by rw [unhide HE]; rfl, unhide HA2⟩
      rw [x1, Bool.true_and] at hB
      clear x1
      cases x1 : (o.elem == 0)
      · have HE := hide (show opB o = false by rw [hB, x1]; rfl)
        clear hB
        go_wp2_with fail
        go_ret
        exact ⟨by rw [unhide HE]; rfl, unhide HA2⟩
      rw [x1, Bool.true_and] at hB
      cases x2 : ((o.name.length : Int) == 0)
      · have HE := hide (show opB o = false by rw [hB, x2]; rfl)
        clear hB
        go_wp2_with fail
        go_ret
        exact ⟨by rw [unhide HE]; rfl, unhide HA2⟩
      rw [x2, Bool.true_and] at hB
      cases x3 : ((o.text.length : Int) == 0)
      · have HE := hide (show opB o = false by rw [hB, x3]; rfl)
        clear hB
        go_wp2_with fail
        go_ret
        exact ⟨by rw [unhide HE]; rfl, unhide HA2⟩
      rw [x3, Bool.true_and] at hB
      have HE := hide hB
      clear hB
      go_wp2_with fail
      go_ret
      exact ⟨by rw [unhide HE]; rfl, unhide HA2⟩
  · have hB : opB o = opNewB o := by unfold opB; rw [unhide HD, k0]; rfl
    replace hB := hB.trans (show opNewB o = _ by unfold opNewB; rfl)
    go_wp2_with fail
    refine (zeroS_any _ o.nodeN o.nodeR).mono ?_
    rintro e w1 ⟨rfl, rfl⟩
    have HA1 := hide ((unhide HA).alloc (unhide HA).size (.cells #[.int .i64 o.nodeN, .int .i64 o.nodeR] 25))
    cases x1 : zeroB o.nodeN o.nodeR
    · have HE := hide (show opB o = false by rw [hB, x1]; rfl)
      clear hB x1
      go_wp2_with fail
      go_ret
      exact ⟨by rw [unhide HE]; rfl, unhide HA1⟩
    rw [x1] at hB
    clear x1
    go_wp2_with fail
    refine (idS_any _ o.parN o.parR).mono ?_
    rintro e w1 ⟨rfl, rfl⟩
    have HA2 := hide ((unhide HA1).alloc (unhide HA1).size (.cells #[.int .i64 o.parN, .int .i64 o.parR] 25))
    cases x1 : idB o.parN o.parR
    · have HE := hide (show opB o = false by rw [hB, x1]; rfl)
      clear hB x1
      go_wp2_with fail
      go_ret
      exact ⟨by rw [unhide HE]; rfl, unhide HA2⟩
    rw [x1] at hB
    clear x1
    go_wp2_with fail
    have HK2 := hide ((((unhide HK).keep ((Below.refl _ _).alloc (Nat.le_refl _) (.cells #[.int .i64 o.nodeN, .int .i64 o.nodeR] 25)))).keep ((Below.refl _ _).alloc (Nat.le_refl _) (.cells #[.int .i64 o.parN, .int .i64 o.parR] 25)))
    refine (keyS_b _ _ o.key (unhide HK2)).mono ?_
    rintro e w1 ⟨rfl, rfl⟩
    cases x1 : keyB o.key
    · have HE := hide (show opB o = false by rw [hB, x1]; rfl)
      clear hB x1
      go_wp2_with fail
      go_ret
      exact ⟨by rw [unhide HE]; rfl, unhide HA2⟩
    rw [x1] at hB
    clear x1
    rcases Bool.eq_false_or_eq_true o.gone with hg | hg
    · have HE := hide (show opB o = false by rw [hB, hg]; rfl)
      clear hB
      rw [hg] at HA2
      go_wp2_with fail
      go_ret
      exact ⟨by rw [unhide HE]; rfl, unhide HA2⟩
    rw [hg] at hB HA2 HN
    rcases Bool.eq_false_or_eq_true (o.elem == 1) with x1 | x1
    · rw [x1] at hB
      replace hB : opB o = ((o.name.length : Int) == 0) := hB
      have HE := hide hB
      clear hB
      go_wp2_with fail
      go_ret
      exact ⟨by rw [unhide HE]; rfl, unhide HA2⟩
    rw [x1] at hB
    replace hB : opB o = (o.elem == 0 && (nameB o.name && (o.text.length : Int) == 0)) := hB
    cases x2 : (o.elem == 0)
    · have HE := hide (show opB o = false by rw [hB, x2]; rfl)
      clear hB
      go_wp2_with fail
      go_ret
      exact ⟨by rw [unhide HE]; rfl, unhide HA2⟩
    rw [x2, Bool.true_and] at hB
    go_wp2_with fail
    have HN2 := hide ((((unhide HN).keep ((Below.refl _ _).alloc (Nat.le_refl _) (.cells #[.int .i64 o.nodeN, .int .i64 o.nodeR] 25)))).keep ((Below.refl _ _).alloc (Nat.le_refl _) (.cells #[.int .i64 o.parN, .int .i64 o.parR] 25)))
    refine (nameS_b _ _ o.name (unhide HN2)).mono ?_
    rintro e w1 ⟨rfl, rfl⟩
    cases x4 : nameB o.name
    · have HE := hide (show opB o = false by rw [hB, x4]; rfl)
      clear hB x4
      go_wp2_with fail
      go_ret
      exact ⟨by rw [unhide HE]; rfl, unhide HA2⟩
    rw [x4, Bool.true_and] at hB
    clear x4
    have HE := hide hB
    clear hB
    go_wp2_with fail
    go_ret
    exact ⟨by rw [unhide HE]; rfl, unhide HA2⟩

end Go.Proofs.YtkmmhlimihkgfaaGreat

/- The laws' own count of how great a row of bytes is, by contracts. -/
namespace Go.Proofs.YtkmmhlimihkgfaaGreat
open Go.RowKit
set_option linter.unusedVariables false

/-- What is left when n are taken: -1 where there aren't so many. -/
def left4 (n : Nat) (left : Int) : Int := if (n : Int) ≤ left then left - n else -1
theorem left4_in {n : Nat} {left : Int} (h : (n : Int) ≤ left) : left4 n left = left - n := if_pos h
theorem left4_out {n : Nat} {left : Int} (h : ¬ (n : Int) ≤ left) : left4 n left = -1 := if_neg h

theorem szB4_any (w : World) (a : Option Addr) (n cap : Nat) (left : Int) (hn : n ≤ maxLen) (h0 : 0 ≤ left) (h1 : left ≤ 1000000000) :
    Calls Tryz.prog 45 #[.slice a n cap, .int .i64 left] w fun e w' => e = .returned (.int .i64 (left4 n left)) ∧ w' = w := by
  unfold maxLen at hn
  by_cases h : (n : Int) ≤ left
  · have HR := hide (left4_in h)
    have hd : ¬ left - (n : Int) < 0 := by omega
    go_enter Tryz.func45, Tryz.ntmps45
    go_wp2
    go_ret
    exact ⟨by rw [unhide HR]; rfl, rfl⟩
  · have HR := hide (left4_out h)
    have hd : left - (n : Int) < 0 := by omega
    go_enter Tryz.func45, Tryz.ntmps45
    go_wp2
    go_ret
    exact ⟨by rw [unhide HR]; rfl, rfl⟩

end Go.Proofs.YtkmmhlimihkgfaaGreat

/- The laws' own count of how great an operation is, by contracts; toId, eqId. -/
namespace Go.Proofs.YtkmmhlimihkgfaaGreat
open Go.RowKit
set_option linter.unusedVariables false

theorem szZ4_any (w : World) (a : Option Addr) (n cap : Nat) (left : Int) (hn : n ≤ maxLen) (h0 : 0 ≤ left) (h1 : left ≤ 1000000000) :
    Calls Tryz.prog 44 #[.slice a n cap, .int .i64 left] w fun e w' => e = .returned (.int .i64 (left4 n left)) ∧ w' = w := by
  unfold maxLen at hn
  by_cases h : (n : Int) ≤ left
  · have HR := hide (left4_in h)
    have hd : ¬ left - (n : Int) < 0 := by omega
    go_enter Tryz.func44, Tryz.ntmps44
    go_wp2
    go_ret
    exact ⟨by rw [unhide HR]; rfl, rfl⟩
  · have HR := hide (left4_out h)
    have hd : left - (n : Int) < 0 := by omega
    go_enter Tryz.func44, Tryz.ntmps44
    go_wp2
    go_ret
    exact ⟨by rw [unhide HR]; rfl, rfl⟩

set_option maxRecDepth 8000 in
set_option maxHeartbeats 1600000 in
theorem szOp_any (w : World) (v : Value) (o : OpV) (left : Int) (h : RdOp w v o) (h0 : 0 ≤ left) (h1 : left ≤ 1000000000) :
    Calls Tryz.prog 13 #[v, .int .i64 left] w fun e w' => e = .returned (.int .i64 (left4 (o.key.length + o.name.length + o.text.length) left)) ∧ Below w.heap.size w w' := by
  obtain ⟨k, n, t, rfl, hk, hn, ht⟩ := h
  have m1 := hk.2.1
  have m2 := hn.2.1
  have m3 := ht.2.1
  obtain ⟨ak, ck, rfl, _, _⟩ := hk.shape
  obtain ⟨an, cn, rfl, _, _⟩ := hn.shape
  obtain ⟨at', ct, rfl, _, _⟩ := ht.shape
  clear hk hn ht
  generalize o.key.length = nK at *
  generalize o.name.length = nN at *
  generalize o.text.length = nT at *
  have HA := hide ((Below.refl w.heap.size w).alloc (Nat.le_refl _) (.cells #[.int .i64 o.kind, .int .i64 o.atN, .int .i64 o.atR, .int .i64 o.nodeN, .int .i64 o.nodeR, .int .i64 o.parN, .int .i64 o.parR, .slice ak nK ck, .int .i64 o.elem, .slice an nN cn, .slice at' nT ct, .bool o.gone] 41))
  unfold opVal
  go_enter Tryz.func13, Tryz.ntmps13
  go_wp2_with fail
  refine (szZ4_any _ _ _ _ left m1 h0 h1).mono ?_
  rintro e w1 ⟨rfl, rfl⟩
  by_cases h2 : (nK : Int) ≤ left
  · rw [left4_in h2]
    have hd : ¬ left - (nK : Int) < 0 := by omega
    go_wp2_with fail
    refine (szB4_any _ _ _ _ (left - (nK : Int)) m2 (by omega) (by omega)).mono ?_
    rintro e w2 ⟨rfl, rfl⟩
    by_cases h3 : (nN : Int) ≤ left - (nK : Int)
    · rw [left4_in h3]
      have hd2 : ¬ left - (nK : Int) - (nN : Int) < 0 := by omega
      go_wp2_with fail
      refine (szB4_any _ _ _ _ (left - (nK : Int) - (nN : Int)) m3 (by omega) (by omega)).mono ?_
      rintro e w2 ⟨rfl, rfl⟩
      by_cases h4 : (nT : Int) ≤ left - (nK : Int) - (nN : Int)
      · rw [left4_in h4]
        have HR := hide (show left4 (nK + nN + nT) left = left - (nK : Int) - (nN : Int) - (nT : Int) by rw [left4_in (by omega)]; omega)
        have hd3 : ¬ left - (nK : Int) - (nN : Int) - (nT : Int) < 0 := by omega
        go_wp2_with fail
        go_ret
        exact ⟨by rw [unhide HR]; rfl, unhide HA⟩
      · rw [left4_out h4]
        have HR := hide (show left4 (nK + nN + nT) left = -1 by rw [left4_out (by omega)])
        go_wp2_with fail
        go_ret
        exact ⟨by rw [unhide HR]; rfl, unhide HA⟩
    · rw [left4_out h3]
      have HR := hide (show left4 (nK + nN + nT) left = -1 by rw [left4_out (by omega)])
      go_wp2_with fail
      go_ret
      exact ⟨by rw [unhide HR]; rfl, unhide HA⟩
  · rw [left4_out h2]
    have HR := hide (show left4 (nK + nN + nT) left = -1 by rw [left4_out (by omega)])
    go_wp2_with fail
    go_ret
    exact ⟨by rw [unhide HR]; rfl, unhide HA⟩

end Go.Proofs.YtkmmhlimihkgfaaGreat

/- laws.toId and laws.eqId, by contracts. -/
namespace Go.Proofs.YtkmmhlimihkgfaaGreat
open Go.RowKit
set_option linter.unusedVariables false

def idEqB (n r n' r' : Int) : Bool := n == n' && r == r'
theorem idEqB_iff (n r n' r' : Int) : idEqB n r n' r' = true ↔ n = n' ∧ r = r' := by simp [idEqB]

set_option maxHeartbeats 1600000 in
theorem eqId_any (w : World) (n r n' r' : Int) :
    Calls Tryz.prog 51 #[.agg #[.int .i64 n, .int .i64 r], .agg #[.int .i64 n', .int .i64 r']] w fun e w' => e = .returned (.bool (idEqB n r n' r')) ∧ Below w.heap.size w w' := by
  have HB := hide (((Below.refl w.heap.size w).alloc (Nat.le_refl _) (.cells #[.int .i64 n, .int .i64 r] 25)).alloc (by simp) (.cells #[.int .i64 n', .int .i64 r'] 25))
  by_cases h1 : n = n'
  · subst h1
    by_cases h2 : r = r'
    · subst h2
      go_enter Tryz.func51, Tryz.ntmps51
      go_wp2
      go_ret
      exact ⟨by simp [idEqB], unhide HB⟩
    · have HE := hide (show idEqB n r n r' = false by simp [idEqB, h2])
      have q : (r == r') = false := by simpa using h2
      go_enter Tryz.func51, Tryz.ntmps51
      go_wp2
      go_ret
      exact ⟨by rw [unhide HE]; rfl, unhide HB⟩
  · have HE := hide (show idEqB n r n' r' = false by simp [idEqB, h1])
    have q : (n == n') = false := by simpa using h1
    go_enter Tryz.func51, Tryz.ntmps51
    go_wp2
    go_ret
    exact ⟨by rw [unhide HE]; rfl, unhide HB⟩

set_option maxHeartbeats 1600000 in
theorem toId_any (w : World) (n r : Int) :
    Calls Tryz.prog 48 #[.agg #[.int .i64 n, .int .i64 r]] w fun e w' => e = .returned (.agg #[.int .i64 n, .int .i64 r]) ∧ Below w.heap.size w w' := by
  have HB := hide ((((Below.refl w.heap.size w).alloc (Nat.le_refl _) (.cells #[.int .i64 n, .int .i64 r] 39)).alloc (by simp) (.cells #[.int .i64 n, .int .i64 r] 25)).alloc (by simp; omega) (.cells #[.int .i64 n, .int .i64 r] 25))
  go_enter Tryz.func48, Tryz.ntmps48
  go_wp2
  refine bodyPost_ret (v := .agg #[.int .i64 n, .int .i64 r]) (by simp [results, Tryz.results48, go_sem]) rfl ⟨rfl, ?_⟩
  exact unhide HB

end Go.Proofs.YtkmmhlimihkgfaaGreat

/- laws.toId and laws.eqId: their texts lie in EqI. -/

/- The law's own helper that holds two rows of bytes against each other, by its contract. -/
namespace Go.Proofs.YtkmmhlimihkgfaaGreat
open Go.RowKit
set_option linter.unusedVariables false

theorem take_eq_step {a b : List Int} {k : Nat} (h : a.take k = b.take k) (ha : k < a.length) (hb : k < b.length) (e : a[k] = b[k]) : a.take (k + 1) = b.take (k + 1) := by
  rw [List.take_succ_eq_append_getElem ha, List.take_succ_eq_append_getElem hb, h, e]
theorem decide_ne {a b : List Int} {k : Nat} (ha : k < a.length) (hb : k < b.length) (e : a[k] ≠ b[k]) : decide (a = b) = false := by
  simp only [decide_eq_false_iff_not]
  intro h; subst h; exact e rfl

set_option maxHeartbeats 1600000 in
set_option maxRecDepth 1000000 in
theorem eqB_any (w : World) (u v : Value) (a b : List Int) (hu : Byt w u a) (hv : Byt w v b) :
    Calls Tryz.prog 53 #[u, v] w fun e w' => e = .returned (.bool (decide (a = b))) ∧ Below w.heap.size w w' := by
  have hma := hu.2.1
  have hmb := hv.2.1
  unfold maxLen at hma hmb
  by_cases hl : a.length = b.length
  · by_cases h0 : a.length = 0
    · have ha : a = [] := List.eq_nil_of_length_eq_zero h0
      have hb : b = [] := List.eq_nil_of_length_eq_zero (by omega)
      subst ha hb
      obtain ⟨a1, c1, rfl, _⟩ := hu.shape
      obtain ⟨a2, c2, rfl, _⟩ := hv.shape
      go_enter Tryz.func53, Tryz.ntmps53
      go_wp2
      refine wp_loop_rounds 1 ?_
      rw [rounds_succ]
      go_wp2
      go_ret
      exact ⟨rfl, Below.refl _ _⟩
    · obtain ⟨hoka, _, ⟨rfl, rfl⟩ | ⟨x, cap, rfl, hc, rfl⟩ | ⟨p, off, cap, rfl, h1, h2, h3, h4, h5⟩⟩ := hu
      · simp at h0
      · simp at h0
      obtain ⟨hokb, _, ⟨rfl, rfl⟩ | ⟨x, cap, rfl, hc, rfl⟩ | ⟨q, off', cap', rfl, g1, g2, g3, g4, g5⟩⟩ := hv
      · simp at hl; simp [hl] at h0
      · simp at hl; simp [hl] at h0
      generalize hA : a.length = n at *
      have HL := hide hl
      clear hl
      rw [← unhide HL]
      go_enter Tryz.func53, Tryz.ntmps53
      go_wp2
      go_loopw [5] (fun i wr => ∃ k : Nat, k ≤ n ∧ i = .int .i64 k ∧ Hid (a.take k = b.take k) ∧ Below w.heap.size w wr) (fun i _ => n - (intOf i).toNat)
      case atStart => exact ⟨0, Nat.zero_le _, rfl, hide rfl, Below.refl _ _⟩
      case round =>
        obtain ⟨k, hk, rfl, ht, hB⟩ := hrel
        by_cases hlt : k < n
        · obtain ⟨x, hx⟩ : ∃ x, x = a.getD k 0 := ⟨_, rfl⟩
          obtain ⟨y, hy⟩ : ∃ y, y = b.getD k 0 := ⟨_, rfl⟩
          have c1 : wr.cell? ⟨p, off + k, none⟩ = some (.int .u8 x) := by rw [hx]; exact (hB.cell (p := ⟨p, off + k, none⟩) h4).trans (h5 k hlt)
          have c2 : wr.cell? ⟨q, off' + k, none⟩ = some (.int .u8 y) := by rw [hy]; exact (hB.cell (p := ⟨q, off' + k, none⟩) g4).trans (g5 k (by have := unhide HL; omega))
          have hka : k < a.length := by omega
          have hkb : k < b.length := by have := unhide HL; omega
          rw [getD_at hka] at hx
          rw [getD_at hkb] at hy
          have HX := hide hx
          have HY := hide hy
          have hlt' : (k : Int) < (n : Int) := by omega
          clear hx hy h5 g5
          by_cases hxy : x = y
          · have hne : (x != y) = false := by simp [hxy]
            clear hxy
            go_wp2
            go_quiet (fail)
            go_wp2
            go_roundw
            case rel => exact ⟨k + 1, by omega, by go_num, hide (take_eq_step (unhide ht) hka hkb (by rw [← unhide HX, ← unhide HY]; simpa using hne)), below_drewN hB _⟩
            case measure => simp [intOf]; omega
          · have hne : (x != y) = true := by simp [hxy]
            have hd : decide (a = b) = false := decide_ne hka hkb (by rw [← unhide HX, ← unhide HY]; exact hxy)
            have HD := hide hd
            clear hxy hd
            go_wp2
            go_quiet (fail)
            go_wp2
            go_ret
            exact ⟨by rw [unhide HD]; rfl, below_drewN hB _⟩
        · have e : k = n := by omega
          have hd : decide (a = b) = true := by
            have h := unhide ht
            rw [List.take_of_length_le (by omega), List.take_of_length_le (by have := unhide HL; omega)] at h
            simpa using h
          have HD := hide hd
          clear hd ht
          subst e
          go_wp2
          go_ret
          exact ⟨by rw [unhide HD]; rfl, hB⟩
  · have hd : decide (a = b) = false := by
      simp only [decide_eq_false_iff_not]
      intro h; subst h; exact hl rfl
    have hne : ((a.length : Int) != (b.length : Int)) = true := by simp; omega
    have HD := hide hd
    clear hd
    obtain ⟨a1, c1, rfl, _⟩ := hu.shape
    obtain ⟨a2, c2, rfl, _⟩ := hv.shape
    go_enter Tryz.func53, Tryz.ntmps53
    go_wp2
    go_ret
    exact ⟨by rw [unhide HD]; rfl, Below.refl _ _⟩
end Go.Proofs.YtkmmhlimihkgfaaGreat

/- The law's own helper that holds two rows of bytes against each other, by its contract. -/
namespace Go.Proofs.YtkmmhlimihkgfaaGreat
open Go.RowKit
set_option linter.unusedVariables false

set_option maxHeartbeats 1600000 in
set_option maxRecDepth 1000000 in
theorem eqZ_any (w : World) (u v : Value) (a b : List Int) (hu : Ints w u a) (hv : Ints w v b) :
    Calls Tryz.prog 52 #[u, v] w fun e w' => e = .returned (.bool (decide (a = b))) ∧ Below w.heap.size w w' := by
  have hma := hu.2.1
  have hmb := hv.2.1
  unfold maxLen at hma hmb
  by_cases hl : a.length = b.length
  · by_cases h0 : a.length = 0
    · have ha : a = [] := List.eq_nil_of_length_eq_zero h0
      have hb : b = [] := List.eq_nil_of_length_eq_zero (by omega)
      subst ha hb
      obtain ⟨a1, c1, rfl, _⟩ := hu.shape
      obtain ⟨a2, c2, rfl, _⟩ := hv.shape
      go_enter Tryz.func52, Tryz.ntmps52
      go_wp2
      refine wp_loop_rounds 1 ?_
      rw [rounds_succ]
      go_wp2
      go_ret
      exact ⟨rfl, Below.refl _ _⟩
    · obtain ⟨hoka, _, ⟨rfl, rfl⟩ | ⟨x, cap, rfl, hc, rfl⟩ | ⟨p, off, cap, rfl, h1, h2, h3, h4, h5⟩⟩ := hu
      · simp at h0
      · simp at h0
      obtain ⟨hokb, _, ⟨rfl, rfl⟩ | ⟨x, cap, rfl, hc, rfl⟩ | ⟨q, off', cap', rfl, g1, g2, g3, g4, g5⟩⟩ := hv
      · simp at hl; simp [hl] at h0
      · simp at hl; simp [hl] at h0
      generalize hA : a.length = n at *
      have HL := hide hl
      clear hl
      rw [← unhide HL]
      go_enter Tryz.func52, Tryz.ntmps52
      go_wp2
      go_loopw [5] (fun i wr => ∃ k : Nat, k ≤ n ∧ i = .int .i64 k ∧ Hid (a.take k = b.take k) ∧ Below w.heap.size w wr) (fun i _ => n - (intOf i).toNat)
      case atStart => exact ⟨0, Nat.zero_le _, rfl, hide rfl, Below.refl _ _⟩
      case round =>
        obtain ⟨k, hk, rfl, ht, hB⟩ := hrel
        by_cases hlt : k < n
        · obtain ⟨x, hx⟩ : ∃ x, x = a.getD k 0 := ⟨_, rfl⟩
          obtain ⟨y, hy⟩ : ∃ y, y = b.getD k 0 := ⟨_, rfl⟩
          have c1 : wr.cell? ⟨p, off + k, none⟩ = some (.int .i64 x) := by rw [hx]; exact (hB.cell (p := ⟨p, off + k, none⟩) h4).trans (h5 k hlt)
          have c2 : wr.cell? ⟨q, off' + k, none⟩ = some (.int .i64 y) := by rw [hy]; exact (hB.cell (p := ⟨q, off' + k, none⟩) g4).trans (g5 k (by have := unhide HL; omega))
          have hka : k < a.length := by omega
          have hkb : k < b.length := by have := unhide HL; omega
          rw [getD_at hka] at hx
          rw [getD_at hkb] at hy
          have HX := hide hx
          have HY := hide hy
          have hlt' : (k : Int) < (n : Int) := by omega
          clear hx hy h5 g5
          by_cases hxy : x = y
          · have hne : (x != y) = false := by simp [hxy]
            clear hxy
            go_wp2
            go_quiet (fail)
            go_wp2
            go_roundw
            case rel => exact ⟨k + 1, by omega, by go_num, hide (take_eq_step (unhide ht) hka hkb (by rw [← unhide HX, ← unhide HY]; simpa using hne)), below_drewN hB _⟩
            case measure => simp [intOf]; omega
          · have hne : (x != y) = true := by simp [hxy]
            have hd : decide (a = b) = false := decide_ne hka hkb (by rw [← unhide HX, ← unhide HY]; exact hxy)
            have HD := hide hd
            clear hxy hd
            go_wp2
            go_quiet (fail)
            go_wp2
            go_ret
            exact ⟨by rw [unhide HD]; rfl, below_drewN hB _⟩
        · have e : k = n := by omega
          have hd : decide (a = b) = true := by
            have h := unhide ht
            rw [List.take_of_length_le (by omega), List.take_of_length_le (by have := unhide HL; omega)] at h
            simpa using h
          have HD := hide hd
          clear hd ht
          subst e
          go_wp2
          go_ret
          exact ⟨by rw [unhide HD]; rfl, hB⟩
  · have hd : decide (a = b) = false := by
      simp only [decide_eq_false_iff_not]
      intro h; subst h; exact hl rfl
    have hne : ((a.length : Int) != (b.length : Int)) = true := by simp; omega
    have HD := hide hd
    clear hd
    obtain ⟨a1, c1, rfl, _⟩ := hu.shape
    obtain ⟨a2, c2, rfl, _⟩ := hv.shape
    go_enter Tryz.func52, Tryz.ntmps52
    go_wp2
    go_ret
    exact ⟨by rw [unhide HD]; rfl, Below.refl _ _⟩
end Go.Proofs.YtkmmhlimihkgfaaGreat

/- laws.eqByteS, laws.eqId of two that read the same. -/
namespace Go.Proofs.YtkmmhlimihkgfaaGreat
open Go.RowKit
set_option linter.unusedVariables false
set_option maxRecDepth 100000

theorem eqB4_true (w : World) (u v : Value) (a : List Int) (hu : Byt w u a) (hv : Byt w v a) : Calls Tryz.prog 53 #[u, v] w fun e w' => e = .returned (.bool true) ∧ Below w.heap.size w w' := by
  refine (eqB_any w u v a a hu hv).mono ?_
  rintro e w' ⟨rfl, h⟩
  exact ⟨by simp, h⟩
theorem eqId_true (w : World) (n r : Int) : Calls Tryz.prog 51 #[.agg #[.int .i64 n, .int .i64 r], .agg #[.int .i64 n, .int .i64 r]] w fun e w' => e = .returned (.bool true) ∧ Below w.heap.size w w' := by
  refine (eqId_any w n r n r).mono ?_
  rintro e w' ⟨rfl, h⟩
  exact ⟨by simp [idEqB], h⟩

end Go.Proofs.YtkmmhlimihkgfaaGreat

/- laws.eqOp of two operations that read the same. -/
namespace Go.Proofs.YtkmmhlimihkgfaaGreat
open Go.RowKit
set_option linter.unusedVariables false
set_option maxRecDepth 100000

theorem eqZ4_true (w : World) (u v : Value) (a : List Int) (hu : Ints w u a) (hv : Ints w v a) : Calls Tryz.prog 52 #[u, v] w fun e w' => e = .returned (.bool true) ∧ Below w.heap.size w w' := by
  refine (eqZ_any w u v a a hu hv).mono ?_
  rintro e w' ⟨rfl, h⟩
  exact ⟨by simp, h⟩
set_option maxHeartbeats 3200000 in
theorem eqOp_same (w : World) (u v : Value) (o : OpV) (hu : RdOp w u o) (hv : RdOp w v o) :
    Calls Tryz.prog 18 #[u, v] w fun e w' => e = .returned (.bool true) ∧ Below w.heap.size w w' := by
  obtain ⟨k1, n1, t1, rfl, hk1, hn1, ht1⟩ := hu
  obtain ⟨k2, n2, t2, rfl, hk2, hn2, ht2⟩ := hv
  obtain ⟨ak1, ck1, rfl, _, _⟩ := hk1.shape
  obtain ⟨an1, cn1, rfl, _, _⟩ := hn1.shape
  obtain ⟨at1, ct1, rfl, _, _⟩ := ht1.shape
  obtain ⟨ak2, ck2, rfl, _, _⟩ := hk2.shape
  obtain ⟨an2, cn2, rfl, _, _⟩ := hn2.shape
  obtain ⟨at2, ct2, rfl, _, _⟩ := ht2.shape
  have H := hide (And.intro hk1 (And.intro hn1 (And.intro ht1 (And.intro hk2 (And.intro hn2 ht2)))))
  clear hk1 hn1 ht1 hk2 hn2 ht2
  unfold opVal
  have hA : Below w.heap.size w ((w.alloc (.cells #[.int .i64 o.kind, .int .i64 o.atN, .int .i64 o.atR, .int .i64 o.nodeN, .int .i64 o.nodeR, .int .i64 o.parN, .int .i64 o.parR, .slice ak1 o.key.length ck1, .int .i64 o.elem, .slice an1 o.name.length cn1, .slice at1 o.text.length ct1, .bool o.gone] 28)).alloc (.cells #[.int .i64 o.kind, .int .i64 o.atN, .int .i64 o.atR, .int .i64 o.nodeN, .int .i64 o.nodeR, .int .i64 o.parN, .int .i64 o.parR, .slice ak2 o.key.length ck2, .int .i64 o.elem, .slice an2 o.name.length cn2, .slice at2 o.text.length ct2, .bool o.gone] 28)) := ((Below.refl _ _).alloc (Nat.le_refl _) _).alloc (by simp) _
  go_enter Tryz.func18, Tryz.ntmps18
  go_wp2_with fail
  generalize hW : ((w.alloc (.cells #[.int .i64 o.kind, .int .i64 o.atN, .int .i64 o.atR, .int .i64 o.nodeN, .int .i64 o.nodeR, .int .i64 o.parN, .int .i64 o.parR, .slice ak1 o.key.length ck1, .int .i64 o.elem, .slice an1 o.name.length cn1, .slice at1 o.text.length ct1, .bool o.gone] 28)).alloc (.cells #[.int .i64 o.kind, .int .i64 o.atN, .int .i64 o.atR, .int .i64 o.nodeN, .int .i64 o.nodeR, .int .i64 o.parN, .int .i64 o.parR, .slice ak2 o.key.length ck2, .int .i64 o.elem, .slice an2 o.name.length cn2, .slice at2 o.text.length ct2, .bool o.gone] 28)) = W at *
  have HW := hide hW
  clear hW
  refine (eqId_true _ o.atN o.atR).mono ?_
  rintro e w1 ⟨rfl, hB1⟩
  have c11_3 := cell_later hB1 (show W.cell? ⟨w.heap.size, 3, none⟩ = some (.int .i64 o.nodeN) by rw [← unhide HW]; simp)
  have c11_4 := cell_later hB1 (show W.cell? ⟨w.heap.size, 4, none⟩ = some (.int .i64 o.nodeR) by rw [← unhide HW]; simp)
  have c11_5 := cell_later hB1 (show W.cell? ⟨w.heap.size, 5, none⟩ = some (.int .i64 o.parN) by rw [← unhide HW]; simp)
  have c11_6 := cell_later hB1 (show W.cell? ⟨w.heap.size, 6, none⟩ = some (.int .i64 o.parR) by rw [← unhide HW]; simp)
  have c11_7 := cell_later hB1 (show W.cell? ⟨w.heap.size, 7, none⟩ = some (.slice ak1 o.key.length ck1) by rw [← unhide HW]; simp)
  have c11_8 := cell_later hB1 (show W.cell? ⟨w.heap.size, 8, none⟩ = some (.int .i64 o.elem) by rw [← unhide HW]; simp)
  have c11_9 := cell_later hB1 (show W.cell? ⟨w.heap.size, 9, none⟩ = some (.slice an1 o.name.length cn1) by rw [← unhide HW]; simp)
  have c11_10 := cell_later hB1 (show W.cell? ⟨w.heap.size, 10, none⟩ = some (.slice at1 o.text.length ct1) by rw [← unhide HW]; simp)
  have c11_11 := cell_later hB1 (show W.cell? ⟨w.heap.size, 11, none⟩ = some (.bool o.gone) by rw [← unhide HW]; simp)
  have c12_3 := cell_later hB1 (show W.cell? ⟨w.heap.size + 1, 3, none⟩ = some (.int .i64 o.nodeN) by rw [← unhide HW]; simp)
  have c12_4 := cell_later hB1 (show W.cell? ⟨w.heap.size + 1, 4, none⟩ = some (.int .i64 o.nodeR) by rw [← unhide HW]; simp)
  have c12_5 := cell_later hB1 (show W.cell? ⟨w.heap.size + 1, 5, none⟩ = some (.int .i64 o.parN) by rw [← unhide HW]; simp)
  have c12_6 := cell_later hB1 (show W.cell? ⟨w.heap.size + 1, 6, none⟩ = some (.int .i64 o.parR) by rw [← unhide HW]; simp)
  have c12_7 := cell_later hB1 (show W.cell? ⟨w.heap.size + 1, 7, none⟩ = some (.slice ak2 o.key.length ck2) by rw [← unhide HW]; simp)
  have c12_8 := cell_later hB1 (show W.cell? ⟨w.heap.size + 1, 8, none⟩ = some (.int .i64 o.elem) by rw [← unhide HW]; simp)
  have c12_9 := cell_later hB1 (show W.cell? ⟨w.heap.size + 1, 9, none⟩ = some (.slice an2 o.name.length cn2) by rw [← unhide HW]; simp)
  have c12_10 := cell_later hB1 (show W.cell? ⟨w.heap.size + 1, 10, none⟩ = some (.slice at2 o.text.length ct2) by rw [← unhide HW]; simp)
  have c12_11 := cell_later hB1 (show W.cell? ⟨w.heap.size + 1, 11, none⟩ = some (.bool o.gone) by rw [← unhide HW]; simp)
  replace hA := bstep hA hB1
  clear hB1 HW
  go_wp2_with fail
  refine (eqId_true _ o.nodeN o.nodeR).mono ?_
  rintro e w2 ⟨rfl, hB2⟩
  have c21_5 := cell_later hB2 c11_5
  have c21_6 := cell_later hB2 c11_6
  have c21_7 := cell_later hB2 c11_7
  have c21_8 := cell_later hB2 c11_8
  have c21_9 := cell_later hB2 c11_9
  have c21_10 := cell_later hB2 c11_10
  have c21_11 := cell_later hB2 c11_11
  have c22_5 := cell_later hB2 c12_5
  have c22_6 := cell_later hB2 c12_6
  have c22_7 := cell_later hB2 c12_7
  have c22_8 := cell_later hB2 c12_8
  have c22_9 := cell_later hB2 c12_9
  have c22_10 := cell_later hB2 c12_10
  have c22_11 := cell_later hB2 c12_11
  replace hA := bstep hA hB2
  clear c11_3 c11_4 c11_5 c11_6 c11_7 c11_8 c11_9 c11_10 c11_11 c12_3 c12_4 c12_5 c12_6 c12_7 c12_8 c12_9 c12_10 c12_11
  clear hB2
  go_wp2_with fail
  refine (eqId_true _ o.parN o.parR).mono ?_
  rintro e w3 ⟨rfl, hB3⟩
  have c31_7 := cell_later hB3 c21_7
  have c31_8 := cell_later hB3 c21_8
  have c31_9 := cell_later hB3 c21_9
  have c31_10 := cell_later hB3 c21_10
  have c31_11 := cell_later hB3 c21_11
  have c32_7 := cell_later hB3 c22_7
  have c32_8 := cell_later hB3 c22_8
  have c32_9 := cell_later hB3 c22_9
  have c32_10 := cell_later hB3 c22_10
  have c32_11 := cell_later hB3 c22_11
  replace hA := bstep hA hB3
  clear c21_5 c21_6 c21_7 c21_8 c21_9 c21_10 c21_11 c22_5 c22_6 c22_7 c22_8 c22_9 c22_10 c22_11
  clear hB3
  go_wp2_with fail
  refine (eqZ4_true _ _ _ o.key ((unhide H).1.keep hA) ((unhide H).2.2.2.1.keep hA)).mono ?_
  rintro e w4 ⟨rfl, hB4⟩
  have c41_8 := cell_later hB4 c31_8
  have c41_9 := cell_later hB4 c31_9
  have c41_10 := cell_later hB4 c31_10
  have c41_11 := cell_later hB4 c31_11
  have c42_8 := cell_later hB4 c32_8
  have c42_9 := cell_later hB4 c32_9
  have c42_10 := cell_later hB4 c32_10
  have c42_11 := cell_later hB4 c32_11
  replace hA := bstep hA hB4
  clear c31_7 c31_8 c31_9 c31_10 c31_11 c32_7 c32_8 c32_9 c32_10 c32_11
  clear hB4
  go_wp2_with fail
  refine (eqB4_true _ _ _ o.name ((unhide H).2.1.keep hA) ((unhide H).2.2.2.2.1.keep hA)).mono ?_
  rintro e w5 ⟨rfl, hB5⟩
  have c51_10 := cell_later hB5 c41_10
  have c51_11 := cell_later hB5 c41_11
  have c52_10 := cell_later hB5 c42_10
  have c52_11 := cell_later hB5 c42_11
  replace hA := bstep hA hB5
  clear c41_8 c41_9 c41_10 c41_11 c42_8 c42_9 c42_10 c42_11
  clear hB5
  go_wp2_with fail
  refine (eqB4_true _ _ _ o.text ((unhide H).2.2.1.keep hA) ((unhide H).2.2.2.2.2.keep hA)).mono ?_
  rintro e w6 ⟨rfl, hB6⟩
  have c61_11 := cell_later hB6 c51_11
  have c62_11 := cell_later hB6 c52_11
  replace hA := bstep hA hB6
  clear c51_10 c51_11 c52_10 c52_11
  clear hB6
  go_wp2_with fail
  go_ret
  exact ⟨rfl, hA⟩

end Go.Proofs.YtkmmhlimihkgfaaGreat
