/- Own texts joined: Base, To, App, Tree, LocB, OwnT, Sz, ToT, FrpT, SayS, AppR, NameS, Str, AttrS, NodeS, Tool, MkupS, AppAt, OwX, SayX. -/
import Derived.WalkKit
import Derived.OpenShut
import Derived.WalkSpells
import Derived.WalkSmall
import Derived.Laws.AppendOwnNone
import Derived.Laws.CopyOwn
import Derived.Test.YtaoodcielfabdaaGreatChecked
import Derived.Lib.AppendStr
import Derived.Deep.RegionLaw
import Derived.Deep.RegionHeld3
import Derived.WalkLawsBesides
import Derived.Deep.QuietTactic
import Derived.BigQuiet
import Derived.Maps.AppendAt

/- Rows of bytes in memory, as the contracts of this seat speak of them: what may be read, what is owned, what other blocks keep. No condition. -/
namespace Go.Proofs.YtaoodcielfabdaaGreat
open Go.RowKit
set_option linter.unusedVariables false

theorem hide {p : Prop} (h : p) : Hid p := h
theorem unhide {p : Prop} (h : Hid p) : p := h

/-- Each number is a byte. -/
def okB (l : List Int) : Prop := ∀ x ∈ l, 0 ≤ x ∧ x ≤ 255

/-- The cells of a row of bytes. -/
def vals (l : List Int) : List Value := l.map (Value.int .u8)

/-- The value v is a slice whose elements can be read in w: the bytes l. -/
def Byt (w : World) (v : Value) (l : List Int) : Prop :=
  okB l ∧ l.length ≤ maxLen ∧
  ((v = .slice none 0 0 ∧ l = []) ∨
   (∃ x cap, v = .slice (some x) 0 cap ∧ cap ≤ maxLen ∧ l = []) ∨
   (∃ b off cap, v = .slice (some ⟨b, off, none⟩) l.length cap ∧ l.length ≤ cap ∧ cap ≤ maxLen ∧ l ≠ [] ∧ b < w.heap.size ∧
      ∀ i, i < l.length → w.cell? ⟨b, off + i, none⟩ = some (.int .u8 (l.getD i 0))))

/-- The value v is a slice at the head of a block of the call's own, from 'base' on: the bytes l. -/
def Own (w : World) (base : Nat) (v : Value) (l : List Int) : Prop := okB l ∧ w.ownsRow base 5 1 v l.length (vals l)

theorem getD_at {l : List Int} {k : Nat} (h : k < l.length) : l.getD k 0 = l[k] := by simp [h]
theorem okB_nil : okB [] := fun _ h => by cases h
theorem okB.app {a b : List Int} (h : okB a) (k : okB b) : okB (a ++ b) := fun x hx => by
  rcases List.mem_append.1 hx with h' | h'
  · exact h x h'
  · exact k x h'
theorem okB.take {a : List Int} (h : okB a) (n : Nat) : okB (a.take n) := fun x hx => h x (List.mem_of_mem_take hx)
theorem okB.drop {a : List Int} (h : okB a) (n : Nat) : okB (a.drop n) := fun x hx => h x (List.mem_of_mem_drop hx)
theorem okB.at {a : List Int} (h : okB a) (i : Nat) : 0 ≤ a[i]?.getD 0 ∧ a[i]?.getD 0 ≤ 255 := by
  by_cases hi : i < a.length
  · rw [List.getElem?_eq_getElem hi]; exact h _ (List.getElem_mem hi)
  · rw [List.getElem?_eq_none (by omega)]; decide
theorem okB.one {x : Int} (h0 : 0 ≤ x) (h1 : x ≤ 255) : okB [x] := fun y hy => by simp at hy; subst hy; exact ⟨h0, h1⟩

theorem vals_len (l : List Int) : (vals l).length = l.length := by simp [vals]
theorem vals_app (a b : List Int) : vals (a ++ b) = vals a ++ vals b := by simp [vals]
theorem vals_one (l : List Int) : ∀ u ∈ vals l, u.oneCell' = true := ints_oneCell _ _
theorem vals_at {l : List Int} {i : Nat} (h : i < l.length) : (vals l)[i]? = some (.int .u8 (l.getD i 0)) := by simp [vals, h]

/-- What is owned lies in a block between 'base' and the heap's end. -/
theorem Own.lt {w : World} {base : Nat} {v : Value} {l : List Int} (h : Own w base v l) : ∀ k, v.ownBlock = some k → base ≤ k ∧ k < w.heap.size := h.2.lt

theorem Own.mono {w : World} {base base' : Nat} {v : Value} {l : List Int} (h : Own w base v l) (hb : base' ≤ base) : Own w base' v l := by
  refine ⟨h.1, h.2.1, ?_⟩
  rcases h.2.2 with h' | ⟨g, cap, cur, h1, h2, h3⟩
  · exact .inl h'
  · exact .inr ⟨g, cap, cur, h1, by omega, h3⟩

/-- What is owned can be read. -/
theorem Own.byt {w : World} {base : Nat} {v : Value} {l : List Int} (h : Own w base v l) : Byt w v l := by
  obtain ⟨hok, hlen, hrow⟩ := h
  have hl := hlen
  rcases hrow with ⟨rfl, h0⟩ | ⟨g, cap, cur, rfl, hb, hg, hnc, hcm, hcs, htake⟩
  · exact ⟨hok, by omega, .inl ⟨rfl, List.eq_nil_of_length_eq_zero h0⟩⟩
  · refine ⟨hok, by omega, .inr ?_⟩
    by_cases h0 : l = []
    · subst h0; exact .inl ⟨_, cap, rfl, hcm, rfl⟩
    · refine .inr ⟨g, 0, cap, rfl, hnc, hcm, h0, ?_, fun i hi => ?_⟩
      · by_cases hlt : g < w.heap.size
        · exact hlt
        · rw [Array.getElem?_eq_none (by omega)] at hg; cases hg
      · have := World.ownsRow.cellAt (w := w) (base := base) (e := 5) (size := 1) (g := g) (n := l.length) (cap := cap) (xs := vals l) ⟨hlen, .inr ⟨g, cap, cur, rfl, hb, hg, hnc, hcm, hcs, htake⟩⟩ i (by omega)
        rw [vals_at hi] at this
        simpa using this

/-- The length that a readable value bears. -/
theorem Byt.shape {w : World} {v : Value} {l : List Int} (h : Byt w v l) : ∃ a cap, v = .slice a l.length cap ∧ l.length ≤ cap ∧ cap ≤ maxLen := by
  obtain ⟨_, hm, ⟨rfl, rfl⟩ | ⟨x, cap, rfl, hc, rfl⟩ | ⟨b, off, cap, rfl, h1, h2, _⟩⟩ := h
  · exact ⟨none, 0, rfl, Nat.le_refl _, hm⟩
  · exact ⟨some x, cap, rfl, Nat.zero_le _, hc⟩
  · exact ⟨_, cap, rfl, h1, h2⟩

/-- A world in which all blocks that were there stand as they stood. -/
theorem Byt.keep {w w' : World} {v : Value} {l : List Int} (h : Byt w v l) (hb : Below w.heap.size w w') : Byt w' v l := by
  obtain ⟨hok, hm, h1 | h2 | ⟨b, off, cap, rfl, h1, h2, h3, h4, h5⟩⟩ := h
  · exact ⟨hok, hm, .inl h1⟩
  · exact ⟨hok, hm, .inr (.inl h2)⟩
  · exact ⟨hok, hm, .inr (.inr ⟨b, off, cap, rfl, h1, h2, h3, Nat.lt_of_lt_of_le h4 hb.size, fun i hi => by rw [hb.cell (p := ⟨b, off + i, none⟩) h4]; exact h5 i hi⟩)⟩

theorem Own.keep {w w' : World} {base : Nat} {v : Value} {l : List Int} (h : Own w base v l) (hb : Below w.heap.size w w') : Own w' base v l :=
  ⟨h.1, h.2.kept (row := none) ⟨hb.os, hb.tape, hb.output, hb.size, fun k hk _ => hb.block k hk⟩ (by cases hv : v.ownBlock <;> simp)⟩

/-- A write into another block leaves what is owned. -/
theorem Own.keepBy {w w' : World} {base : Nat} {v : Value} {l : List Int} {row : Option Nat} (h : Own w base v l) (hg : w.grownBy w' row) (hne : v.ownBlock = none ∨ v.ownBlock ≠ row) : Own w' base v l :=
  ⟨h.1, h.2.kept hg hne⟩

theorem Below.ofGrown {w w' : World} (h : w.grownBy w' none) : Below w.heap.size w w' := ⟨h.os, h.tape, h.output, h.size, fun k hk => h.block k hk (by simp)⟩
theorem Below.toGrown {w w' : World} (h : Below w.heap.size w w') (row : Option Nat) : w.grownBy w' row := ⟨h.os, h.tape, h.output, h.size, fun k hk _ => h.block k hk⟩

/-- Two steps of which the first keeps all that was there, the second what was there before both. -/
theorem bstep {a b c : World} (h : Below a.heap.size a b) (k : Below b.heap.size b c) : Below a.heap.size a c := h.trans (k.mono h.size)
/-- A write into a block that was not there at the start. -/
theorem bstepBy {a b c : World} {row : Option Nat} (h : Below a.heap.size a b) (k : b.grownBy c row) (hr : ∀ g, row = some g → a.heap.size ≤ g) : Below a.heap.size a c := h.grown k h.size hr
theorem grown_trans {a b c : World} {row : Option Nat} (h : a.grownBy b row) (k : b.grownBy c row) : a.grownBy c row :=
  ⟨k.os.trans h.os, k.tape.trans h.tape, k.output.trans h.output, Nat.le_trans h.size k.size, fun i hi hne => (k.block i (Nat.lt_of_lt_of_le hi h.size) hne).trans (h.block i hi hne)⟩

theorem add_plain (b off i : Nat) : (⟨b, off, none⟩ : Addr).add i = ⟨b, off + i, none⟩ := by
  unfold Addr.add
  by_cases h : i = 0 <;> simp [h]
theorem lt_of_cell {w : World} {a : Addr} {v : Value} (h : w.cell? a = some v) : a.block < w.heap.size := by
  by_cases hlt : a.block < w.heap.size
  · exact hlt
  · unfold World.cell? at h
    rw [Array.getElem?_eq_none (by omega)] at h
    cases h

/-- An argument that was read as a row of numbers is a readable row of bytes. -/
theorem byt_of_row {w : World} {a : Option Addr} {len cap : Nat} {zs : List Int}
    (h : (a = none ∧ len = 0 ∧ cap = 0 ∧ zs = []) ∨ ∃ x, a = some x ∧ len ≤ cap ∧ cap ≤ maxLen ∧ zs.length = cap ∧ (∀ i, i < zs.length → w.cell? (x.add i) = some (.int .u8 (zs.getD i 0))) ∧ ∀ n ∈ zs, (Lit.int .u8 n).wf = true) :
    Byt w (.slice a len cap) (zs.take len) := by
  rcases h with ⟨rfl, rfl, rfl, rfl⟩ | ⟨x, rfl, hl, hm, hz, hcell, hwz⟩
  · exact ⟨okB_nil, by simp [maxLen], .inl ⟨rfl, rfl⟩⟩
  · have hok : okB (zs.take len) := fun n hn => bounds_u8 (hwz n (List.mem_of_mem_take hn))
    have hlen : (zs.take len).length = len := by simp; omega
    by_cases h0 : len = 0
    · subst h0
      exact ⟨hok, by simp [maxLen], .inr (.inl ⟨x, cap, rfl, hm, by simp⟩)⟩
    · obtain ⟨b, off, spot⟩ := x
      have hc := hcell 0 (by omega)
      have hspot : spot = none := by simpa [Addr.add] using World.cell?_spot hc
      subst hspot
      refine ⟨hok, by omega, .inr (.inr ⟨b, off, cap, by rw [hlen], by omega, hm, ?_, ?_, fun i hi => ?_⟩)⟩
      · intro e; rw [e] at hlen; simp at hlen; omega
      · have := lt_of_cell hc; simpa [Addr.add] using this
      · have hi' := hcell i (by omega)
        rw [List.getD_eq_getElem?_getD, List.getElem?_take, if_pos (by omega), ← List.getD_eq_getElem?_getD]
        rw [add_plain] at hi'
        exact hi'

end Go.Proofs.YtaoodcielfabdaaGreat

/- The law's own helpers over bytes: a copy of a row, by its contract. -/
namespace Go.Proofs.YtaoodcielfabdaaGreat
open Go.RowKit
set_option linter.unusedVariables false

theorem Tryz.info5 : (Tryz.prog.info? 5).map (fun i => (i.zero, i.size, i.bytes)) = some (some (.int .u8 0), 1, 1) := by kernel_rfl

/-- Behind k rounds of the copying loop: the first k bytes of l, then zeros. -/
def half (l : List Int) (k : Nat) : List Int := l.take k ++ List.replicate (l.length - k) 0
theorem half_len (l : List Int) (k : Nat) (h : k ≤ l.length) : (half l k).length = l.length := by simp [half]; omega
theorem half_zero (l : List Int) : vals (half l 0) = (madeCells #[Value.int .u8 0] l.length).toList := by
  rw [toList_madeCells_one]
  simp [half, vals]
end Go.Proofs.YtaoodcielfabdaaGreat

/- An append of a readable row of bytes to an owned one, as one law for the walk. -/
namespace Go.Proofs.YtaoodcielfabdaaGreat
open Go.RowKit
set_option linter.unusedVariables false

/-- 'append(out, src...)': out owned, src readable: what comes is owned, and no block but out's own has been written. -/
theorem wpList_app {w : World} {ops : Array Oper} {rest : List Oper} {o : Oper} {a : Act} {Q : Exit → Act → World → Prop} (hgd : o.guard = none) (s x : Operand)
    (ho : o.op = .call { callee := .builtin .append, args := #[s, x], argTypes := #[22, 22] })
    (base : Nat) (v : Value) (l : List Int) (hs : a.eval s = v) (hown : Own w base v l) (u : Value) (m : List Int) (hx : a.eval x = u) (hu : Byt w u m)
    (hlen : l.length + m.length ≤ 134217728) (hbase : base ≤ w.heap.size)
    (h : ∀ v' w', Own w' base v' (l ++ m) → w.grownBy w' v.ownBlock → wpList Tryz.prog ops Q rest (a.put o.dst v') w') : wpList Tryz.prog ops Q (o :: rest) a w := by
  obtain ⟨i0, hi, hz0, hz1, hz2⟩ := info_parts Tryz.info5
  have hfull : ∀ (ad : Addr) (c : Nat), a.eval x = .slice (some ad) m.length c → (∀ j, j < m.length → w.cell? (ad.add j) = some (.int .u8 (m.getD j 0))) → wpList Tryz.prog ops Q (o :: rest) a w := by
    intro ad c hx' hc
    refine wpList_append_own _ hgd s x 22 ho base 5 i0 (.int .u8 0) 1 1 Tryz.underlying22 hi hz0 hz1 hz2 rfl (by decide) v l.length (vals l) hs hown.2 ad m.length c (vals m) hx' (by rw [vals_len]; omega) ?_ (vals_one m) (by unfold maxLen; omega) (by omega) hbase ?_
    · intro j y hj
      have hlt : j < m.length := by
        by_cases hlt : j < m.length
        · exact hlt
        · rw [List.getElem?_eq_none (by rw [vals_len]; omega)] at hj; cases hj
      rw [vals_at hlt] at hj
      rw [hc j hlt]; exact hj
    · intro v' w' h1 h2 _
      refine h v' w' ⟨hown.1.app hu.1, ?_⟩ h2
      rw [vals_app, List.length_append]; exact h1
  obtain ⟨hok, hm, ⟨rfl, rfl⟩ | ⟨y, cap, rfl, hc, rfl⟩ | ⟨b, off, cap, rfl, h1, h2, h3, h4, h5⟩⟩ := hu
  · refine wpList_append_own_none hgd s x 22 ho base 5 i0 1 Tryz.underlying22 hi v l.length (vals l) hs hown.2 hx ?_
    exact h v w (by rw [List.append_nil]; exact hown) (World.grownBy.refl _ _)
  · exact hfull y cap hx (fun j hj => by simp at hj)
  · exact hfull ⟨b, off, none⟩ cap hx (fun j hj => by rw [add_plain]; exact h5 j hj)

/-- A new block of one byte. -/
theorem byt_one (w : World) (x : Int) (h0 : 0 ≤ x) (h1 : x ≤ 255) : Byt (w.alloc (.cells #[.int .u8 x] 5)) (.slice (some ⟨w.heap.size, 0, none⟩) 1 1) [x] := by
  refine ⟨okB.one h0 h1, by simp [maxLen], .inr (.inr ⟨w.heap.size, 0, 1, rfl, by simp, by simp [maxLen], by simp, by simp, fun i hi => ?_⟩)⟩
  have e : i = 0 := by simpa using hi
  subst e
  simp
/-- A new block of none. -/
theorem own_none (w : World) : Own (w.alloc (.cells #[] 5)) w.heap.size (.slice (some ⟨w.heap.size, 0, none⟩) 0 0) [] :=
  ⟨okB_nil, World.ownsRow_lit w #[] 0 (Nat.le_refl _) (Nat.zero_le _) rfl⟩
theorem Own.alloc {w : World} {base : Nat} {v : Value} {l : List Int} (h : Own w base v l) (o : Obj) : Own (w.alloc o) base v l := ⟨h.1, h.2.alloc o⟩
theorem Byt.alloc {w : World} {v : Value} {l : List Int} (h : Byt w v l) (o : Obj) : Byt (w.alloc o) v l := h.keep ((Below.refl _ _).alloc (Nat.le_refl _) o)
/-- A block of the call's own that was there when the row was made is no older than 'base'. -/
theorem Own.base_le {w : World} {base : Nat} {v : Value} {l : List Int} (h : Own w base v l) : ∀ g, v.ownBlock = some g → base ≤ g := fun g hg => (h.lt g hg).1

end Go.Proofs.YtaoodcielfabdaaGreat

/- Trees as data by their depth, and what it is for one to be readable in memory. -/
namespace Go.Proofs.YtaoodcielfabdaaGreat
open Go.RowKit
set_option linter.unusedVariables false

/-- A node whose kids are of whatever kind. -/
structure Nd (α : Type) where
  kind : Int
  name : List Int
  text : List Int
  attrs : List (List Int × List Int)
  kids : List α

/-- Trees of depth below n. -/
def Tr : Nat → Type
  | 0 => Empty
  | n + 1 => Nd (Tr n)

/-- Elements of 'size' cells each lie behind the value v, one a member of l; element i has the cells C, of which R holds. -/
def Elems {α : Type} (w : World) (size : Nat) (v : Value) (l : List α) (R : List Value → α → Prop) : Prop :=
  l.length ≤ maxLen ∧
  ((v = .slice none 0 0 ∧ l = []) ∨
   (∃ x cap, v = .slice (some x) 0 cap ∧ cap ≤ maxLen ∧ l = []) ∨
   (∃ b off cap, v = .slice (some ⟨b, off, none⟩) l.length cap ∧ l.length ≤ cap ∧ cap ≤ maxLen ∧ l ≠ [] ∧ b < w.heap.size ∧
      ∀ i (hi : i < l.length), ∃ C : List Value, C.length = size ∧ (∀ j, j < size → w.cell? ⟨b, off + i * size + j, none⟩ = C[j]?) ∧ R C l[i]))

theorem Elems.shape {α : Type} {w : World} {size : Nat} {v : Value} {l : List α} {R : List Value → α → Prop} (h : Elems w size v l R) : ∃ a cap, v = .slice a l.length cap ∧ l.length ≤ cap ∧ cap ≤ maxLen := by
  obtain ⟨hm, ⟨rfl, rfl⟩ | ⟨x, cap, rfl, hc, rfl⟩ | ⟨b, off, cap, rfl, h1, h2, _⟩⟩ := h
  · exact ⟨none, 0, rfl, Nat.le_refl _, hm⟩
  · exact ⟨some x, cap, rfl, Nat.zero_le _, hc⟩
  · exact ⟨_, cap, rfl, h1, h2⟩

theorem Elems.keep {α : Type} {w w' : World} {size : Nat} {v : Value} {l : List α} {R R' : List Value → α → Prop} (h : Elems w size v l R) (hb : Below w.heap.size w w') (hR : ∀ C x, x ∈ l → R C x → R' C x) : Elems w' size v l R' := by
  obtain ⟨hm, h1 | h2 | ⟨b, off, cap, rfl, h1, h2, h3, h4, h5⟩⟩ := h
  · exact ⟨hm, .inl h1⟩
  · exact ⟨hm, .inr (.inl h2)⟩
  · refine ⟨hm, .inr (.inr ⟨b, off, cap, rfl, h1, h2, h3, Nat.lt_of_lt_of_le h4 hb.size, fun i hi => ?_⟩)⟩
    obtain ⟨C, hC, hc, hr⟩ := h5 i hi
    exact ⟨C, hC, fun j hj => (hb.cell (p := ⟨b, off + i * size + j, none⟩) h4).trans (hc j hj), hR C _ (List.getElem_mem hi) hr⟩

/-- An element of five cells, cell by cell. -/
theorem five_of {α : Type} {w : World} {b off k : Nat} {x : α} {R : List Value → α → Prop} (h : ∃ C : List Value, C.length = 5 ∧ (∀ j, j < 5 → w.cell? ⟨b, off + k * 5 + j, none⟩ = C[j]?) ∧ R C x) :
    ∃ c0 c1 c2 c3 c4, w.cell? ⟨b, off + k * 5, none⟩ = some c0 ∧ w.cell? ⟨b, off + k * 5 + 1, none⟩ = some c1 ∧ w.cell? ⟨b, off + k * 5 + 2, none⟩ = some c2 ∧ w.cell? ⟨b, off + k * 5 + 3, none⟩ = some c3 ∧ w.cell? ⟨b, off + k * 5 + 4, none⟩ = some c4 ∧ R [c0, c1, c2, c3, c4] x := by
  obtain ⟨C, hC, hcell, hr⟩ := h
  match C, hC with
  | [c0, c1, c2, c3, c4], _ => exact ⟨c0, c1, c2, c3, c4, hcell 0 (by omega), hcell 1 (by omega), hcell 2 (by omega), hcell 3 (by omega), hcell 4 (by omega), hr⟩
/-- The two cells of an attribute. -/
def RdAttr (w : World) (C : List Value) (x : List Int × List Int) : Prop := ∃ a b, C = [a, b] ∧ Byt w a x.1 ∧ Byt w b x.2
def RdAttrs (w : World) (v : Value) (l : List (List Int × List Int)) : Prop := Elems w 2 v l (RdAttr w)

/-- The five cells of a node. -/
def RdNode : (n : Nat) → World → List Value → Tr n → Prop
  | 0 => fun _ _ _ => False
  | n + 1 => fun w C t => ∃ a b c d, C = [.int .i64 t.kind, a, b, c, d] ∧ -9223372036854775808 ≤ t.kind ∧ t.kind ≤ 9223372036854775807 ∧ Byt w a t.name ∧ Byt w b t.text ∧ RdAttrs w c t.attrs ∧ Elems w 5 d t.kids (RdNode n w)
def RdKids (n : Nat) (w : World) (v : Value) (l : List (Tr n)) : Prop := Elems w 5 v l (RdNode n w)

theorem RdAttrs.keep {w w' : World} {v : Value} {l : List (List Int × List Int)} (h : RdAttrs w v l) (hb : Below w.heap.size w w') : RdAttrs w' v l :=
  Elems.keep h hb (fun C x _ ⟨a, b, e, h1, h2⟩ => ⟨a, b, e, h1.keep hb, h2.keep hb⟩)
theorem RdNode.keep {n : Nat} {w w' : World} {C : List Value} {t : Tr n} (h : RdNode n w C t) (hb : Below w.heap.size w w') : RdNode n w' C t := by
  induction n generalizing C with
  | zero => exact h
  | succ n ih =>
    obtain ⟨a, b, c, d, e, k1, k2, h1, h2, h3, h4⟩ := h
    exact ⟨a, b, c, d, e, k1, k2, h1.keep hb, h2.keep hb, h3.keep hb, Elems.keep h4 hb (fun C x _ hr => ih hr)⟩
theorem RdKids.keep {n : Nat} {w w' : World} {v : Value} {l : List (Tr n)} (h : RdKids n w v l) (hb : Below w.heap.size w w') : RdKids n w' v l :=
  Elems.keep h hb (fun C x _ hr => RdNode.keep hr hb)

/-- What is left of 'left' when m is taken, or -1. -/
def rest (m : Nat) (left : Int) : Int := if (m : Int) ≤ left then left - (m : Int) else -1
end Go.Proofs.YtaoodcielfabdaaGreat

/- Blocks of a call's own: what is known of them whole, and what becomes of them while others are written. -/
namespace Go.Proofs.YtaoodcielfabdaaGreat
open Go.RowKit
set_option linter.unusedVariables false

/-- The block of an owned slice. -/
def FB (v : Value) : List Nat := v.ownBlock.toList

/-- Of the blocks that were there none but those in S has turned. -/
structure Frm (w w' : World) (S : List Nat) : Prop where
  os : w'.os = w.os
  tape : w'.tape = w.tape
  output : w'.output = w.output
  size : w.heap.size ≤ w'.heap.size
  block : ∀ k, k < w.heap.size → k ∉ S → w'.heap[k]? = w.heap[k]?

theorem Frm.refl (w : World) (S : List Nat) : Frm w w S := ⟨rfl, rfl, rfl, Nat.le_refl _, fun _ _ _ => rfl⟩
theorem Frm.trans {a b c : World} {S : List Nat} (h : Frm a b S) (k : Frm b c S) : Frm a c S :=
  ⟨k.os.trans h.os, k.tape.trans h.tape, k.output.trans h.output, Nat.le_trans h.size k.size, fun i hi hn => (k.block i (Nat.lt_of_lt_of_le hi h.size) hn).trans (h.block i hi hn)⟩
theorem Frm.mono {a b : World} {S S' : List Nat} (h : Frm a b S) (hs : ∀ g ∈ S, g ∈ S') : Frm a b S' := ⟨h.os, h.tape, h.output, h.size, fun i hi hn => h.block i hi (fun e => hn (hs i e))⟩
theorem Frm.ofBelow {a b : World} (h : Below a.heap.size a b) (S : List Nat) : Frm a b S := ⟨h.os, h.tape, h.output, h.size, fun i hi _ => h.block i hi⟩
theorem Frm.ofGrown {a b : World} {row : Option Nat} (h : a.grownBy b row) : Frm a b row.toList := ⟨h.os, h.tape, h.output, h.size, fun i hi hn => h.block i hi (fun e => hn (by rw [← e]; simp))⟩
theorem Frm.below {a b : World} {S : List Nat} {B : Nat} (h : Frm a b S) (hB : B ≤ a.heap.size) (hs : ∀ g ∈ S, B ≤ g) : Below B a b := ⟨h.os, h.tape, h.output, h.size, fun i hi => h.block i (by omega) (fun e => by have := hs i e; omega)⟩
/-- A step that writes blocks which were not there at the start. -/
theorem Frm.new {a b c : World} {S S' : List Nat} (h : Frm a b S) (k : Frm b c S') (hs : ∀ g ∈ S', a.heap.size ≤ g) : Frm a c S :=
  ⟨k.os.trans h.os, k.tape.trans h.tape, k.output.trans h.output, Nat.le_trans h.size k.size, fun i hi hn => (k.block i (Nat.lt_of_lt_of_le hi h.size) (fun e => by have := hs i e; omega)).trans (h.block i hi hn)⟩

theorem ownsRow_frm {w w' : World} {base : Nat} {e : TypeId} {size : Nat} {v : Value} {n : Nat} {xs : List Value} {S : List Nat} (h : w.ownsRow base e size v n xs) (f : Frm w w' S) (hd : ∀ g ∈ FB v, g ∉ S) : w'.ownsRow base e size v n xs := by
  refine ⟨h.1, ?_⟩
  rcases h.2 with h' | ⟨g, cap, cur, rfl, hb, hg, hr⟩
  · exact .inl h'
  · have hlt : g < w.heap.size := by
      by_cases hlt : g < w.heap.size
      · exact hlt
      · rw [Array.getElem?_eq_none (by omega)] at hg; cases hg
    exact .inr ⟨g, cap, cur, rfl, hb, (f.block g hlt (hd g (by simp [FB, Value.ownBlock]))).trans hg, hr⟩
theorem Own.frm {w w' : World} {base : Nat} {v : Value} {l : List Int} {S : List Nat} (h : Own w base v l) (f : Frm w w' S) (hd : ∀ g ∈ FB v, g ∉ S) : Own w' base v l := ⟨h.1, ownsRow_frm h.2 f hd⟩
theorem ownsRow_base {w : World} {base : Nat} {e : TypeId} {size : Nat} {v : Value} {n : Nat} {xs : List Value} (h : w.ownsRow base e size v n xs) (b : Nat) (hb : b ≤ base) : w.ownsRow b e size v n xs := by
  refine ⟨h.1, ?_⟩
  rcases h.2 with h' | ⟨g, cap, cur, e1, h1, h2⟩
  · exact .inl h'
  · exact .inr ⟨g, cap, cur, e1, by omega, h2⟩

/-- Blocks from lo on, below hi. -/
def Rng (F : List Nat) (lo hi : Nat) : Prop := ∀ g ∈ F, lo ≤ g ∧ g < hi
theorem Rng.mono {F : List Nat} {lo hi lo' hi' : Nat} (h : Rng F lo hi) (h1 : lo' ≤ lo) (h2 : hi ≤ hi') : Rng F lo' hi' := fun g hg => by have := h g hg; omega
theorem Rng.app {F G : List Nat} {lo hi : Nat} (h : Rng F lo hi) (k : Rng G lo hi) : Rng (F ++ G) lo hi := fun g hg => by
  rcases List.mem_append.1 hg with h' | h'
  · exact h g h'
  · exact k g h'
theorem Rng.nil (lo hi : Nat) : Rng [] lo hi := fun g hg => by cases hg
theorem nodup_app {F G : List Nat} {lo mid hi : Nat} (hF : F.Nodup) (hG : G.Nodup) (h : Rng F lo mid) (k : Rng G mid hi) : (F ++ G).Nodup := by
  rw [List.nodup_append]
  exact ⟨hF, hG, fun a ha b hb e => by have := h a ha; have := k b hb; omega⟩
theorem FB_nodup (v : Value) : (FB v).Nodup := by unfold FB; cases v.ownBlock <;> simp
theorem Own.rng {w : World} {base : Nat} {v : Value} {l : List Int} (h : Own w base v l) : Rng (FB v) base w.heap.size := fun g hg => h.lt g (by simpa [FB] using hg)

/-- A block of the call's own that is known whole. -/
def Loc (w : World) (g : Nat) (cs : Array Value) (T : TypeId) : Prop := w.heap[g]? = some (.cells cs T (0, 0))
theorem Loc.lt {w : World} {g : Nat} {cs : Array Value} {T : TypeId} (h : Loc w g cs T) : g < w.heap.size := by
  by_cases hlt : g < w.heap.size
  · exact hlt
  · unfold Loc at h; rw [Array.getElem?_eq_none (by omega)] at h; cases h
theorem Loc.cell {w : World} {g : Nat} {cs : Array Value} {T : TypeId} (h : Loc w g cs T) (j : Nat) : w.cell? ⟨g, j, none⟩ = cs[j]? := cell_of_row w g j cs T (0, 0) h
theorem Loc.frozen {w : World} {g : Nat} {cs : Array Value} {T : TypeId} (h : Loc w g cs T) (j : Nat) : w.frozen? ⟨g, j, none⟩ = false := frozen_of_row w g j cs T h
theorem Loc.keep {w w' : World} {g : Nat} {cs : Array Value} {T : TypeId} {B : Nat} (h : Loc w g cs T) (hb : Below B w w') (hB : g < B) : Loc w' g cs T := (hb.block g hB).trans h
theorem Loc.all {w w' : World} {g : Nat} {cs : Array Value} {T : TypeId} (h : Loc w g cs T) (hb : Below w.heap.size w w') : Loc w' g cs T := h.keep hb h.lt
theorem Loc.frm {w w' : World} {g : Nat} {cs : Array Value} {T : TypeId} {S : List Nat} (h : Loc w g cs T) (f : Frm w w' S) (hn : g ∉ S) : Loc w' g cs T := (f.block g h.lt hn).trans h
theorem Loc.set {w : World} {g : Nat} {cs : Array Value} {T : TypeId} (h : Loc w g cs T) (j : Nat) (v : Value) : Loc (w.setCell ⟨g, j, none⟩ v) g (cs.setIfInBounds j v) T := heap_setCell_same w g j cs T v h
theorem Loc.other {w : World} {g : Nat} {cs : Array Value} {T : TypeId} (h : Loc w g cs T) (q j : Nat) (v : Value) (hn : g ≠ q) : Loc (w.setCell ⟨q, j, none⟩ v) g cs T := (heap_setCell_other w ⟨q, j, none⟩ g v hn).trans h
theorem Loc.alloc {w : World} {g : Nat} {cs : Array Value} {T : TypeId} (h : Loc w g cs T) (o : Obj) : Loc (w.alloc o) g cs T := (heap_alloc_old w o h.lt).trans h
theorem Loc.made (w : World) (cs : Array Value) (T : TypeId) : Loc (w.alloc (.cells cs T)) w.heap.size cs T := heap_alloc_new w _
theorem set_frm (w : World) (g j : Nat) (v : Value) : Frm w (w.setCell ⟨g, j, none⟩ v) [g] :=
  ⟨rfl, rfl, rfl, by simp, fun k _ hk => heap_setCell_other w ⟨g, j, none⟩ k v (fun e => hk (by simp [e]))⟩

end Go.Proofs.YtaoodcielfabdaaGreat

/- Trees that a call has made: which blocks are theirs, and what becomes of them while others are written. -/
namespace Go.Proofs.YtaoodcielfabdaaGreat
open Go.RowKit
set_option linter.unusedVariables false

/-- Elements of 'size' cells each in a row of the call's own; each element owns what R says. -/
def OwElems {α : Type} (w : World) (e : TypeId) (size : Nat) (v : Value) (l : List α) (R : List Value → α → List Nat → Prop) (F : List Nat) : Prop :=
  ∃ (Cs : List (List Value)) (Fs : List (List Nat)), Cs.length = l.length ∧ Fs.length = l.length ∧ (∀ i (hi : i < l.length), (Cs.getD i []).length = size ∧ R (Cs.getD i []) l[i] (Fs.getD i [])) ∧
    w.ownsRow 0 e size v l.length Cs.flatten ∧ F = FB v ++ Fs.flatten

def OwAttr (w : World) (C : List Value) (x : List Int × List Int) (F : List Nat) : Prop := ∃ a b, C = [a, b] ∧ Own w 0 a x.1 ∧ Own w 0 b x.2 ∧ F = FB a ++ FB b
def OwAttrs (w : World) (v : Value) (l : List (List Int × List Int)) (F : List Nat) : Prop := OwElems w 109 2 v l (OwAttr w) F
def OwNode : (n : Nat) → World → List Value → Tr n → List Nat → Prop
  | 0 => fun _ _ _ _ => False
  | n + 1 => fun w C t F => ∃ a b c d Fc Fd, C = [.int .i64 t.kind, a, b, c, d] ∧ -9223372036854775808 ≤ t.kind ∧ t.kind ≤ 9223372036854775807 ∧ Own w 0 a t.name ∧ Own w 0 b t.text ∧
      OwAttrs w c t.attrs Fc ∧ OwElems w 26 5 d t.kids (OwNode n w) Fd ∧ F = FB a ++ FB b ++ Fc ++ Fd
def OwKids (n : Nat) (w : World) (v : Value) (l : List (Tr n)) (F : List Nat) : Prop := OwElems w 26 5 v l (OwNode n w) F

theorem mem_flat {Fs : List (List Nat)} {i g : Nat} (h : g ∈ Fs.getD i []) : g ∈ Fs.flatten := by
  by_cases hi : i < Fs.length
  · rw [List.getD_eq_getElem?_getD, List.getElem?_eq_getElem hi] at h
    exact List.mem_flatten.2 ⟨_, List.getElem_mem hi, h⟩
  · rw [List.getD_eq_getElem?_getD, List.getElem?_eq_none (by omega)] at h; simp at h

theorem OwElems.frm {α : Type} {w w' : World} {e : TypeId} {size : Nat} {v : Value} {l : List α} {R R' : List Value → α → List Nat → Prop} {F S : List Nat} (h : OwElems w e size v l R F) (f : Frm w w' S) (hd : ∀ g ∈ F, g ∉ S)
    (hR : ∀ C x G, R C x G → (∀ g ∈ G, g ∉ S) → R' C x G) : OwElems w' e size v l R' F := by
  obtain ⟨Cs, Fs, h1, h2, h3, h4, rfl⟩ := h
  refine ⟨Cs, Fs, h1, h2, fun i hi => ⟨(h3 i hi).1, hR _ _ _ (h3 i hi).2 (fun g hg => hd g (List.mem_append_right _ (mem_flat hg)))⟩, ownsRow_frm h4 f (fun g hg => hd g (List.mem_append_left _ hg)), rfl⟩
theorem OwAttrs.frm {w w' : World} {v : Value} {l : List (List Int × List Int)} {F S : List Nat} (h : OwAttrs w v l F) (f : Frm w w' S) (hd : ∀ g ∈ F, g ∉ S) : OwAttrs w' v l F :=
  OwElems.frm h f hd (fun C x G ⟨a, b, e, h1, h2, h3⟩ hG => by
    subst h3
    exact ⟨a, b, e, h1.frm f (fun g hg => hG g (by simp [hg])), h2.frm f (fun g hg => hG g (by simp [hg])), rfl⟩)
theorem OwNode.frm {n : Nat} {w w' : World} {C : List Value} {t : Tr n} {F S : List Nat} (h : OwNode n w C t F) (f : Frm w w' S) (hd : ∀ g ∈ F, g ∉ S) : OwNode n w' C t F := by
  induction n generalizing C F with
  | zero => exact h
  | succ n ih =>
    obtain ⟨a, b, c, d, Fc, Fd, e, k1, k2, h1, h2, h3, h4, rfl⟩ := h
    exact ⟨a, b, c, d, Fc, Fd, e, k1, k2, h1.frm f (fun g hg => hd g (by simp [hg])), h2.frm f (fun g hg => hd g (by simp [hg])), h3.frm f (fun g hg => hd g (by simp [hg])),
      OwElems.frm h4 f (fun g hg => hd g (by simp [hg])) (fun C x G hr hG => ih hr hG), rfl⟩
theorem OwNode.keep {n : Nat} {w w' : World} {C : List Value} {t : Tr n} {F : List Nat} (h : OwNode n w C t F) (hb : Below w.heap.size w w') : OwNode n w' C t F := h.frm (Frm.ofBelow hb []) (fun _ _ => by simp)
theorem OwKids.frm {n : Nat} {w w' : World} {v : Value} {l : List (Tr n)} {F S : List Nat} (h : OwKids n w v l F) (f : Frm w w' S) (hd : ∀ g ∈ F, g ∉ S) : OwKids n w' v l F := OwElems.frm h f hd (fun C x G hr hG => OwNode.frm hr f hG)

/-- A cell of the flat row of elements of one size. -/
theorem flat_at (Cs : List (List Value)) (size : Nat) (h : ∀ i, i < Cs.length → (Cs.getD i []).length = size) (i j : Nat) (hi : i < Cs.length) (hj : j < size) : Cs.flatten[i * size + j]? = (Cs.getD i [])[j]? := by
  induction Cs generalizing i with
  | nil => simp at hi
  | cons C Cs ih =>
    have h0 : C.length = size := by simpa using h 0 (by simp)
    cases i with
    | zero => simp [List.getElem?_append, h0, hj]
    | succ i =>
      have e : (i + 1) * size + j = C.length + (i * size + j) := by rw [h0, Nat.succ_mul]; omega
      rw [List.flatten_cons, e, List.getElem?_append_right (by omega), Nat.add_sub_cancel_left]
      have := ih (fun k hk => by simpa using h (k + 1) (by simpa using hk)) i (by simpa using hi)
      simpa using this

/-- What is owned can be read. -/
theorem OwElems.rd {α : Type} {w : World} {e : TypeId} {size : Nat} {v : Value} {l : List α} {R : List Value → α → List Nat → Prop} {R' : List Value → α → Prop} {F : List Nat} (h : OwElems w e size v l R F) (hm : l.length ≤ maxLen)
    (hR : ∀ C x G, R C x G → R' C x) : Elems w size v l R' := by
  obtain ⟨Cs, Fs, h1, h2, h3, h4, rfl⟩ := h
  have h4' := h4
  refine ⟨hm, ?_⟩
  rcases h4.2 with ⟨rfl, h0⟩ | ⟨g, cap, cur, rfl, hb, hg, hnc, hcm, hcs, htake⟩
  · exact .inl ⟨rfl, List.eq_nil_of_length_eq_zero h0⟩
  · by_cases h0 : l = []
    · subst h0
      exact .inr (.inl ⟨_, cap, rfl, hcm, rfl⟩)
    · refine .inr (.inr ⟨g, 0, cap, rfl, hnc, hcm, h0, (h4'.lt g rfl).2, fun i hi => ⟨Cs.getD i [], (h3 i hi).1, fun j hj => ?_, hR _ _ _ (h3 i hi).2⟩⟩)
      have hlt : i * size + j < l.length * size := by
        have : (i + 1) * size ≤ l.length * size := Nat.mul_le_mul_right _ hi
        rw [Nat.succ_mul] at this; omega
      rw [Nat.zero_add, h4'.cellAt (i * size + j) hlt]
      exact flat_at Cs size (fun k hk => (h3 k (by omega)).1) i j (by omega) hj
theorem OwElems.len {α : Type} {w : World} {e : TypeId} {size : Nat} {v : Value} {l : List α} {R : List Value → α → List Nat → Prop} {F : List Nat} (h : OwElems w e size v l R F) : l.length ≤ maxLen := by
  obtain ⟨Cs, Fs, h1, h2, h3, h4, rfl⟩ := h
  rcases h4.2 with ⟨_, h0⟩ | ⟨g, cap, cur, rfl, hb, hg, hnc, hcm, _⟩
  · rw [h0]; exact Nat.zero_le _
  · omega
theorem OwAttrs.rd {w : World} {v : Value} {l : List (List Int × List Int)} {F : List Nat} (h : OwAttrs w v l F) : RdAttrs w v l := OwElems.rd h (OwElems.len h) (fun C x G ⟨a, b, e, h1, h2, _⟩ => ⟨a, b, e, h1.byt, h2.byt⟩)
theorem OwNode.rd {n : Nat} {w : World} {C : List Value} {t : Tr n} {F : List Nat} (h : OwNode n w C t F) : RdNode n w C t := by
  induction n generalizing C F with
  | zero => exact h
  | succ n ih =>
    obtain ⟨a, b, c, d, Fc, Fd, e, k1, k2, h1, h2, h3, h4, rfl⟩ := h
    exact ⟨a, b, c, d, e, k1, k2, h1.byt, h2.byt, h3.rd, OwElems.rd h4 (OwElems.len h4) (fun C x G hr => ih hr)⟩
theorem OwKids.rd {n : Nat} {w : World} {v : Value} {l : List (Tr n)} {F : List Nat} (h : OwKids n w v l F) : RdKids n w v l := OwElems.rd h (OwElems.len h) (fun C x G hr => OwNode.rd hr)

end Go.Proofs.YtaoodcielfabdaaGreat

/- The laws' own count of how great a tree is, by contracts. -/
namespace Go.Proofs.YtaoodcielfabdaaGreat
open Go.RowKit
set_option linter.unusedVariables false

end Go.Proofs.YtaoodcielfabdaaGreat

/- The laws' own copy of a tree, by contracts: the copy is the same tree, in blocks of its own. -/
namespace Go.Proofs.YtaoodcielfabdaaGreat
open Go.RowKit
set_option linter.unusedVariables false

end Go.Proofs.YtaoodcielfabdaaGreat

/- A frame by what may turn: blocks by their number and what lies in them. -/
namespace Go.Proofs.YtaoodcielfabdaaGreat
open Go.RowKit
set_option linter.unusedVariables false

/-- All blocks but those that may turn (Mt) lie as they lay. -/
structure Frp (Mt : Nat → Obj → Prop) (a b : World) : Prop where
  os : b.os = a.os
  tape : b.tape = a.tape
  output : b.output = a.output
  size : a.heap.size ≤ b.heap.size
  block : ∀ i o, a.heap[i]? = some o → ¬ Mt i o → b.heap[i]? = some o
theorem Frp.refl (Mt : Nat → Obj → Prop) (a : World) : Frp Mt a a := ⟨rfl, rfl, rfl, Nat.le_refl _, fun _ _ h _ => h⟩
theorem Frp.trans {Mt : Nat → Obj → Prop} {a b c : World} (h : Frp Mt a b) (k : Frp Mt b c) : Frp Mt a c :=
  ⟨k.os.trans h.os, k.tape.trans h.tape, k.output.trans h.output, Nat.le_trans h.size k.size, fun i o hi hm => k.block i o (h.block i o hi hm) hm⟩
theorem Frp.ofBelow {a b : World} (h : Below a.heap.size a b) (Mt : Nat → Obj → Prop) : Frp Mt a b :=
  ⟨h.os, h.tape, h.output, h.size, fun i o hi _ => (h.block i (Array.getElem?_eq_some_iff.1 hi).1).trans hi⟩
theorem Frp.ofFrm {a b : World} {S : List Nat} (h : Frm a b S) {Mt : Nat → Obj → Prop} (hm : ∀ g ∈ S, ∀ o, a.heap[g]? = some o → Mt g o) : Frp Mt a b :=
  ⟨h.os, h.tape, h.output, h.size, fun i o hi hn => (h.block i (Array.getElem?_eq_some_iff.1 hi).1 (fun e => hn (hm i e o hi))).trans hi⟩
theorem Frp.below {Mt : Nat → Obj → Prop} {a b : World} {B : Nat} (h : Frp Mt a b) (hB : B ≤ a.heap.size) (hm : ∀ i o, i < B → ¬ Mt i o) : Below B a b :=
  ⟨h.os, h.tape, h.output, h.size, fun i hi => by
    have hlt : i < a.heap.size := by omega
    have := h.block i _ (Array.getElem?_eq_getElem hlt) (hm i _ hi)
    rw [this, Array.getElem?_eq_getElem hlt]⟩

theorem Loc.frp {Mt : Nat → Obj → Prop} {w w' : World} {g : Nat} {cs : Array Value} {T : TypeId} (h : Loc w g cs T) (f : Frp Mt w w') (hn : ¬ Mt g (.cells cs T (0, 0))) : Loc w' g cs T := f.block g _ h hn
theorem own_obj {w : World} {base : Nat} {e : TypeId} {size n : Nat} {v : Value} {xs : List Value} (h : w.ownsRow base e size v n xs) {g : Nat} (hg : v.ownBlock = some g) : ∃ cur, w.heap[g]? = some (.cells cur e (0, 0)) := by
  rcases h.2 with ⟨rfl, _⟩ | ⟨g', cap, cur, rfl, _, ho, _⟩
  · cases hg
  · cases hg; exact ⟨cur, ho⟩
end Go.Proofs.YtaoodcielfabdaaGreat

/- spec.l3say puts a text's bytes behind others, with references. -/
namespace Go.Proofs.YtaoodcielfabdaaGreat
open Go.RowKit
set_option linter.unusedVariables false
set_option maxRecDepth 100000

/-- A byte as markup tells it. -/
def sayB (q : Bool) (x : Int) : List Int := if x = 38 then [38, 97, 109, 112, 59] else if x = 60 then [38, 108, 116, 59] else if x = 34 ∧ q = true then [38, 113, 117, 111, 116, 59] else [x]
def say (q : Bool) (l : List Int) : List Int := (l.map (sayB q)).flatten
theorem say_take (q : Bool) (l : List Int) (j : Nat) (h : j < l.length) : say q (l.take (j + 1)) = say q (l.take j) ++ sayB q l[j] := by
  unfold say
  rw [List.take_succ_eq_append_getElem h, List.map_append, List.flatten_append]
  simp
theorem say_le (q : Bool) (l : List Int) (j : Nat) : (say q (l.take j)).length ≤ (say q l).length := by
  have : say q l = say q (l.take j) ++ say q (l.drop j) := by
    unfold say
    rw [← List.flatten_append, ← List.map_append, List.take_append_drop]
  rw [this, List.length_append]
  omega
theorem sayB_len (q : Bool) (x : Int) : (sayB q x).length ≤ 6 := by
  unfold sayB
  split
  · decide
  · split
    · decide
    · split
      · decide
      · simp
theorem say_len (q : Bool) : ∀ l : List Int, (say q l).length ≤ 6 * l.length
  | [] => by simp [say]
  | x :: l => by
    have h1 := say_len q l
    have h2 := sayB_len q x
    unfold say at h1 ⊢
    simp only [List.map_cons, List.flatten_cons, List.length_append, List.length_cons]
    omega

/-- 'append(out, "..."...)': out owned: what comes is owned, and no block but out's own has been written. -/
theorem wpList_apps {w : World} {ops : Array Oper} {rest : List Oper} {o : Oper} {a : Act} {Q : Exit → Act → World → Prop} (hgd : o.guard = none) (s x : Operand)
    (ho : o.op = .call { callee := .builtin .append, args := #[s, x], argTypes := #[22, 9] })
    (base : Nat) (v : Value) (l : List Int) (hs : a.eval s = v) (hown : Own w base v l) (t : ByteArray) (m : List Int) (hx : a.eval x = .string t) (hm : Lib.strCells t = vals m) (hok : okB m)
    (hlen : l.length + m.length ≤ 134217728) (hbase : base ≤ w.heap.size)
    (h : ∀ v' w', Own w' base v' (l ++ m) → w.grownBy w' v.ownBlock → wpList Tryz.prog ops Q rest (a.put o.dst v') w') : wpList Tryz.prog ops Q (o :: rest) a w := by
  obtain ⟨i0, hi, hz0, hz1, hz2⟩ := info_parts Tryz.info5
  have hsz : t.size = m.length := by rw [← Lib.strCells_length, hm, vals_len]
  refine Lib.wpList_append_own_string _ hgd s x 22 9 ho base 5 i0 Tryz.underlying22 Tryz.underlying9 hi hz0 hz1 hz2 v l.length (vals l) hs hown.2 t hx (by rw [hsz]; unfold maxLen; omega) (by omega) hbase ?_
  intro v' w' h1 h2 _
  refine h v' w' ⟨hown.1.app hok, ?_⟩ h2
  rw [vals_app, List.length_append, ← hsz, ← hm]; exact h1

theorem okB_amp : okB [38, 97, 109, 112, 59] := fun x hx => by simp at hx; omega
theorem okB_lt : okB [38, 108, 116, 59] := fun x hx => by simp at hx; omega
theorem okB_quot : okB [38, 113, 117, 111, 116, 59] := fun x hx => by simp at hx; omega

end Go.Proofs.YtaoodcielfabdaaGreat

/- Appends as steps of a region that draws its order. -/
namespace Go.Proofs.YtaoodcielfabdaaGreat
open Go.RowKit
set_option linter.unusedVariables false

/-- 'append(out, src...)', as one step of a region that draws its order. -/
theorem step_app {w : World} {ops : Array Oper} {o : Oper} {a : Act} {K : Act → World → Prop} {Q : Exit → Act → World → Prop} {E : Prop} (hgd : o.guard = none) (s x : Operand)
    (ho : o.op = .call { callee := .builtin .append, args := #[s, x], argTypes := #[22, 22] })
    (base : Nat) (v : Value) (l : List Int) (hs : a.eval s = v) (hown : Own w base v l) (u : Value) (m : List Int) (hx : a.eval x = u) (hu : Byt w u m)
    (hlen : l.length + m.length ≤ 134217728) (hbase : base ≤ w.heap.size)
    (h : ∀ v' w', Own w' base v' (l ++ m) → w.grownBy w' v.ownBlock → K (a.put o.dst v') w') : if Region.wanted o (yielded ops a.tmps) = true then Oper.wp Tryz.prog o a w K Q else E := by
  have hw : Region.wanted o (yielded ops a.tmps) = true := by simp [Region.wanted, hgd]
  rw [if_pos hw]
  obtain ⟨i0, hi, hz0, hz1, hz2⟩ := info_parts Tryz.info5
  have hfull : ∀ (ad : Addr) (c : Nat), a.eval x = .slice (some ad) m.length c → (∀ j, j < m.length → w.cell? (ad.add j) = some (.int .u8 (m.getD j 0))) → Oper.wp Tryz.prog o a w K Q := by
    intro ad c hx' hc
    refine wp_append_own w s x 22 ho base 5 i0 (.int .u8 0) 1 1 Tryz.underlying22 hi hz0 hz1 hz2 rfl (by decide) v l.length (vals l) hs hown.2 ad m.length c (vals m) hx' (by rw [vals_len]; omega) ?_ (vals_one m) (by unfold maxLen; omega) (by omega) hbase ?_
    · intro j y hj
      have hlt : j < m.length := by
        by_cases hlt : j < m.length
        · exact hlt
        · rw [List.getElem?_eq_none (by rw [vals_len]; omega)] at hj; cases hj
      rw [vals_at hlt] at hj
      rw [hc j hlt]; exact hj
    · intro v' w' h1 h2 _
      refine h v' w' ⟨hown.1.app hu.1, ?_⟩ h2
      rw [vals_app, List.length_append]; exact h1
  obtain ⟨hok, hm, ⟨rfl, rfl⟩ | ⟨y, cap, rfl, hc, rfl⟩ | ⟨b, off, cap, rfl, h1, h2, h3, h4, h5⟩⟩ := hu
  · have hrun := run_append_owned_none (P := Tryz.prog) (w := w) base 22 o.type 5 i0 1 Tryz.underlying22 hi v l.length (vals l) hown.2
    unfold Oper.wp
    simp [execOp, ho, resolve, invoke, builtin, hs, hx, hrun, Result.andThen]
    exact h v w (by rw [List.append_nil]; exact hown) (World.grownBy.refl _ _)
  · exact hfull y cap hx (fun j hj => by simp at hj)
  · exact hfull ⟨b, off, none⟩ cap hx (fun j hj => by rw [add_plain]; exact h5 j hj)

/-- 'append(out, "..."...)', as one step of a region that draws its order. -/
theorem step_apps {w : World} {ops : Array Oper} {o : Oper} {a : Act} {K : Act → World → Prop} {Q : Exit → Act → World → Prop} {E : Prop} (hgd : o.guard = none) (s x : Operand)
    (ho : o.op = .call { callee := .builtin .append, args := #[s, x], argTypes := #[22, 9] })
    (base : Nat) (v : Value) (l : List Int) (hs : a.eval s = v) (hown : Own w base v l) (t : ByteArray) (m : List Int) (hx : a.eval x = .string t) (hm : Lib.strCells t = vals m) (hok : okB m)
    (hlen : l.length + m.length ≤ 134217728) (hbase : base ≤ w.heap.size)
    (h : ∀ v' w', Own w' base v' (l ++ m) → w.grownBy w' v.ownBlock → K (a.put o.dst v') w') : if Region.wanted o (yielded ops a.tmps) = true then Oper.wp Tryz.prog o a w K Q else E := by
  have hw : Region.wanted o (yielded ops a.tmps) = true := by simp [Region.wanted, hgd]
  rw [if_pos hw]
  obtain ⟨i0, hi, hz0, hz1, hz2⟩ := info_parts Tryz.info5
  have hsz : t.size = m.length := by rw [← Lib.strCells_length, hm, vals_len]
  obtain ⟨v', w', hr, h2, h3, _⟩ := Lib.run_append_own_string (P := Tryz.prog) w base 22 9 o.type 5 i0 Tryz.underlying22 Tryz.underlying9 hi hz0 hz1 hz2 v l.length (vals l) hown.2 t (by rw [hsz]; unfold maxLen; omega) (by omega) hbase
  unfold Oper.wp execOp
  simp only [ho, resolve, invoke, builtin, Sem.run_bind, Sem.run_pure, Result.andThen_ok, List.map_toArray, List.map_cons, List.map_nil, hs, hx, hr]
  refine h v' w' ⟨hown.1.app hok, ?_⟩ h3
  rw [vals_app, List.length_append, ← hsz, ← hm]; exact h2
end Go.Proofs.YtaoodcielfabdaaGreat

/- spec.NameOk and spec.l2text answer what the plain tests say. -/
namespace Go.Proofs.YtaoodcielfabdaaGreat
open Go.RowKit
set_option linter.unusedVariables false

/-- The test f holds of each of the first k bytes. -/
def allTo (f : Nat → Int → Prop) (l : List Int) (k : Nat) : Prop := ∀ i, i < k → f i (l.getD i 0)
theorem allTo_step {f : Nat → Int → Prop} {l : List Int} {k : Nat} (h : allTo f l k) (h1 : f k (l.getD k 0)) : allTo f l (k + 1) := fun i hi => by
  by_cases e : i = k
  · subst e; exact h1
  · exact h i (by omega)

/-- A byte that may stand at place i of a name. -/
def nameCh (i : Nat) (x : Int) : Prop := (97 ≤ x ∧ x ≤ 122) ∨ (0 < i ∧ 48 ≤ x ∧ x ≤ 57)
def NameOk (l : List Int) : Prop := 1 ≤ l.length ∧ l.length ≤ 8 ∧ allTo nameCh l l.length
/-- A byte that may stand in a text. -/
def textCh (_ : Nat) (x : Int) : Prop := 32 ≤ x ∧ x ≤ 126
def TextOk (l : List Int) : Prop := l.length ≤ 30 ∧ allTo textCh l l.length

theorem nameS_short (w : World) (a : Option Addr) (n cap : Nat) (h : n < 1 ∨ 8 < n) :
    Calls Tryz.prog 83 #[.slice a n cap] w fun e w' => e = .returned (.bool false) ∧ w' = w := by
  by_cases h1 : n < 1
  · have h1' : (n : Int) < 1 := by omega
    go_enter Tryz.func83, Tryz.ntmps83
    go_wp2
    go_ret
    exact ⟨rfl, rfl⟩
  · have h1' : decide ((n : Int) < 1) = false := by simp; omega
    have h2 : (8 : Int) < (n : Int) := by omega
    go_enter Tryz.func83, Tryz.ntmps83
    go_wp2
    go_ret
    exact ⟨rfl, rfl⟩

open Classical in
set_option maxHeartbeats 1600000 in
theorem nameS_row (w : World) (b off cap : Nat) (l : List Int) (hok : okB l) (h1 : 1 ≤ l.length) (h8 : l.length ≤ 8)
    (hc : ∀ i, i < l.length → w.cell? ⟨b, off + i, none⟩ = some (.int .u8 (l.getD i 0))) :
    Calls Tryz.prog 83 #[.slice (some ⟨b, off, none⟩) l.length cap] w fun e w' => e = .returned (.bool (decide (NameOk l))) ∧ w' = w := by
  have d1 : decide ((l.length : Int) < 1) = false := by simp; omega
  have d2 : decide ((8 : Int) < (l.length : Int)) = false := by simp; omega
  go_enter Tryz.func83, Tryz.ntmps83
  go_wp2
  go_loop [3] (fun i => ∃ k : Nat, k ≤ l.length ∧ i = .int .i64 k ∧ allTo nameCh l k) (fun i => l.length - (intOf i).toNat)
  case atStart => exact ⟨0, Nat.zero_le _, rfl, fun i hi => by omega⟩
  case round =>
    obtain ⟨k, hk, rfl, ha⟩ := hrel
    have HA := hide ha
    clear ha
    by_cases hlt : k < l.length
    · obtain ⟨x, hx⟩ : ∃ x, x = l.getD k 0 := ⟨_, rfl⟩
      have hcx : w.cell? ⟨b, off + k, none⟩ = some (.int .u8 x) := by rw [hx]; exact hc _ hlt
      have HX := hide hx
      have hlt' : (k : Int) < (l.length : Int) := by omega
      clear hc hx
      by_cases hn : nameCh k x
      · have HN := hide hn
        have hcase : (decide (x < 97) = false ∧ decide (122 < x) = false) ∨ (decide (x < 97) = true ∧ ((k : Int) == 0) = false ∧ decide (x < 48) = false ∧ decide (57 < x) = false) := by
          rcases hn with ⟨a1, a2⟩ | ⟨a1, a2, a3⟩
          · left; simp; omega
          · right; simp; omega
        clear hn
        rcases hcase with ⟨q1, q2⟩ | ⟨q1, q2, q3, q4⟩
        all_goals
          go_wp2
          go_round
          case rel => exact ⟨k + 1, by omega, by go_num, allTo_step (unhide HA) (by rw [← unhide HX]; exact unhide HN)⟩
          case measure => simp [intOf]; omega
      · have HF := hide (show decide (NameOk l) = false by
          simp only [decide_eq_false_iff_not]
          rintro ⟨_, _, h⟩
          exact hn (by rw [unhide HX]; exact h k hlt))
        have hcase : (decide (x < 97) = true ∧ (((k : Int) == 0) = true ∨ ((k : Int) == 0) = false ∧ (decide (x < 48) = true ∨ decide (x < 48) = false ∧ decide (57 < x) = true))) ∨
            (decide (x < 97) = false ∧ decide (122 < x) = true ∧ (((k : Int) == 0) = true ∨ ((k : Int) == 0) = false ∧ decide (x < 48) = false ∧ decide (57 < x) = true)) := by
          unfold nameCh at hn
          simp
          omega
        clear hn
        rcases hcase with ⟨q1, q2 | ⟨q2, q3 | ⟨q3, q4⟩⟩⟩ | ⟨q1, q2, q3 | ⟨q3, q4, q5⟩⟩
        all_goals
          go_wp2
          go_ret
          exact ⟨by rw [unhide HF]; rfl, rfl⟩
    · have e : k = l.length := by omega
      subst e
      have HF := hide (show decide (NameOk l) = true by simp only [decide_eq_true_eq]; exact ⟨h1, h8, unhide HA⟩)
      clear hc
      go_wp2
      go_ret
      exact ⟨by rw [unhide HF]; rfl, rfl⟩

open Classical in
theorem nameS_any (w : World) (v : Value) (l : List Int) (h : Byt w v l) :
    Calls Tryz.prog 83 #[v] w fun e w' => e = .returned (.bool (decide (NameOk l))) ∧ w' = w := by
  by_cases hl : l.length < 1 ∨ 8 < l.length
  · obtain ⟨a, cap, rfl, _⟩ := h.shape
    have hd : decide (NameOk l) = false := by simp only [decide_eq_false_iff_not]; rintro ⟨_, _, _⟩; omega
    rw [hd]
    exact nameS_short w a _ cap hl
  · obtain ⟨hok, hm, ⟨rfl, rfl⟩ | ⟨x, cap, rfl, hc, rfl⟩ | ⟨b, off, cap, rfl, _, _, _, _, h5⟩⟩ := h
    · simp at hl
    · simp at hl
    · exact nameS_row w b off cap l hok (by omega) (by omega) h5

open Classical in
set_option maxHeartbeats 1600000 in
theorem textS_any (w : World) (v : Value) (l : List Int) (h : Byt w v l) :
    Calls Tryz.prog 79 #[v] w fun e w' => e = .returned (.bool (decide (TextOk l))) ∧ w' = w := by
  by_cases hl : 30 < l.length
  · obtain ⟨a, cap, rfl, _⟩ := h.shape
    have HD := hide (show decide (TextOk l) = false by simp only [decide_eq_false_iff_not]; rintro ⟨_, _⟩; omega)
    have d2 : (30 : Int) < (l.length : Int) := by omega
    go_enter Tryz.func79, Tryz.ntmps79
    go_wp2
    go_ret
    exact ⟨by rw [unhide HD]; rfl, rfl⟩
  have d2 : ¬ (30 : Int) < (l.length : Int) := by omega
  by_cases h0 : l = []
  · obtain ⟨a, cap, rfl, _⟩ := h.shape
    subst h0
    have HD := hide (show decide (TextOk []) = true by simp only [decide_eq_true_eq]; exact ⟨by simp, fun i hi => by simp at hi⟩)
    go_enter Tryz.func79, Tryz.ntmps79
    go_wp2
    refine wp_loop_rounds 1 ?_
    rw [rounds_succ]
    go_wp2
    go_ret
    exact ⟨by rw [unhide HD]; rfl, rfl⟩
  obtain ⟨hok, hm, ⟨_, e⟩ | ⟨_, _, _, _, e⟩ | ⟨b, off, cap, rfl, _, _, _, _, hc⟩⟩ := h
  · exact absurd e h0
  · exact absurd e h0
  go_enter Tryz.func79, Tryz.ntmps79
  go_wp2
  go_loop [3] (fun i => ∃ k : Nat, k ≤ l.length ∧ i = .int .i64 k ∧ allTo textCh l k) (fun i => l.length - (intOf i).toNat)
  case atStart => exact ⟨0, Nat.zero_le _, rfl, fun i hi => by omega⟩
  case round =>
    obtain ⟨k, hk, rfl, ha⟩ := hrel
    have HA := hide ha
    clear ha
    by_cases hlt : k < l.length
    · obtain ⟨x, hx⟩ : ∃ x, x = l.getD k 0 := ⟨_, rfl⟩
      have hcx : w.cell? ⟨b, off + k, none⟩ = some (.int .u8 x) := by rw [hx]; exact hc _ hlt
      have HX := hide hx
      have hlt' : (k : Int) < (l.length : Int) := by omega
      clear hc hx
      by_cases hn : textCh k x
      · have HN := hide hn
        have q1 : decide (x < 32) = false := by unfold textCh at hn; simp; omega
        have q2 : decide (126 < x) = false := by unfold textCh at hn; simp; omega
        clear hn
        go_wp2
        go_round
        case rel => exact ⟨k + 1, by omega, by go_num, allTo_step (unhide HA) (by rw [← unhide HX]; exact unhide HN)⟩
        case measure => simp [intOf]; omega
      · have HF := hide (show decide (TextOk l) = false by
          simp only [decide_eq_false_iff_not]
          rintro ⟨_, h⟩
          exact hn (by rw [unhide HX]; exact h k hlt))
        have hcase : decide (x < 32) = true ∨ (decide (x < 32) = false ∧ decide (126 < x) = true) := by
          unfold textCh at hn; simp; omega
        clear hn
        rcases hcase with q1 | ⟨q1, q2⟩
        all_goals
          go_wp2
          go_ret
          exact ⟨by rw [unhide HF]; rfl, rfl⟩
    · have e : k = l.length := by omega
      subst e
      have HF := hide (show decide (TextOk l) = true by simp only [decide_eq_true_eq]; exact ⟨by omega, unhide HA⟩)
      clear hc
      go_wp2
      go_ret
      exact ⟨by rw [unhide HF]; rfl, rfl⟩

theorem nameS_yes (w : World) (v : Value) (l : List Int) (h : Byt w v l) (hn : NameOk l) : Calls Tryz.prog 83 #[v] w fun e w' => e = .returned (.bool true) ∧ w' = w := by
  refine (nameS_any w v l h).mono ?_
  rintro e w' ⟨rfl, h⟩
  exact ⟨by simp [hn], h⟩
theorem nameS_no (w : World) (v : Value) (l : List Int) (h : Byt w v l) (hn : ¬ NameOk l) : Calls Tryz.prog 83 #[v] w fun e w' => e = .returned (.bool false) ∧ w' = w := by
  refine (nameS_any w v l h).mono ?_
  rintro e w' ⟨rfl, h⟩
  exact ⟨by simp [hn], h⟩
theorem textS_yes (w : World) (v : Value) (l : List Int) (h : Byt w v l) (hn : TextOk l) : Calls Tryz.prog 79 #[v] w fun e w' => e = .returned (.bool true) ∧ w' = w := by
  refine (textS_any w v l h).mono ?_
  rintro e w' ⟨rfl, h⟩
  exact ⟨by simp [hn], h⟩
theorem textS_no (w : World) (v : Value) (l : List Int) (h : Byt w v l) (hn : ¬ TextOk l) : Calls Tryz.prog 79 #[v] w fun e w' => e = .returned (.bool false) ∧ w' = w := by
  refine (textS_any w v l h).mono ?_
  rintro e w' ⟨rfl, h⟩
  exact ⟨by simp [hn], h⟩

/-- The tests as truth values. -/
def allB (f : Nat → Int → Bool) (l : List Int) : Bool := (List.range l.length).all fun i => f i (l.getD i 0)
theorem allB_iff {f : Nat → Int → Bool} {p : Nat → Int → Prop} (h : ∀ i x, f i x = true ↔ p i x) (l : List Int) : allB f l = true ↔ allTo p l l.length := by
  unfold allB allTo
  rw [List.all_eq_true]
  constructor
  · intro k i hi; exact (h _ _).1 (k i (List.mem_range.2 hi))
  · intro k i hi; exact (h _ _).2 (k i (List.mem_range.1 hi))
def nameB (l : List Int) : Bool := decide (1 ≤ l.length) && decide (l.length ≤ 8) && allB (fun i x => decide (97 ≤ x ∧ x ≤ 122) || decide (0 < i ∧ 48 ≤ x ∧ x ≤ 57)) l
theorem nameB_iff (l : List Int) : nameB l = true ↔ NameOk l := by
  unfold nameB NameOk
  rw [Bool.and_eq_true, Bool.and_eq_true, decide_eq_true_eq, decide_eq_true_eq, allB_iff (p := nameCh) (fun i x => by unfold nameCh; rw [Bool.or_eq_true, decide_eq_true_eq, decide_eq_true_eq]), and_assoc]
def textB (l : List Int) : Bool := decide (l.length ≤ 30) && allB (fun _ x => decide (32 ≤ x ∧ x ≤ 126)) l
theorem textB_iff (l : List Int) : textB l = true ↔ TextOk l := by
  unfold textB TextOk
  rw [Bool.and_eq_true, decide_eq_true_eq, allB_iff (p := textCh) (fun i x => by unfold textCh; rw [decide_eq_true_eq])]

end Go.Proofs.YtaoodcielfabdaaGreat

/- Rows of bytes as strings: the conversion, and when two are one. -/
namespace Go.Proofs.YtaoodcielfabdaaGreat
open Go.RowKit
set_option linter.unusedVariables false

/-- The string of a row of bytes. -/
def str (l : List Int) : ByteArray := l.foldl (fun r n => r.push (UInt8.ofNat n.toNat)) ByteArray.empty
theorem str_go (l : List Int) (s : ByteArray) : (l.foldl (fun r n => r.push (UInt8.ofNat n.toNat)) s).data.toList = s.data.toList ++ l.map (fun n => UInt8.ofNat n.toNat) := by
  induction l generalizing s with
  | nil => simp
  | cons x l ih => rw [List.foldl_cons, ih]; simp [ByteArray.push]
theorem str_list (l : List Int) : (str l).data.toList = l.map (fun n => UInt8.ofNat n.toNat) := by
  unfold str; rw [str_go]; rfl
theorem toList_data (s : ByteArray) : s.toList = s.data.toList := Go.ByteArray.toList_eq s
theorem str_inj {a b : List Int} (ha : okB a) (hb : okB b) (h : (str a).toList = (str b).toList) : a = b := by
  rw [toList_data, toList_data, str_list, str_list] at h
  have hg : ∀ l : List Int, okB l → (l.map (fun n => UInt8.ofNat n.toNat)).map (fun u => (u.toNat : Int)) = l := by
    intro l hl
    induction l with
    | nil => rfl
    | cons x l ih =>
      have hx := hl x (by simp)
      have e : ((UInt8.ofNat x.toNat).toNat : Int) = x := by
        rw [UInt8.toNat_ofNat']; omega
      rw [List.map_cons, List.map_cons, ih (fun y hy => hl y (by simp [hy])), e]
  rw [← hg a ha, ← hg b hb, h]
theorem str_beq {a b : List Int} (ha : okB a) (hb : okB b) : ((str a).toList == (str b).toList) = decide (a = b) := by
  by_cases h : a = b
  · subst h; simp
  · have : ¬ (str a).toList = (str b).toList := fun e => h (str_inj ha hb e)
    rw [decide_eq_false h, beq_eq_false_iff_ne]; exact this

theorem conv_any (w : World) (u : Value) (a : List Int) (hu : Byt w u a) : (convert 22 9 u).run Tryz.prog w = .ok (.string (str a)) w := by
  have hfull : ∀ (x : Addr) (c : Nat), (∀ j, j < a.length → w.cell? (x.add j) = some (.int .u8 (a.getD j 0))) → (convert 22 9 (.slice (some x) a.length c)).run Tryz.prog w = .ok (.string (str a)) w := by
    intro x c hc
    rw [run_convert_bytes_string w 22 9 5 (some x) a.length c Tryz.underlying22 Tryz.underlying5 Tryz.underlying9]
    refine run_bytesToString w x a.length c a ?_
    have h := run_loadCells_list (P := Tryz.prog) (w := w) x (vals a) (fun j v hj => by
      have hlt : j < a.length := by
        by_cases hlt : j < a.length
        · exact hlt
        · rw [List.getElem?_eq_none (by rw [vals_len]; omega)] at hj; cases hj
      rw [vals_at hlt] at hj
      rw [hc j hlt]; exact hj)
    rw [vals_len] at h
    exact h
  obtain ⟨hoka, _, ⟨rfl, rfl⟩ | ⟨x, cap, rfl, hc, rfl⟩ | ⟨p, off, cap, rfl, h1, h2, h3, h4, h5⟩⟩ := hu
  · rw [run_convert_bytes_string w 22 9 5 none 0 0 Tryz.underlying22 Tryz.underlying5 Tryz.underlying9]
    simp [Conv.bytesToString, str]
  · exact hfull x cap (fun j hj => by simp at hj)
  · exact hfull _ cap (fun j hj => by rw [add_plain]; exact h5 j hj)

end Go.Proofs.YtaoodcielfabdaaGreat

/- spec.l2void and spec.l2attrs answer what the plain tests say. -/
namespace Go.Proofs.YtaoodcielfabdaaGreat
open Go.RowKit
set_option linter.unusedVariables false

/-- br, hr. -/
def Void (l : List Int) : Prop := l = [98, 114] ∨ l = [104, 114]
theorem str_br : (str [98, 114]).toList = [98, 114] := by rw [toList_data, str_list]; rfl
theorem str_hr : (str [104, 114]).toList = [104, 114] := by rw [toList_data, str_list]; rfl
theorem okB_br : okB [98, 114] := fun x hx => by simp at hx; omega
theorem okB_hr : okB [104, 114] := fun x hx => by simp at hx; omega

open Classical in
set_option maxHeartbeats 1600000 in
theorem voidS_any (w : World) (v : Value) (l : List Int) (h : Byt w v l) :
    Calls Tryz.prog 103 #[v] w fun e w' => e = .returned (.bool (decide (Void l))) ∧ w' = w := by
  have c1 := conv_any w v l h
  have b1 : ((str l).toList == [98, 114]) = decide (l = [98, 114]) := by rw [← str_br]; exact str_beq h.1 okB_br
  have b2 : ((str l).toList == [104, 114]) = decide (l = [104, 114]) := by rw [← str_hr]; exact str_beq h.1 okB_hr
  obtain ⟨a1, k1, rfl, _⟩ := h.shape
  generalize str l = s at *
  by_cases h1 : l = [98, 114]
  · have HD := hide (show decide (Void l) = true by simp [Void, h1])
    have d1 : (s.toList == [98, 114]) = true := by rw [b1]; simp [h1]
    clear b1 b2 h1
    go_enter Tryz.func103, Tryz.ntmps103
    go_wp2
    go_ret
    exact ⟨by rw [unhide HD]; rfl, rfl⟩
  · have d1 : (s.toList == [98, 114]) = false := by rw [b1]; simp [h1]
    by_cases h2 : l = [104, 114]
    · have HD := hide (show decide (Void l) = true by simp [Void, h2])
      have d2 : (s.toList == [104, 114]) = true := by rw [b2]; simp [h2]
      clear b1 b2 h1 h2
      go_enter Tryz.func103, Tryz.ntmps103
      go_wp2
      go_ret
      exact ⟨by rw [unhide HD]; rfl, rfl⟩
    · have HD := hide (show decide (Void l) = false by simp [Void, h1, h2])
      have d2 : (s.toList == [104, 114]) = false := by rw [b2]; simp [h2]
      clear b1 b2 h1 h2
      go_enter Tryz.func103, Tryz.ntmps103
      go_wp2
      go_ret
      exact ⟨by rw [unhide HD]; rfl, rfl⟩

end Go.Proofs.YtaoodcielfabdaaGreat

/- spec.l2node and spec.NodeOk answer what the plain test says. -/
namespace Go.Proofs.YtaoodcielfabdaaGreat
open Go.RowKit
set_option linter.unusedVariables false

def voidB (l : List Int) : Bool := decide (l = [98, 114]) || decide (l = [104, 114])
theorem voidB_iff (l : List Int) : voidB l = true ↔ Void l := by unfold voidB Void; rw [Bool.or_eq_true, decide_eq_true_eq, decide_eq_true_eq]
theorem voidS_yes (w : World) (v : Value) (l : List Int) (h : Byt w v l) (hn : Void l) : Calls Tryz.prog 103 #[v] w fun e w' => e = .returned (.bool true) ∧ w' = w := by
  refine (voidS_any w v l h).mono ?_
  rintro e w' ⟨rfl, h⟩
  exact ⟨by simp [hn], h⟩
theorem voidS_no (w : World) (v : Value) (l : List Int) (h : Byt w v l) (hn : ¬ Void l) : Calls Tryz.prog 103 #[v] w fun e w' => e = .returned (.bool false) ∧ w' = w := by
  refine (voidS_any w v l h).mono ?_
  rintro e w' ⟨rfl, h⟩
  exact ⟨by simp [hn], h⟩
end Go.Proofs.YtaoodcielfabdaaGreat

/- Small tools: locals made one behind the other, an element at a place, the five cells of a node's local. -/
namespace Go.Proofs.YtaoodcielfabdaaGreat
open Go.RowKit
set_option linter.unusedVariables false
set_option maxRecDepth 100000

/-- Two locals of their own, made one behind the other. -/
theorem two (w : World) (A Z : Array Value) (TA T : TypeId) : Loc ((w.alloc (.cells A TA)).alloc (.cells Z T)) w.heap.size A TA ∧ Loc ((w.alloc (.cells A TA)).alloc (.cells Z T)) (w.heap.size + 1) Z T ∧ Below w.heap.size w ((w.alloc (.cells A TA)).alloc (.cells Z T)) := by
  refine ⟨(Loc.made w A TA).alloc _, ?_, ((Below.refl _ _).alloc (Nat.le_refl _) _).alloc (by simp) _⟩
  have := Loc.made (w.alloc (.cells A TA)) Z T
  simp only [World.size_alloc] at this
  exact this

/-- The element at a place, where there is one. -/
theorem Elems.at {α : Type} {w : World} {size m : Nat} {a : Option Addr} {cap k : Nat} {l : List α} {R : List Value → α → Prop} (h : Elems w size (.slice a m cap) l R) (hk : k < l.length) :
    ∃ b off, a = some ⟨b, off, none⟩ ∧ b < w.heap.size ∧ m = l.length ∧ m ≤ cap ∧ ∃ C : List Value, C.length = size ∧ (∀ j, j < size → w.cell? ⟨b, off + k * size + j, none⟩ = C[j]?) ∧ R C l[k] := by
  obtain ⟨_, ⟨_, e⟩ | ⟨_, _, _, _, e⟩ | ⟨b, off, c, e, g1, g2, g3, g4, g5⟩⟩ := h
  · subst e; simp at hk
  · subst e; simp at hk
  · injection e with e1 e2 e3
    subst e1 e2 e3
    exact ⟨b, off, rfl, g4, rfl, g1, g5 k hk⟩

/-- The five cells of a local of its own. -/
theorem Loc.five {w : World} {g : Nat} {a b c d e : Value} {T : TypeId} (h : Loc w g #[a, b, c, d, e] T) :
    w.cell? ⟨g, 0, none⟩ = some a ∧ w.cell? ⟨g, 1, none⟩ = some b ∧ w.cell? ⟨g, 2, none⟩ = some c ∧ w.cell? ⟨g, 3, none⟩ = some d ∧ w.cell? ⟨g, 4, none⟩ = some e :=
  ⟨h.cell 0, h.cell 1, h.cell 2, h.cell 3, h.cell 4⟩

end Go.Proofs.YtaoodcielfabdaaGreat

/- spec.l3markup and spec.Markup tell a tree's markup. -/
namespace Go.Proofs.YtaoodcielfabdaaGreat
open Go.RowKit
set_option linter.unusedVariables false
set_option maxRecDepth 100000

/-- An attribute as markup tells it. -/
def attrM (x : List Int × List Int) : List Int := [32] ++ x.1 ++ [61, 34] ++ say true x.2 ++ [34]
def attrsM (l : List (List Int × List Int)) : List Int := (l.map attrM).flatten
/-- A tree's markup. -/
def mkup : (n : Nat) → Tr n → List Int
  | 0 => fun _ => []
  | n + 1 => fun t => if t.kind = 1 then say false t.text else [60] ++ t.name ++ attrsM t.attrs ++ [62] ++ (if voidB t.name = true then [] else (t.kids.map (mkup n)).flatten ++ [60, 47] ++ t.name ++ [62])
theorem mkup_succ (n : Nat) (t : Tr (n + 1)) : mkup (n + 1) t = if t.kind = 1 then say false t.text else [60] ++ t.name ++ attrsM t.attrs ++ [62] ++ (if voidB t.name = true then [] else (t.kids.map (mkup n)).flatten ++ [60, 47] ++ t.name ++ [62]) := rfl
theorem flatL_take {α β : Type} (f : α → List β) (l : List α) (j : Nat) (h : j < l.length) : ((l.take (j + 1)).map f).flatten = ((l.take j).map f).flatten ++ f l[j] := by
  rw [List.take_succ_eq_append_getElem h, List.map_append, List.flatten_append]
  simp
theorem flatL_le {α β : Type} (f : α → List β) (l : List α) (j : Nat) : ((l.take j).map f).flatten.length ≤ (l.map f).flatten.length := by
  have : (l.map f).flatten = ((l.take j).map f).flatten ++ ((l.drop j).map f).flatten := by rw [← List.flatten_append, ← List.map_append, List.take_append_drop]
  rw [this, List.length_append]
  omega

theorem okB_eq : okB [61, 34] := fun x hx => by simp at hx; omega
theorem okB_end : okB [60, 47] := fun x hx => by simp at hx; omega

theorem own_far {w : World} {B K : Nat} {v : Value} {l : List Int} {x : Value} (ho : Own w B v l) (h2 : 2 ≤ l.length) (hK : Loc w K #[x] 5) : v.ownBlock ≠ some K := by
  intro e
  rcases ho.2.2 with ⟨rfl, _⟩ | ⟨g, cap, cur, rfl, _, hg, h3, _, h5, _⟩
  · cases e
  · cases e
    unfold Loc at hK
    rw [hK] at hg
    injection hg with hg
    injection hg with hg
    subst hg
    simp at h5
    omega
theorem loc_grown {w w' : World} {K : Nat} {row : Option Nat} {cs : Array Value} {T : TypeId} (hK : Loc w K cs T) (hg : w.grownBy w' row) (hn : row ≠ some K) : Loc w' K cs T := by
  unfold Loc at hK ⊢
  rw [hg.block K (Array.getElem?_eq_some_iff.1 hK).1 (fun e => hn e.symm)]
  exact hK
theorem own_old {w : World} {B : Nat} {v : Value} {l : List Int} (ho : Own w B v l) : v.ownBlock ≠ some w.heap.size := fun e => by
  have := (ho.2.lt _ e).2
  omega
theorem loc_byt {w : World} {K : Nat} {x : Int} (hK : Loc w K #[.int .u8 x] 5) (h0 : 0 ≤ x) (h1 : x ≤ 255) : Byt w (.slice (some ⟨K, 0, none⟩) 1 1) [x] := by
  refine ⟨fun y hy => by simp at hy; omega, by simp [maxLen], .inr (.inr ⟨K, 0, 1, rfl, by simp, by simp [maxLen], by simp, hK.lt, fun i hi => ?_⟩)⟩
  have e : i = 0 := by simpa using hi
  subst e
  exact hK.cell 0

end Go.Proofs.YtaoodcielfabdaaGreat

/- An append of a readable row of bytes to an owned one: what comes lies where the row lay, or in a new block. -/
namespace Go.Proofs.YtaoodcielfabdaaGreat
open Go.RowKit
set_option linter.unusedVariables false

theorem run_appAt {w : World} (ty : TypeId) (base : Nat) (v : Value) (l : List Int) (hown : Own w base v l) (u : Value) (m : List Int) (hu : Byt w u m) (hlen : l.length + m.length ≤ 134217728) (hbase : base ≤ w.heap.size) :
    ∃ v' w', (Builtin.append_ #[22, 22] ty #[v, u]).run Tryz.prog w = .ok v' w' ∧ Own w' base v' (l ++ m) ∧ w.grownBy w' v.ownBlock ∧ (v'.ownBlock = v.ownBlock ∨ v'.ownBlock = some w.heap.size) := by
  obtain ⟨i0, hi, hz0, hz1, hz2⟩ := info_parts Tryz.info5
  have hfull : ∀ (ad : Addr) (c : Nat), u = .slice (some ad) m.length c → (∀ j, j < m.length → w.cell? (ad.add j) = some (.int .u8 (m.getD j 0))) → ∃ v' w', (Builtin.append_ #[22, 22] ty #[v, u]).run Tryz.prog w = .ok v' w' ∧ Own w' base v' (l ++ m) ∧ w.grownBy w' v.ownBlock ∧ (v'.ownBlock = v.ownBlock ∨ v'.ownBlock = some w.heap.size) := by
    intro ad c hx' hc
    obtain ⟨v', w', hr, h2, h3, _, h5⟩ := run_append_own_at (P := Tryz.prog) w base 22 ty 5 i0 (.int .u8 0) 1 1 Tryz.underlying22 hi hz0 hz1 hz2 rfl (by decide) v l.length (vals l) hown.2 ad m.length c (vals m) (by rw [vals_len]; omega) (by
      intro j y hj
      have hlt : j < m.length := by
        by_cases hlt : j < m.length
        · exact hlt
        · rw [List.getElem?_eq_none (by rw [vals_len]; omega)] at hj; cases hj
      rw [vals_at hlt] at hj
      rw [hc j hlt]; exact hj) (vals_one m) (by unfold maxLen; omega) (by omega) hbase
    subst hx'
    refine ⟨v', w', hr, ⟨hown.1.app hu.1, ?_⟩, h3, h5⟩
    rw [vals_app, List.length_append]; exact h2
  obtain ⟨hok, hm, ⟨rfl, rfl⟩ | ⟨y, cap, rfl, hc, rfl⟩ | ⟨b, off, cap, rfl, h1, h2, h3, h4, h5⟩⟩ := id hu
  · exact ⟨v, w, run_append_owned_none (P := Tryz.prog) (w := w) base 22 ty 5 i0 1 Tryz.underlying22 hi v l.length (vals l) hown.2, by rw [List.append_nil]; exact hown, World.grownBy.refl _ _, .inl rfl⟩
  · exact hfull y cap rfl (fun j hj => by simp at hj)
  · exact hfull ⟨b, off, none⟩ cap rfl (fun j hj => by rw [add_plain]; exact h5 j hj)

theorem step_appAt {w : World} {ops : Array Oper} {o : Oper} {a : Act} {K : Act → World → Prop} {Q : Exit → Act → World → Prop} {E : Prop} (hgd : o.guard = none) (s x : Operand)
    (ho : o.op = .call { callee := .builtin .append, args := #[s, x], argTypes := #[22, 22] })
    (base : Nat) (v : Value) (l : List Int) (hs : a.eval s = v) (hown : Own w base v l) (u : Value) (m : List Int) (hx : a.eval x = u) (hu : Byt w u m)
    (hlen : l.length + m.length ≤ 134217728) (hbase : base ≤ w.heap.size)
    (h : ∀ v' w', Own w' base v' (l ++ m) → w.grownBy w' v.ownBlock → (v'.ownBlock = v.ownBlock ∨ v'.ownBlock = some w.heap.size) → K (a.put o.dst v') w') : if Region.wanted o (yielded ops a.tmps) = true then Oper.wp Tryz.prog o a w K Q else E := by
  have hw : Region.wanted o (yielded ops a.tmps) = true := by simp [Region.wanted, hgd]
  rw [if_pos hw]
  obtain ⟨v', w', hr, h1, h2, h3⟩ := run_appAt o.type base v l hown u m hu hlen hbase
  unfold Oper.wp execOp
  simp only [ho, resolve, invoke, builtin, Sem.run_bind, Sem.run_pure, Result.andThen_ok, List.map_toArray, List.map_cons, List.map_nil, hs, hx, hr]
  exact h v' w' h1 h2 h3

theorem wpList_appAt {w : World} {ops : Array Oper} {rest : List Oper} {o : Oper} {a : Act} {Q : Exit → Act → World → Prop} (hgd : o.guard = none) (s x : Operand)
    (ho : o.op = .call { callee := .builtin .append, args := #[s, x], argTypes := #[22, 22] })
    (base : Nat) (v : Value) (l : List Int) (hs : a.eval s = v) (hown : Own w base v l) (u : Value) (m : List Int) (hx : a.eval x = u) (hu : Byt w u m)
    (hlen : l.length + m.length ≤ 134217728) (hbase : base ≤ w.heap.size)
    (h : ∀ v' w', Own w' base v' (l ++ m) → w.grownBy w' v.ownBlock → (v'.ownBlock = v.ownBlock ∨ v'.ownBlock = some w.heap.size) → wpList Tryz.prog ops Q rest (a.put o.dst v') w') : wpList Tryz.prog ops Q (o :: rest) a w := by
  refine wpList_plain hgd fun K hK' => ?_
  have := step_appAt (ops := ops) (K := K) (Q := Q) (E := True) hgd s x ho base v l hs hown u m hx hu hlen hbase (fun v' w' h1 h2 h3 => hK' _ _ (h v' w' h1 h2 h3))
  rw [if_pos (by simp [Region.wanted, hgd])] at this
  exact this
end Go.Proofs.YtaoodcielfabdaaGreat

/- Rows of bytes of a call's own that lie in a block of S, or at or beyond b; worlds that read alike but for S. -/
namespace Go.Proofs.YtaoodcielfabdaaGreat
open Go.RowKit
set_option linter.unusedVariables false

structure Bd where
  S : List Nat
  b : Nat
def Bd.at (B : Bd) (k : Nat) : Prop := k ∈ B.S ∨ B.b ≤ k
def OwnX (w : World) (B : Bd) (v : Value) (l : List Int) : Prop := Own w 0 v l ∧ ∀ k, v.ownBlock = some k → B.at k
theorem OwnX.byt {w : World} {B : Bd} {v : Value} {l : List Int} (h : OwnX w B v l) : Byt w v l := h.1.byt
theorem OwnX.keep {w w' : World} {B : Bd} {v : Value} {l : List Int} (h : OwnX w B v l) (hb : Below w.heap.size w w') : OwnX w' B v l := ⟨h.1.keep hb, h.2⟩
theorem OwnX.alloc {w : World} {B : Bd} {v : Value} {l : List Int} (h : OwnX w B v l) (o : Obj) : OwnX (w.alloc o) B v l := ⟨h.1.alloc o, h.2⟩
theorem OwnX.drew {w : World} {B : Bd} {v : Value} {l : List Int} (h : OwnX w B v l) : OwnX w.drew B v l := h
/-- What may turn: rows of bytes in S, or at or beyond b. -/
def MtX (B : Bd) (i : Nat) (o : Obj) : Prop := B.at i ∧ ∃ cs, o = .cells cs 5 (0, 0)
theorem Frp.ofAppX {w w' : World} {B : Bd} {v : Value} {l : List Int} (ho : OwnX w B v l) (h : w.grownBy w' v.ownBlock) : Frp (MtX B) w w' :=
  Frp.ofFrm (Frm.ofGrown h) (fun g hg o hob => by
    have hg' : v.ownBlock = some g := by simpa using hg
    obtain ⟨cur, hcur⟩ := own_obj ho.1.2 hg'
    rw [hcur] at hob
    cases hob
    exact ⟨ho.2 g hg', cur, rfl⟩)
/-- All that can be read in w0 reads so in w; of w0 nothing can be read in S. -/
structure Lk (B : Bd) (w0 w : World) : Prop where
  size : w0.heap.size ≤ w.heap.size
  blank : ∀ k ∈ B.S, ∀ p : Addr, p.block = k → w0.cell? p = none
  low : w0.heap.size ≤ B.b
  block : ∀ k, k < w0.heap.size → k ∉ B.S → w.heap[k]? = w0.heap[k]?
theorem Lk.cell {B : Bd} {w0 w : World} (h : Lk B w0 w) {p : Addr} {x : Value} (hc : w0.cell? p = some x) : w.cell? p = some x := by
  have hn : p.block ∉ B.S := fun e => by rw [h.blank _ e p rfl] at hc; cases hc
  have hl : p.block < w0.heap.size := by
    by_cases hl : p.block < w0.heap.size
    · exact hl
    · unfold World.cell? at hc
      rw [Array.getElem?_eq_none (by omega)] at hc
      cases hc
  have he := h.block _ hl hn
  unfold World.cell? at hc ⊢
  rw [he]
  exact hc
theorem Lk.frp {B : Bd} {w0 w w' : World} (h : Lk B w0 w) (f : Frp (MtX B) w w') : Lk B w0 w' :=
  ⟨Nat.le_trans h.size f.size, h.blank, h.low, fun k hk hn => by
    have hlt : k < w.heap.size := Nat.lt_of_lt_of_le hk h.size
    have := f.block k _ (Array.getElem?_eq_getElem hlt) (fun hm => by
      rcases hm.1 with h1 | h1
      · exact hn h1
      · have := h.low; omega)
    rw [this, ← Array.getElem?_eq_getElem hlt]
    exact h.block k hk hn⟩
theorem Lk.below {B : Bd} {w0 w w' : World} (h : Lk B w0 w) (f : Below w.heap.size w w') : Lk B w0 w' := h.frp (Frp.ofBelow f _)
theorem Byt.lk {B : Bd} {w0 w : World} {v : Value} {l : List Int} (h : Byt w0 v l) (k : Lk B w0 w) : Byt w v l := by
  obtain ⟨hok, hm, h1 | h2 | ⟨b, off, cap, rfl, h1, h2, h3, h4, h5⟩⟩ := h
  · exact ⟨hok, hm, .inl h1⟩
  · exact ⟨hok, hm, .inr (.inl h2)⟩
  · exact ⟨hok, hm, .inr (.inr ⟨b, off, cap, rfl, h1, h2, h3, Nat.lt_of_lt_of_le h4 k.size, fun i hi => k.cell (h5 i hi)⟩)⟩
theorem where_at {w : World} {B : Bd} {v v' : Value} (hb : B.b ≤ w.heap.size) (h : ∀ k, v.ownBlock = some k → B.at k) (hw : v'.ownBlock = v.ownBlock ∨ v'.ownBlock = some w.heap.size) : ∀ k, v'.ownBlock = some k → B.at k := fun k hk => by
  rcases hw with e | e
  · exact h k (e ▸ hk)
  · rw [e] at hk
    cases hk
    exact .inr hb
theorem step_appX {w : World} {ops : Array Oper} {o : Oper} {a : Act} {K : Act → World → Prop} {Q : Exit → Act → World → Prop} {E : Prop} (hgd : o.guard = none) (s x : Operand)
    (ho : o.op = .call { callee := .builtin .append, args := #[s, x], argTypes := #[22, 22] })
    (B : Bd) (v : Value) (l : List Int) (hs : a.eval s = v) (hown : OwnX w B v l) (u : Value) (m : List Int) (hx : a.eval x = u) (hu : Byt w u m)
    (hlen : l.length + m.length ≤ 134217728) (hbase : B.b ≤ w.heap.size)
    (h : ∀ v' w', OwnX w' B v' (l ++ m) → w.grownBy w' v.ownBlock → K (a.put o.dst v') w') : if Region.wanted o (yielded ops a.tmps) = true then Oper.wp Tryz.prog o a w K Q else E :=
  step_appAt hgd s x ho 0 v l hs hown.1 u m hx hu hlen (Nat.zero_le _) (fun v' w' h1 h2 h3 => h v' w' ⟨h1, where_at hbase hown.2 h3⟩ h2)
theorem wpList_appX {w : World} {ops : Array Oper} {rest : List Oper} {o : Oper} {a : Act} {Q : Exit → Act → World → Prop} (hgd : o.guard = none) (s x : Operand)
    (ho : o.op = .call { callee := .builtin .append, args := #[s, x], argTypes := #[22, 22] })
    (B : Bd) (v : Value) (l : List Int) (hs : a.eval s = v) (hown : OwnX w B v l) (u : Value) (m : List Int) (hx : a.eval x = u) (hu : Byt w u m)
    (hlen : l.length + m.length ≤ 134217728) (hbase : B.b ≤ w.heap.size)
    (h : ∀ v' w', OwnX w' B v' (l ++ m) → w.grownBy w' v.ownBlock → wpList Tryz.prog ops Q rest (a.put o.dst v') w') : wpList Tryz.prog ops Q (o :: rest) a w :=
  wpList_appAt hgd s x ho 0 v l hs hown.1 u m hx hu hlen (Nat.zero_le _) (fun v' w' h1 h2 h3 => h v' w' ⟨h1, where_at hbase hown.2 h3⟩ h2)
/-- A string appended: where what comes lies. -/
theorem run_appsAt {w : World} (ty : TypeId) (base : Nat) (v : Value) (l : List Int) (hown : Own w base v l) (t : ByteArray) (m : List Int) (hm : Lib.strCells t = vals m) (hok : okB m) (hlen : l.length + m.length ≤ 134217728) (hbase : base ≤ w.heap.size) :
    ∃ v' w', (Builtin.append_ #[22, 9] ty #[v, .string t]).run Tryz.prog w = .ok v' w' ∧ Own w' base v' (l ++ m) ∧ w.grownBy w' v.ownBlock ∧ (v'.ownBlock = v.ownBlock ∨ v'.ownBlock = some w.heap.size) := by
  obtain ⟨i0, hi, hz0, hz1, hz2⟩ := info_parts Tryz.info5
  have hsz : t.size = m.length := by rw [← Lib.strCells_length, hm, vals_len]
  obtain ⟨v', w', hr, h2, h3, h4⟩ := Lib.run_append_own_string (P := Tryz.prog) w base 22 9 ty 5 i0 Tryz.underlying22 Tryz.underlying9 hi hz0 hz1 hz2 v l.length (vals l) hown.2 t (by rw [hsz]; unfold maxLen; omega) (by omega) hbase
  refine ⟨v', w', hr, ⟨hown.1.app hok, by rw [vals_app, List.length_append, ← hsz, ← hm]; exact h2⟩, h3, ?_⟩
  have hxl : (vals l).length = l.length := vals_len l
  rcases hown.2.2 with ⟨rfl, hz⟩ | ⟨g, cap, cur, rfl, hbg, hg, hnc, hcm, hcs, htake⟩
  · by_cases hm0 : t.size = 0
    · rw [h4.2 ⟨rfl, hm0⟩]
      exact .inl rfl
    · have hr2 := run_append_nil_string (P := Tryz.prog) w 22 9 ty 5 i0 (.int .u8 0) Tryz.underlying22 Tryz.underlying9 hi hz0 t (by omega) (by omega) (by rw [hz2]; omega)
      rw [hr2] at hr
      injection hr with e1 _
      subst e1
      exact .inr rfl
  · by_cases hroom : l.length + t.size ≤ cap
    · have hcs' : cur.size = cap := by simpa using hcs
      have hr2 := Lib.run_append_room_string (P := Tryz.prog) w 22 9 ty 5 i0 Tryz.underlying22 Tryz.underlying9 hi hz1 g l.length cap cur hg t hroom (by omega)
      rw [hr2] at hr
      injection hr with e1 _
      subst e1
      exact .inl rfl
    · have holds : ∀ j u, (vals l)[j]? = some u → w.cell? ((⟨g, 0, none⟩ : Addr).add j) = some u := hown.2.cells (g := g) rfl
      have hr2 := Lib.run_append_grow_string (P := Tryz.prog) w 22 9 ty 5 i0 (.int .u8 0) Tryz.underlying22 Tryz.underlying9 hi hz0 ⟨g, 0, none⟩ l.length cap (vals l) (by rw [hz1]; omega) holds t (by omega) (by omega) (by rw [hz2]; exact growslice_fits (by omega) (by omega))
      rw [hr2] at hr
      injection hr with e1 _
      subst e1
      exact .inr rfl
theorem step_appsX {w : World} {ops : Array Oper} {o : Oper} {a : Act} {K : Act → World → Prop} {Q : Exit → Act → World → Prop} {E : Prop} (hgd : o.guard = none) (s x : Operand)
    (ho : o.op = .call { callee := .builtin .append, args := #[s, x], argTypes := #[22, 9] })
    (B : Bd) (v : Value) (l : List Int) (hs : a.eval s = v) (hown : OwnX w B v l) (t : ByteArray) (m : List Int) (hx : a.eval x = .string t) (hm : Lib.strCells t = vals m) (hok : okB m)
    (hlen : l.length + m.length ≤ 134217728) (hbase : B.b ≤ w.heap.size)
    (h : ∀ v' w', OwnX w' B v' (l ++ m) → w.grownBy w' v.ownBlock → K (a.put o.dst v') w') : if Region.wanted o (yielded ops a.tmps) = true then Oper.wp Tryz.prog o a w K Q else E := by
  have hw : Region.wanted o (yielded ops a.tmps) = true := by simp [Region.wanted, hgd]
  rw [if_pos hw]
  obtain ⟨v', w', hr, h2, h3, h4⟩ := run_appsAt o.type 0 v l hown.1 t m hm hok hlen (Nat.zero_le _)
  unfold Oper.wp execOp
  simp only [ho, resolve, invoke, builtin, Sem.run_bind, Sem.run_pure, Result.andThen_ok, List.map_toArray, List.map_cons, List.map_nil, hs, hx, hr]
  exact h v' w' ⟨h2, where_at hbase hown.2 h4⟩ h3
theorem wpList_appsX {w : World} {ops : Array Oper} {rest : List Oper} {o : Oper} {a : Act} {Q : Exit → Act → World → Prop} (hgd : o.guard = none) (s x : Operand)
    (ho : o.op = .call { callee := .builtin .append, args := #[s, x], argTypes := #[22, 9] })
    (B : Bd) (v : Value) (l : List Int) (hs : a.eval s = v) (hown : OwnX w B v l) (t : ByteArray) (m : List Int) (hx : a.eval x = .string t) (hm : Lib.strCells t = vals m) (hok : okB m)
    (hlen : l.length + m.length ≤ 134217728) (hbase : B.b ≤ w.heap.size)
    (h : ∀ v' w', OwnX w' B v' (l ++ m) → w.grownBy w' v.ownBlock → wpList Tryz.prog ops Q rest (a.put o.dst v') w') : wpList Tryz.prog ops Q (o :: rest) a w := by
  refine wpList_plain hgd fun K hK' => ?_
  have := step_appsX (ops := ops) (K := K) (Q := Q) (E := True) hgd s x ho B v l hs hown t m hx hm hok hlen hbase (fun v' w' h1 h2 => hK' _ _ (h v' w' h1 h2))
  rw [if_pos (by simp [Region.wanted, hgd])] at this
  exact this
end Go.Proofs.YtaoodcielfabdaaGreat

/- spec.l3say, where the row that grows is older than what is read. -/
namespace Go.Proofs.YtaoodcielfabdaaGreat
open Go.RowKit
set_option linter.unusedVariables false

set_option maxHeartbeats 3200000 in
theorem sayX_any (w0 w : World) (B : Bd) (v u : Value) (l t : List Int) (q : Bool) (hB : B.b ≤ w.heap.size) (ho : OwnX w B v l) (hu : Byt w0 u t) (hW : Lk B w0 w) (h0 : w0.heap.size ≤ B.b) (hlen : l.length + (say q t).length ≤ 100000000) :
    Calls Tryz.prog 156 #[v, u, .bool q] w fun e w' => ∃ v', e = .returned v' ∧ OwnX w' B v' (l ++ say q t) ∧ Frp (MtX B) w w' := by
  obtain ⟨av, cv, rfl, _, _⟩ := ho.byt.shape
  obtain ⟨au, cu, rfl, _, _⟩ := hu.shape
  have hml := hu.2.1
  unfold maxLen at hml
  have hm' : (t.length : Int) ≤ 9223372036854775807 := by omega
  go_enter Tryz.func156, Tryz.ntmps156
  go_wp2_with fail
  go_loopw [0, 7] (fun b i wr => ∃ j : Nat, j ≤ t.length ∧ i = .int .i64 j ∧ OwnX wr B b (l ++ say q (t.take j)) ∧ Frp (MtX B) w wr) (fun _ i _ => t.length - (intOf i).toNat)
  case atStart => exact ⟨0, Nat.zero_le _, rfl, by simpa [say] using ho, Frp.refl _ _⟩
  case round =>
    obtain ⟨j, hj, rfl, hr, hb⟩ := hrel
    by_cases hjl : j < t.length
    · have hst := say_take q t j hjl
      have hle := say_le q t (j + 1)
      obtain ⟨hok, _, ⟨_, e⟩ | ⟨_, _, _, _, e⟩ | ⟨p, off, cap, e, h1, h2, h3, h4, h5⟩⟩ := hu
      · subst e; simp at hjl
      · subst e; simp at hjl
      injection e with e1 _ e3
      subst e1 e3
      have hc := h5 j hjl
      obtain ⟨x, hx⟩ : ∃ x, x = t[j] := ⟨_, rfl⟩
      rw [getD_at hjl, ← hx] at hc
      rw [← hx] at hst
      have hx1 : 0 ≤ x := by rw [hx]; exact (hok _ (List.getElem_mem hjl)).1
      have hx2 : x ≤ 255 := by rw [hx]; exact (hok _ (List.getElem_mem hjl)).2
      have hW2 : Lk B w0 wr := hW.frp hb
      have hcx : wr.cell? ⟨p, off + j, none⟩ = some (.int .u8 x) := hW2.cell hc
      have hBr : B.b ≤ wr.heap.size := Nat.le_trans hB hb.size
      obtain ⟨ab, cb, hbv, _, _⟩ := hr.byt.shape
      subst hbv
      have hl2 : (l ++ say q (t.take j)).length + (sayB q x).length ≤ 100000000 := by
        rw [hst] at hle
        simp only [List.length_append] at hle ⊢
        omega
      have hjl' : (j : Int) < (t.length : Int) := by omega
      have HST := hide hst
      obtain ⟨L, hL⟩ : ∃ L, L = l ++ say q (t.take j) := ⟨_, rfl⟩
      have HL := hide (show l ++ say q (t.take (j + 1)) = L ++ sayB q x by rw [hst, hL, List.append_assoc])
      rw [← hL] at hr hl2 ⊢
      have hl3 : L.length ≤ 100000000 := by omega
      have HR := hide hr
      clear hr hst hx hc hle h5 hL HST
      by_cases k1 : x = 38
      · have d1 : (x == 38) = true := by simpa using k1
        have HY := hide (show sayB q x = [38, 97, 109, 112, 59] by unfold sayB; rw [if_pos k1])
        clear k1
        go_wp2_with (at_builtin; refine wpList_appsX rfl _ _ rfl B _ L rfl (unhide HR) _ [38, 97, 109, 112, 59] rfl rfl okB_amp (by first | omega | (simp; omega)) (by first | exact hBr | (simp; omega)) ?_)
        intro v2 w2 ho2 hg2
        have hb2 : Frp (MtX B) w w2 := hb.trans (Frp.ofAppX (unhide HR) hg2)
        have HO := hide (show OwnX w2 B v2 (l ++ say q (t.take (j + 1))) by rw [unhide HL, unhide HY]; exact ho2)
        obtain ⟨a2, c2, hv2, _, _⟩ := ho2.byt.shape
        subst hv2
        clear ho2 hg2
        go_wp2_with fail
        go_roundw
        case rel => exact ⟨j + 1, by omega, by go_num, unhide HO, hb2⟩
        case measure => simp [intOf]; omega
      · have d1 : (x == 38) = false := by simpa using k1
        by_cases k2 : x = 60
        · have d2 : (x == 60) = true := by simpa using k2
          have HY := hide (show sayB q x = [38, 108, 116, 59] by unfold sayB; rw [if_neg k1, if_pos k2])
          clear k1 k2
          go_wp2_with (at_builtin; refine wpList_appsX rfl _ _ rfl B _ L rfl (unhide HR) _ [38, 108, 116, 59] rfl rfl okB_lt (by first | omega | (simp; omega)) (by first | exact hBr | (simp; omega)) ?_)
          intro v2 w2 ho2 hg2
          have hb2 : Frp (MtX B) w w2 := hb.trans (Frp.ofAppX (unhide HR) hg2)
          have HO := hide (show OwnX w2 B v2 (l ++ say q (t.take (j + 1))) by rw [unhide HL, unhide HY]; exact ho2)
          obtain ⟨a2, c2, hv2, _, _⟩ := ho2.byt.shape
          subst hv2
          clear ho2 hg2
          go_wp2_with fail
          go_roundw
          case rel => exact ⟨j + 1, by omega, by go_num, unhide HO, hb2⟩
          case measure => simp [intOf]; omega
        · have d2 : (x == 60) = false := by simpa using k2
          by_cases k3 : x = 34 ∧ q = true
          · have d3 : (x == 34) = true := by simpa using k3.1
            have HY := hide (show sayB q x = [38, 113, 117, 111, 116, 59] by unfold sayB; rw [if_neg k1, if_neg k2, if_pos k3])
            obtain ⟨_, hq⟩ := k3
            subst hq
            clear k1 k2
            go_wp2_with (at_builtin; refine wpList_appsX rfl _ _ rfl B _ L rfl (unhide HR) _ [38, 113, 117, 111, 116, 59] rfl rfl okB_quot (by first | omega | (simp; omega)) (by first | exact hBr | (simp; omega)) ?_)
            intro v2 w2 ho2 hg2
            have hb2 : Frp (MtX B) w w2 := hb.trans (Frp.ofAppX (unhide HR) hg2)
            have HO := hide (show OwnX w2 B v2 (l ++ say true (t.take (j + 1))) by rw [unhide HL, unhide HY]; exact ho2)
            obtain ⟨a2, c2, hv2, _, _⟩ := ho2.byt.shape
            subst hv2
            clear ho2 hg2
            go_wp2_with fail
            go_roundw
            case rel => exact ⟨j + 1, by omega, by go_num, unhide HO, hb2⟩
            case measure => simp [intOf]; omega
          · have HY := hide (show sayB q x = [x] by unfold sayB; rw [if_neg k1, if_neg k2, if_neg k3])
            have d3 : ((x == 34) = true ∧ q = false) ∨ (x == 34) = false := by
              by_cases h34 : x = 34
              · left
                refine ⟨by simpa using h34, ?_⟩
                cases q with
                | true => exact absurd ⟨h34, rfl⟩ k3
                | false => rfl
              · right; simpa using h34
            clear k1 k2 k3
            rcases d3 with ⟨d3, rfl⟩ | d3
            · go_wp2_with (at_builtin; (refine wpList_appX rfl _ _ rfl B _ L rfl ((unhide HR).alloc _) _ [x] rfl (byt_one wr x hx1 hx2) (by first | omega | (simp; omega)) (by first | exact hBr | (simp; omega)) ?_))
              intro v2 w2 ho2 hg2
              have hb2 : Frp (MtX B) w w2 := (hb.trans (Frp.ofBelow ((Below.refl _ _).alloc (Nat.le_refl _) _) _)).trans (Frp.ofAppX ((unhide HR).alloc _) hg2)
              have HO := hide (show OwnX w2 B v2 (l ++ say false (t.take (j + 1))) by rw [unhide HL, unhide HY]; exact ho2)
              obtain ⟨a2, c2, hv2, _, _⟩ := ho2.byt.shape
              subst hv2
              clear ho2 hg2
              go_wp2_with fail
              go_roundw
              case rel => exact ⟨j + 1, by omega, by go_num, unhide HO, hb2⟩
              case measure => simp [intOf]; omega
            · go_wp2_with (at_builtin; (refine wpList_appX rfl _ _ rfl B _ L rfl ((unhide HR).alloc _) _ [x] rfl (byt_one wr x hx1 hx2) (by first | omega | (simp; omega)) (by first | exact hBr | (simp; omega)) ?_))
              intro v2 w2 ho2 hg2
              have hb2 : Frp (MtX B) w w2 := (hb.trans (Frp.ofBelow ((Below.refl _ _).alloc (Nat.le_refl _) _) _)).trans (Frp.ofAppX ((unhide HR).alloc _) hg2)
              have HO := hide (show OwnX w2 B v2 (l ++ say q (t.take (j + 1))) by rw [unhide HL, unhide HY]; exact ho2)
              obtain ⟨a2, c2, hv2, _, _⟩ := ho2.byt.shape
              subst hv2
              clear ho2 hg2
              go_wp2_with fail
              go_roundw
              case rel => exact ⟨j + 1, by omega, by go_num, unhide HO, hb2⟩
              case measure => simp [intOf]; omega
    · have e : j = t.length := by omega
      subst e
      rw [List.take_length] at hr
      obtain ⟨ab, cb, hbv, _, _⟩ := hr.byt.shape
      subst hbv
      clear hu
      go_wp2_with fail
      go_ret
      exact ⟨_, rfl, hr, hb⟩
end Go.Proofs.YtaoodcielfabdaaGreat
