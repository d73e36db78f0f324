/- Rows of ints in memory: what may be read, what is owned. -/
import Derived.Test.YtcabolcfoijglaaBase
namespace Go.Proofs.Ytcabolcfoijglaa
open Go.RowKit
set_option linter.unusedVariables false

/-- Each number is a byte. -/
def okZ (l : List Int) : Prop := ∀ x ∈ l, -9223372036854775808 ≤ x ∧ x ≤ 9223372036854775807

/-- The cells of a row of bytes. -/
def valz (l : List Int) : List Value := l.map (Value.int .i64)

/-- The value v is a slice whose elements can be read in w: the bytes l. -/
def Ints (w : World) (v : Value) (l : List Int) : Prop :=
  okZ l ∧ l.length ≤ maxLen ∧
  ((v = .slice none 0 0 ∧ l = []) ∨
   (∃ x cap, v = .slice (some x) 0 cap ∧ cap ≤ maxLen ∧ l = []) ∨
   (∃ b off cap, v = .slice (some ⟨b, off, none⟩) l.length cap ∧ l.length ≤ cap ∧ cap ≤ maxLen ∧ l ≠ [] ∧ b < w.heap.size ∧
      ∀ i, i < l.length → w.cell? ⟨b, off + i, none⟩ = some (.int .i64 (l.getD i 0))))

/-- The value v is a slice at the head of a block of the call's own, from 'base' on: the bytes l. -/
def OwnZ (w : World) (base : Nat) (v : Value) (l : List Int) : Prop := okZ l ∧ w.ownsRow base 3 1 v l.length (valz l)

theorem okZ_nil : okZ [] := fun _ h => by cases h
theorem okZ.app {a b : List Int} (h : okZ a) (k : okZ b) : okZ (a ++ b) := fun x hx => by
  rcases List.mem_append.1 hx with h' | h'
  · exact h x h'
  · exact k x h'
theorem okZ.take {a : List Int} (h : okZ a) (n : Nat) : okZ (a.take n) := fun x hx => h x (List.mem_of_mem_take hx)
theorem okZ.drop {a : List Int} (h : okZ a) (n : Nat) : okZ (a.drop n) := fun x hx => h x (List.mem_of_mem_drop hx)
theorem okZ.at {a : List Int} (h : okZ a) (i : Nat) : -9223372036854775808 ≤ a[i]?.getD 0 ∧ a[i]?.getD 0 ≤ 9223372036854775807 := by
  by_cases hi : i < a.length
  · rw [List.getElem?_eq_getElem hi]; exact h _ (List.getElem_mem hi)
  · rw [List.getElem?_eq_none (by omega)]; decide
theorem okZ.one {x : Int} (h0 : -9223372036854775808 ≤ x) (h1 : x ≤ 9223372036854775807) : okZ [x] := fun y hy => by simp at hy; subst hy; exact ⟨h0, h1⟩

theorem valz_len (l : List Int) : (valz l).length = l.length := by simp [valz]
theorem valz_app (a b : List Int) : valz (a ++ b) = valz a ++ valz b := by simp [valz]
theorem valz_one (l : List Int) : ∀ u ∈ valz l, u.oneCell' = true := ints_oneCell _ _
theorem valz_at {l : List Int} {i : Nat} (h : i < l.length) : (valz l)[i]? = some (.int .i64 (l.getD i 0)) := by simp [valz, h]

/-- What is owned lies in a block between 'base' and the heap's end. -/
theorem OwnZ.lt {w : World} {base : Nat} {v : Value} {l : List Int} (h : OwnZ w base v l) : ∀ k, v.ownBlock = some k → base ≤ k ∧ k < w.heap.size := h.2.lt

theorem OwnZ.mono {w : World} {base base' : Nat} {v : Value} {l : List Int} (h : OwnZ w base v l) (hb : base' ≤ base) : OwnZ w base' v l := by
  refine ⟨h.1, h.2.1, ?_⟩
  rcases h.2.2 with h' | ⟨g, cap, cur, h1, h2, h3⟩
  · exact .inl h'
  · exact .inr ⟨g, cap, cur, h1, by omega, h3⟩

/-- What is owned can be read. -/
theorem OwnZ.ints {w : World} {base : Nat} {v : Value} {l : List Int} (h : OwnZ w base v l) : Ints w v l := by
  obtain ⟨hok, hlen, hrow⟩ := h
  have hl := hlen
  rcases hrow with ⟨rfl, h0⟩ | ⟨g, cap, cur, rfl, hb, hg, hnc, hcm, hcs, htake⟩
  · exact ⟨hok, by omega, .inl ⟨rfl, List.eq_nil_of_length_eq_zero h0⟩⟩
  · refine ⟨hok, by omega, .inr ?_⟩
    by_cases h0 : l = []
    · subst h0; exact .inl ⟨_, cap, rfl, hcm, rfl⟩
    · refine .inr ⟨g, 0, cap, rfl, hnc, hcm, h0, ?_, fun i hi => ?_⟩
      · by_cases hlt : g < w.heap.size
        · exact hlt
        · rw [Array.getElem?_eq_none (by omega)] at hg; cases hg
      · have := World.ownsRow.cellAt (w := w) (base := base) (e := 3) (size := 1) (g := g) (n := l.length) (cap := cap) (xs := valz l) ⟨hlen, .inr ⟨g, cap, cur, rfl, hb, hg, hnc, hcm, hcs, htake⟩⟩ i (by omega)
        rw [valz_at hi] at this
        simpa using this

/-- The length that a readable value bears. -/
theorem Ints.shape {w : World} {v : Value} {l : List Int} (h : Ints w v l) : ∃ a cap, v = .slice a l.length cap ∧ l.length ≤ cap ∧ cap ≤ maxLen := by
  obtain ⟨_, hm, ⟨rfl, rfl⟩ | ⟨x, cap, rfl, hc, rfl⟩ | ⟨b, off, cap, rfl, h1, h2, _⟩⟩ := h
  · exact ⟨none, 0, rfl, Nat.le_refl _, hm⟩
  · exact ⟨some x, cap, rfl, Nat.zero_le _, hc⟩
  · exact ⟨_, cap, rfl, h1, h2⟩

/-- A world in which all blocks that were there stand as they stood. -/
theorem Ints.keep {w w' : World} {v : Value} {l : List Int} (h : Ints w v l) (hb : Below w.heap.size w w') : Ints w' v l := by
  obtain ⟨hok, hm, h1 | h2 | ⟨b, off, cap, rfl, h1, h2, h3, h4, h5⟩⟩ := h
  · exact ⟨hok, hm, .inl h1⟩
  · exact ⟨hok, hm, .inr (.inl h2)⟩
  · exact ⟨hok, hm, .inr (.inr ⟨b, off, cap, rfl, h1, h2, h3, Nat.lt_of_lt_of_le h4 hb.size, fun i hi => by rw [hb.cell (p := ⟨b, off + i, none⟩) h4]; exact h5 i hi⟩)⟩

theorem OwnZ.keep {w w' : World} {base : Nat} {v : Value} {l : List Int} (h : OwnZ w base v l) (hb : Below w.heap.size w w') : OwnZ w' base v l :=
  ⟨h.1, h.2.kept (row := none) ⟨hb.os, hb.tape, hb.output, hb.size, fun k hk _ => hb.block k hk⟩ (by cases hv : v.ownBlock <;> simp)⟩

/-- A write into another block leaves what is owned. -/
theorem OwnZ.keepBy {w w' : World} {base : Nat} {v : Value} {l : List Int} {row : Option Nat} (h : OwnZ w base v l) (hg : w.grownBy w' row) (hne : v.ownBlock = none ∨ v.ownBlock ≠ row) : OwnZ w' base v l :=
  ⟨h.1, h.2.kept hg hne⟩

/-- An argument that was read as a row of numbers is a readable row of bytes. -/
theorem ints_of_row {w : World} {a : Option Addr} {len cap : Nat} {zs : List Int}
    (h : (a = none ∧ len = 0 ∧ cap = 0 ∧ zs = []) ∨ ∃ x, a = some x ∧ len ≤ cap ∧ cap ≤ maxLen ∧ zs.length = cap ∧ (∀ i, i < zs.length → w.cell? (x.add i) = some (.int .i64 (zs.getD i 0))) ∧ ∀ n ∈ zs, (Lit.int .i64 n).wf = true) :
    Ints w (.slice a len cap) (zs.take len) := by
  rcases h with ⟨rfl, rfl, rfl, rfl⟩ | ⟨x, rfl, hl, hm, hz, hcell, hwz⟩
  · exact ⟨okZ_nil, by simp [maxLen], .inl ⟨rfl, rfl⟩⟩
  · have hok : okZ (zs.take len) := fun n hn => bounds_i64 (hwz n (List.mem_of_mem_take hn))
    have hlen : (zs.take len).length = len := by simp; omega
    by_cases h0 : len = 0
    · subst h0
      exact ⟨hok, by simp [maxLen], .inr (.inl ⟨x, cap, rfl, hm, by simp⟩)⟩
    · obtain ⟨b, off, spot⟩ := x
      have hc := hcell 0 (by omega)
      have hspot : spot = none := by simpa [Addr.add] using World.cell?_spot hc
      subst hspot
      refine ⟨hok, by omega, .inr (.inr ⟨b, off, cap, by rw [hlen], by omega, hm, ?_, ?_, fun i hi => ?_⟩)⟩
      · intro e; rw [e] at hlen; simp at hlen; omega
      · have := lt_of_cell hc; simpa [Addr.add] using this
      · have hi' := hcell i (by omega)
        rw [List.getD_eq_getElem?_getD, List.getElem?_take, if_pos (by omega), ← List.getD_eq_getElem?_getD]
        rw [add_plain] at hi'
        exact hi'

end Go.Proofs.Ytcabolcfoijglaa
