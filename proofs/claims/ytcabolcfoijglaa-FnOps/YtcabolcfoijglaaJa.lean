/- Own texts joined: Base, LocB, To, App, Str, RowM, Cur, New0, DrawI, Word, BaseZ, ToZ, AppZ, DrawK, NameS. -/
import Derived.WalkKit
import Derived.OpenShut
import Derived.WalkSpells
import Derived.WalkSmall
import Derived.Laws.AppendOwnNone
import Derived.Laws.CopyOwn
import Derived.Test.YtcabolcfoijglaaChecked
import Derived.Laws.IdiomStrings
import Derived.ArgAppend
import Derived.Deep.QuietTactic
import Derived.BigQuiet

/- Rows of bytes in memory, as the contracts of this seat speak of them: what may be read, what is owned, what other blocks keep. No condition. -/
namespace Go.Proofs.Ytcabolcfoijglaa
open Go.RowKit
set_option linter.unusedVariables false

theorem hide {p : Prop} (h : p) : Hid p := h
theorem unhide {p : Prop} (h : Hid p) : p := h

/-- Each number is a byte. -/
def okB (l : List Int) : Prop := ∀ x ∈ l, 0 ≤ x ∧ x ≤ 255

/-- The cells of a row of bytes. -/
def vals (l : List Int) : List Value := l.map (Value.int .u8)

/-- The value v is a slice whose elements can be read in w: the bytes l. -/
def Byt (w : World) (v : Value) (l : List Int) : Prop :=
  okB l ∧ l.length ≤ maxLen ∧
  ((v = .slice none 0 0 ∧ l = []) ∨
   (∃ x cap, v = .slice (some x) 0 cap ∧ cap ≤ maxLen ∧ l = []) ∨
   (∃ b off cap, v = .slice (some ⟨b, off, none⟩) l.length cap ∧ l.length ≤ cap ∧ cap ≤ maxLen ∧ l ≠ [] ∧ b < w.heap.size ∧
      ∀ i, i < l.length → w.cell? ⟨b, off + i, none⟩ = some (.int .u8 (l.getD i 0))))

/-- The value v is a slice at the head of a block of the call's own, from 'base' on: the bytes l. -/
def Own (w : World) (base : Nat) (v : Value) (l : List Int) : Prop := okB l ∧ w.ownsRow base 5 1 v l.length (vals l)

theorem getD_at {l : List Int} {k : Nat} (h : k < l.length) : l.getD k 0 = l[k] := by simp [h]
theorem okB_nil : okB [] := fun _ h => by cases h
theorem okB.app {a b : List Int} (h : okB a) (k : okB b) : okB (a ++ b) := fun x hx => by
  rcases List.mem_append.1 hx with h' | h'
  · exact h x h'
  · exact k x h'
theorem okB.take {a : List Int} (h : okB a) (n : Nat) : okB (a.take n) := fun x hx => h x (List.mem_of_mem_take hx)
theorem okB.drop {a : List Int} (h : okB a) (n : Nat) : okB (a.drop n) := fun x hx => h x (List.mem_of_mem_drop hx)
theorem okB.at {a : List Int} (h : okB a) (i : Nat) : 0 ≤ a[i]?.getD 0 ∧ a[i]?.getD 0 ≤ 255 := by
  by_cases hi : i < a.length
  · rw [List.getElem?_eq_getElem hi]; exact h _ (List.getElem_mem hi)
  · rw [List.getElem?_eq_none (by omega)]; decide
theorem okB.one {x : Int} (h0 : 0 ≤ x) (h1 : x ≤ 255) : okB [x] := fun y hy => by simp at hy; subst hy; exact ⟨h0, h1⟩

theorem vals_len (l : List Int) : (vals l).length = l.length := by simp [vals]
theorem vals_app (a b : List Int) : vals (a ++ b) = vals a ++ vals b := by simp [vals]
theorem vals_one (l : List Int) : ∀ u ∈ vals l, u.oneCell' = true := ints_oneCell _ _
theorem vals_at {l : List Int} {i : Nat} (h : i < l.length) : (vals l)[i]? = some (.int .u8 (l.getD i 0)) := by simp [vals, h]

/-- What is owned lies in a block between 'base' and the heap's end. -/
theorem Own.lt {w : World} {base : Nat} {v : Value} {l : List Int} (h : Own w base v l) : ∀ k, v.ownBlock = some k → base ≤ k ∧ k < w.heap.size := h.2.lt

theorem Own.mono {w : World} {base base' : Nat} {v : Value} {l : List Int} (h : Own w base v l) (hb : base' ≤ base) : Own w base' v l := by
  refine ⟨h.1, h.2.1, ?_⟩
  rcases h.2.2 with h' | ⟨g, cap, cur, h1, h2, h3⟩
  · exact .inl h'
  · exact .inr ⟨g, cap, cur, h1, by omega, h3⟩

/-- What is owned can be read. -/
theorem Own.byt {w : World} {base : Nat} {v : Value} {l : List Int} (h : Own w base v l) : Byt w v l := by
  obtain ⟨hok, hlen, hrow⟩ := h
  have hl := hlen
  rcases hrow with ⟨rfl, h0⟩ | ⟨g, cap, cur, rfl, hb, hg, hnc, hcm, hcs, htake⟩
  · exact ⟨hok, by omega, .inl ⟨rfl, List.eq_nil_of_length_eq_zero h0⟩⟩
  · refine ⟨hok, by omega, .inr ?_⟩
    by_cases h0 : l = []
    · subst h0; exact .inl ⟨_, cap, rfl, hcm, rfl⟩
    · refine .inr ⟨g, 0, cap, rfl, hnc, hcm, h0, ?_, fun i hi => ?_⟩
      · by_cases hlt : g < w.heap.size
        · exact hlt
        · rw [Array.getElem?_eq_none (by omega)] at hg; cases hg
      · have := World.ownsRow.cellAt (w := w) (base := base) (e := 5) (size := 1) (g := g) (n := l.length) (cap := cap) (xs := vals l) ⟨hlen, .inr ⟨g, cap, cur, rfl, hb, hg, hnc, hcm, hcs, htake⟩⟩ i (by omega)
        rw [vals_at hi] at this
        simpa using this

/-- The length that a readable value bears. -/
theorem Byt.shape {w : World} {v : Value} {l : List Int} (h : Byt w v l) : ∃ a cap, v = .slice a l.length cap ∧ l.length ≤ cap ∧ cap ≤ maxLen := by
  obtain ⟨_, hm, ⟨rfl, rfl⟩ | ⟨x, cap, rfl, hc, rfl⟩ | ⟨b, off, cap, rfl, h1, h2, _⟩⟩ := h
  · exact ⟨none, 0, rfl, Nat.le_refl _, hm⟩
  · exact ⟨some x, cap, rfl, Nat.zero_le _, hc⟩
  · exact ⟨_, cap, rfl, h1, h2⟩

/-- A world in which all blocks that were there stand as they stood. -/
theorem Byt.keep {w w' : World} {v : Value} {l : List Int} (h : Byt w v l) (hb : Below w.heap.size w w') : Byt w' v l := by
  obtain ⟨hok, hm, h1 | h2 | ⟨b, off, cap, rfl, h1, h2, h3, h4, h5⟩⟩ := h
  · exact ⟨hok, hm, .inl h1⟩
  · exact ⟨hok, hm, .inr (.inl h2)⟩
  · exact ⟨hok, hm, .inr (.inr ⟨b, off, cap, rfl, h1, h2, h3, Nat.lt_of_lt_of_le h4 hb.size, fun i hi => by rw [hb.cell (p := ⟨b, off + i, none⟩) h4]; exact h5 i hi⟩)⟩

theorem Own.keep {w w' : World} {base : Nat} {v : Value} {l : List Int} (h : Own w base v l) (hb : Below w.heap.size w w') : Own w' base v l :=
  ⟨h.1, h.2.kept (row := none) ⟨hb.os, hb.tape, hb.output, hb.size, fun k hk _ => hb.block k hk⟩ (by cases hv : v.ownBlock <;> simp)⟩

/-- A write into another block leaves what is owned. -/
theorem Own.keepBy {w w' : World} {base : Nat} {v : Value} {l : List Int} {row : Option Nat} (h : Own w base v l) (hg : w.grownBy w' row) (hne : v.ownBlock = none ∨ v.ownBlock ≠ row) : Own w' base v l :=
  ⟨h.1, h.2.kept hg hne⟩

theorem Below.ofGrown {w w' : World} (h : w.grownBy w' none) : Below w.heap.size w w' := ⟨h.os, h.tape, h.output, h.size, fun k hk => h.block k hk (by simp)⟩
theorem Below.toGrown {w w' : World} (h : Below w.heap.size w w') (row : Option Nat) : w.grownBy w' row := ⟨h.os, h.tape, h.output, h.size, fun k hk _ => h.block k hk⟩

/-- Two steps of which the first keeps all that was there, the second what was there before both. -/
theorem bstep {a b c : World} (h : Below a.heap.size a b) (k : Below b.heap.size b c) : Below a.heap.size a c := h.trans (k.mono h.size)
/-- A write into a block that was not there at the start. -/
theorem bstepBy {a b c : World} {row : Option Nat} (h : Below a.heap.size a b) (k : b.grownBy c row) (hr : ∀ g, row = some g → a.heap.size ≤ g) : Below a.heap.size a c := h.grown k h.size hr
theorem grown_trans {a b c : World} {row : Option Nat} (h : a.grownBy b row) (k : b.grownBy c row) : a.grownBy c row :=
  ⟨k.os.trans h.os, k.tape.trans h.tape, k.output.trans h.output, Nat.le_trans h.size k.size, fun i hi hne => (k.block i (Nat.lt_of_lt_of_le hi h.size) hne).trans (h.block i hi hne)⟩

theorem add_plain (b off i : Nat) : (⟨b, off, none⟩ : Addr).add i = ⟨b, off + i, none⟩ := by
  unfold Addr.add
  by_cases h : i = 0 <;> simp [h]
theorem lt_of_cell {w : World} {a : Addr} {v : Value} (h : w.cell? a = some v) : a.block < w.heap.size := by
  by_cases hlt : a.block < w.heap.size
  · exact hlt
  · unfold World.cell? at h
    rw [Array.getElem?_eq_none (by omega)] at h
    cases h

/-- An argument that was read as a row of numbers is a readable row of bytes. -/
theorem byt_of_row {w : World} {a : Option Addr} {len cap : Nat} {zs : List Int}
    (h : (a = none ∧ len = 0 ∧ cap = 0 ∧ zs = []) ∨ ∃ x, a = some x ∧ len ≤ cap ∧ cap ≤ maxLen ∧ zs.length = cap ∧ (∀ i, i < zs.length → w.cell? (x.add i) = some (.int .u8 (zs.getD i 0))) ∧ ∀ n ∈ zs, (Lit.int .u8 n).wf = true) :
    Byt w (.slice a len cap) (zs.take len) := by
  rcases h with ⟨rfl, rfl, rfl, rfl⟩ | ⟨x, rfl, hl, hm, hz, hcell, hwz⟩
  · exact ⟨okB_nil, by simp [maxLen], .inl ⟨rfl, rfl⟩⟩
  · have hok : okB (zs.take len) := fun n hn => bounds_u8 (hwz n (List.mem_of_mem_take hn))
    have hlen : (zs.take len).length = len := by simp; omega
    by_cases h0 : len = 0
    · subst h0
      exact ⟨hok, by simp [maxLen], .inr (.inl ⟨x, cap, rfl, hm, by simp⟩)⟩
    · obtain ⟨b, off, spot⟩ := x
      have hc := hcell 0 (by omega)
      have hspot : spot = none := by simpa [Addr.add] using World.cell?_spot hc
      subst hspot
      refine ⟨hok, by omega, .inr (.inr ⟨b, off, cap, by rw [hlen], by omega, hm, ?_, ?_, fun i hi => ?_⟩)⟩
      · intro e; rw [e] at hlen; simp at hlen; omega
      · have := lt_of_cell hc; simpa [Addr.add] using this
      · have hi' := hcell i (by omega)
        rw [List.getD_eq_getElem?_getD, List.getElem?_take, if_pos (by omega), ← List.getD_eq_getElem?_getD]
        rw [add_plain] at hi'
        exact hi'

end Go.Proofs.Ytcabolcfoijglaa

/- Blocks of a call's own: what is known of them whole, and what becomes of them while others are written. -/
namespace Go.Proofs.Ytcabolcfoijglaa
open Go.RowKit
set_option linter.unusedVariables false

/-- The block of an owned slice. -/
def FB (v : Value) : List Nat := v.ownBlock.toList

/-- Of the blocks that were there none but those in S has turned. -/
structure Frm (w w' : World) (S : List Nat) : Prop where
  os : w'.os = w.os
  tape : w'.tape = w.tape
  output : w'.output = w.output
  size : w.heap.size ≤ w'.heap.size
  block : ∀ k, k < w.heap.size → k ∉ S → w'.heap[k]? = w.heap[k]?

theorem Frm.refl (w : World) (S : List Nat) : Frm w w S := ⟨rfl, rfl, rfl, Nat.le_refl _, fun _ _ _ => rfl⟩
theorem Frm.trans {a b c : World} {S : List Nat} (h : Frm a b S) (k : Frm b c S) : Frm a c S :=
  ⟨k.os.trans h.os, k.tape.trans h.tape, k.output.trans h.output, Nat.le_trans h.size k.size, fun i hi hn => (k.block i (Nat.lt_of_lt_of_le hi h.size) hn).trans (h.block i hi hn)⟩
theorem Frm.mono {a b : World} {S S' : List Nat} (h : Frm a b S) (hs : ∀ g ∈ S, g ∈ S') : Frm a b S' := ⟨h.os, h.tape, h.output, h.size, fun i hi hn => h.block i hi (fun e => hn (hs i e))⟩
theorem Frm.ofBelow {a b : World} (h : Below a.heap.size a b) (S : List Nat) : Frm a b S := ⟨h.os, h.tape, h.output, h.size, fun i hi _ => h.block i hi⟩
theorem Frm.ofGrown {a b : World} {row : Option Nat} (h : a.grownBy b row) : Frm a b row.toList := ⟨h.os, h.tape, h.output, h.size, fun i hi hn => h.block i hi (fun e => hn (by rw [← e]; simp))⟩
theorem Frm.below {a b : World} {S : List Nat} {B : Nat} (h : Frm a b S) (hB : B ≤ a.heap.size) (hs : ∀ g ∈ S, B ≤ g) : Below B a b := ⟨h.os, h.tape, h.output, h.size, fun i hi => h.block i (by omega) (fun e => by have := hs i e; omega)⟩
/-- A step that writes blocks which were not there at the start. -/
theorem Frm.new {a b c : World} {S S' : List Nat} (h : Frm a b S) (k : Frm b c S') (hs : ∀ g ∈ S', a.heap.size ≤ g) : Frm a c S :=
  ⟨k.os.trans h.os, k.tape.trans h.tape, k.output.trans h.output, Nat.le_trans h.size k.size, fun i hi hn => (k.block i (Nat.lt_of_lt_of_le hi h.size) (fun e => by have := hs i e; omega)).trans (h.block i hi hn)⟩

theorem ownsRow_frm {w w' : World} {base : Nat} {e : TypeId} {size : Nat} {v : Value} {n : Nat} {xs : List Value} {S : List Nat} (h : w.ownsRow base e size v n xs) (f : Frm w w' S) (hd : ∀ g ∈ FB v, g ∉ S) : w'.ownsRow base e size v n xs := by
  refine ⟨h.1, ?_⟩
  rcases h.2 with h' | ⟨g, cap, cur, rfl, hb, hg, hr⟩
  · exact .inl h'
  · have hlt : g < w.heap.size := by
      by_cases hlt : g < w.heap.size
      · exact hlt
      · rw [Array.getElem?_eq_none (by omega)] at hg; cases hg
    exact .inr ⟨g, cap, cur, rfl, hb, (f.block g hlt (hd g (by simp [FB, Value.ownBlock]))).trans hg, hr⟩
theorem Own.frm {w w' : World} {base : Nat} {v : Value} {l : List Int} {S : List Nat} (h : Own w base v l) (f : Frm w w' S) (hd : ∀ g ∈ FB v, g ∉ S) : Own w' base v l := ⟨h.1, ownsRow_frm h.2 f hd⟩
theorem ownsRow_base {w : World} {base : Nat} {e : TypeId} {size : Nat} {v : Value} {n : Nat} {xs : List Value} (h : w.ownsRow base e size v n xs) (b : Nat) (hb : b ≤ base) : w.ownsRow b e size v n xs := by
  refine ⟨h.1, ?_⟩
  rcases h.2 with h' | ⟨g, cap, cur, e1, h1, h2⟩
  · exact .inl h'
  · exact .inr ⟨g, cap, cur, e1, by omega, h2⟩

/-- Blocks from lo on, below hi. -/
def Rng (F : List Nat) (lo hi : Nat) : Prop := ∀ g ∈ F, lo ≤ g ∧ g < hi
theorem Rng.mono {F : List Nat} {lo hi lo' hi' : Nat} (h : Rng F lo hi) (h1 : lo' ≤ lo) (h2 : hi ≤ hi') : Rng F lo' hi' := fun g hg => by have := h g hg; omega
theorem Rng.app {F G : List Nat} {lo hi : Nat} (h : Rng F lo hi) (k : Rng G lo hi) : Rng (F ++ G) lo hi := fun g hg => by
  rcases List.mem_append.1 hg with h' | h'
  · exact h g h'
  · exact k g h'
theorem Rng.nil (lo hi : Nat) : Rng [] lo hi := fun g hg => by cases hg
theorem nodup_app {F G : List Nat} {lo mid hi : Nat} (hF : F.Nodup) (hG : G.Nodup) (h : Rng F lo mid) (k : Rng G mid hi) : (F ++ G).Nodup := by
  rw [List.nodup_append]
  exact ⟨hF, hG, fun a ha b hb e => by have := h a ha; have := k b hb; omega⟩
theorem FB_nodup (v : Value) : (FB v).Nodup := by unfold FB; cases v.ownBlock <;> simp
theorem Own.rng {w : World} {base : Nat} {v : Value} {l : List Int} (h : Own w base v l) : Rng (FB v) base w.heap.size := fun g hg => h.lt g (by simpa [FB] using hg)

/-- A block of the call's own that is known whole. -/
def Loc (w : World) (g : Nat) (cs : Array Value) (T : TypeId) : Prop := w.heap[g]? = some (.cells cs T (0, 0))
theorem Loc.lt {w : World} {g : Nat} {cs : Array Value} {T : TypeId} (h : Loc w g cs T) : g < w.heap.size := by
  by_cases hlt : g < w.heap.size
  · exact hlt
  · unfold Loc at h; rw [Array.getElem?_eq_none (by omega)] at h; cases h
theorem Loc.cell {w : World} {g : Nat} {cs : Array Value} {T : TypeId} (h : Loc w g cs T) (j : Nat) : w.cell? ⟨g, j, none⟩ = cs[j]? := cell_of_row w g j cs T (0, 0) h
theorem Loc.frozen {w : World} {g : Nat} {cs : Array Value} {T : TypeId} (h : Loc w g cs T) (j : Nat) : w.frozen? ⟨g, j, none⟩ = false := frozen_of_row w g j cs T h
theorem Loc.keep {w w' : World} {g : Nat} {cs : Array Value} {T : TypeId} {B : Nat} (h : Loc w g cs T) (hb : Below B w w') (hB : g < B) : Loc w' g cs T := (hb.block g hB).trans h
theorem Loc.all {w w' : World} {g : Nat} {cs : Array Value} {T : TypeId} (h : Loc w g cs T) (hb : Below w.heap.size w w') : Loc w' g cs T := h.keep hb h.lt
theorem Loc.frm {w w' : World} {g : Nat} {cs : Array Value} {T : TypeId} {S : List Nat} (h : Loc w g cs T) (f : Frm w w' S) (hn : g ∉ S) : Loc w' g cs T := (f.block g h.lt hn).trans h
theorem Loc.set {w : World} {g : Nat} {cs : Array Value} {T : TypeId} (h : Loc w g cs T) (j : Nat) (v : Value) : Loc (w.setCell ⟨g, j, none⟩ v) g (cs.setIfInBounds j v) T := heap_setCell_same w g j cs T v h
theorem Loc.other {w : World} {g : Nat} {cs : Array Value} {T : TypeId} (h : Loc w g cs T) (q j : Nat) (v : Value) (hn : g ≠ q) : Loc (w.setCell ⟨q, j, none⟩ v) g cs T := (heap_setCell_other w ⟨q, j, none⟩ g v hn).trans h
theorem Loc.alloc {w : World} {g : Nat} {cs : Array Value} {T : TypeId} (h : Loc w g cs T) (o : Obj) : Loc (w.alloc o) g cs T := (heap_alloc_old w o h.lt).trans h
theorem Loc.made (w : World) (cs : Array Value) (T : TypeId) : Loc (w.alloc (.cells cs T)) w.heap.size cs T := heap_alloc_new w _
theorem set_frm (w : World) (g j : Nat) (v : Value) : Frm w (w.setCell ⟨g, j, none⟩ v) [g] :=
  ⟨rfl, rfl, rfl, by simp, fun k _ hk => heap_setCell_other w ⟨g, j, none⟩ k v (fun e => hk (by simp [e]))⟩

end Go.Proofs.Ytcabolcfoijglaa

/- The law's own helpers over bytes: a copy of a row, by its contract. -/
namespace Go.Proofs.Ytcabolcfoijglaa
open Go.RowKit
set_option linter.unusedVariables false

theorem Try.info5 : (Try.prog.info? 5).map (fun i => (i.zero, i.size, i.bytes)) = some (some (.int .u8 0), 1, 1) := by kernel_rfl

/-- Behind k rounds of the copying loop: the first k bytes of l, then zeros. -/
def half (l : List Int) (k : Nat) : List Int := l.take k ++ List.replicate (l.length - k) 0
theorem half_len (l : List Int) (k : Nat) (h : k ≤ l.length) : (half l k).length = l.length := by simp [half]; omega
theorem half_zero (l : List Int) : vals (half l 0) = (madeCells #[Value.int .u8 0] l.length).toList := by
  rw [toList_madeCells_one]
  simp [half, vals]
theorem half_all (l : List Int) : half l l.length = l := by simp [half]
theorem half_at (l : List Int) (k i : Nat) (hk : k ≤ l.length) : (half l k)[i]? = if i < k then l[i]? else if i < l.length then some 0 else none := by
  have hm : min k l.length = k := by omega
  unfold half
  rw [List.getElem?_append, List.length_take, hm]
  by_cases h : i < k
  · simp [h]
  · rw [if_neg h, if_neg h, List.getElem?_replicate]
    by_cases h2 : i < l.length
    · rw [if_pos h2, if_pos (by omega)]
    · rw [if_neg h2, if_neg (by omega)]
theorem half_step (l : List Int) (k : Nat) (h : k < l.length) : (vals (half l k)).set k (.int .u8 (l.getD k 0)) = vals (half l (k + 1)) := by
  apply List.ext_getElem?
  intro i
  unfold vals
  rw [List.getElem?_set, List.getElem?_map, List.getElem?_map, half_at l k i (by omega), half_at l (k + 1) i (by omega), List.length_map, half_len l k (by omega)]
  by_cases hk : k = i
  · subst hk; rw [if_pos rfl, if_pos h, if_pos (by omega)]; simp [h]
  · rw [if_neg hk]
    by_cases h2 : i < k
    · rw [if_pos h2, if_pos (by omega)]
    · rw [if_neg h2, if_neg (show ¬ i < k + 1 by omega)]

set_option maxHeartbeats 1600000 in
set_option maxRecDepth 1000000 in
theorem toB_any (w : World) (v : Value) (l : List Int) (h : Byt w v l) (hs : l.length ≤ 2097152) :
    Calls Try.prog 15 #[v] w fun e w' => ∃ v', e = .returned v' ∧ Own w' w.heap.size v' l ∧ v' ≠ .slice none 0 0 ∧ Below w.heap.size w w' := by
  obtain ⟨i0, hi, hz0, hz1, hz2⟩ := info_parts Try.info5
  obtain ⟨hok, hm, ⟨rfl, rfl⟩ | ⟨x, cap, rfl, hc, rfl⟩ | ⟨b, off, cap, rfl, h1, h2, h3, h4, h5⟩⟩ := h
  · go_enter Try.func15, Try.ntmps15
    go_wp2_with (at_make; refine wpList_make_full _ rfl _ _ 22 rfl w.heap.size 5 i0 (.int .u8 0) 1 Try.underlying22 hi hz0 hz1 .i64 .i64 _ _ 0 rfl rfl rfl rfl ?c1 ?c2 ?c3 ?_)
    case c1 => omega
    case c2 => exact hm
    case c3 => exact Nat.le_refl _
    intro w1 hown hgrow
    have hB1 := Below.ofGrown hgrow
    have hown1 : w1.ownsRow w.heap.size 5 1 (.slice (some ⟨w.heap.size, 0, none⟩) 0 0) 0 (vals []) := by have e := half_zero []; rw [show half [] 0 = [] from rfl] at e; rw [e]; exact hown
    clear hown hgrow
    go_wp2
    refine wp_loop_rounds 1 ?_
    rw [rounds_succ]
    go_wp2
    go_ret
    exact ⟨_, rfl, ⟨okB_nil, hown1⟩, by simp, hB1⟩
  · go_enter Try.func15, Try.ntmps15
    go_wp2_with (at_make; refine wpList_make_full _ rfl _ _ 22 rfl w.heap.size 5 i0 (.int .u8 0) 1 Try.underlying22 hi hz0 hz1 .i64 .i64 _ _ 0 rfl rfl rfl rfl ?c1 ?c2 ?c3 ?_)
    case c1 => omega
    case c2 => exact hm
    case c3 => exact Nat.le_refl _
    intro w1 hown hgrow
    have hB1 := Below.ofGrown hgrow
    have hown1 : w1.ownsRow w.heap.size 5 1 (.slice (some ⟨w.heap.size, 0, none⟩) 0 0) 0 (vals []) := by have e := half_zero []; rw [show half [] 0 = [] from rfl] at e; rw [e]; exact hown
    clear hown hgrow
    go_wp2
    refine wp_loop_rounds 1 ?_
    rw [rounds_succ]
    go_wp2
    go_ret
    exact ⟨_, rfl, ⟨okB_nil, hown1⟩, by simp, hB1⟩
  · go_enter Try.func15, Try.ntmps15
    go_wp2_with (at_make; refine wpList_make_full _ rfl _ _ 22 rfl w.heap.size 5 i0 (.int .u8 0) 1 Try.underlying22 hi hz0 hz1 .i64 .i64 _ _ l.length rfl rfl rfl rfl ?c1 ?c2 ?c3 ?_)
    case c1 => rw [hz2]; omega
    case c2 => exact hm
    case c3 => exact Nat.le_refl _
    intro w1 hown hgrow
    have hB1 := Below.ofGrown hgrow
    have hown1 : w1.ownsRow w.heap.size 5 1 (.slice (some ⟨w.heap.size, 0, none⟩) l.length l.length) l.length (vals (half l 0)) := by rw [half_zero]; exact hown
    clear hown hgrow
    go_wp2
    go_loopw [4] (fun i wr => ∃ k : Nat, k ≤ l.length ∧ i = .int .i64 k ∧ wr.ownsRow w.heap.size 5 1 (.slice (some ⟨w.heap.size, 0, none⟩) l.length l.length) l.length (vals (half l k)) ∧ Below w.heap.size w wr) (fun i _ => l.length - (intOf i).toNat)
    case atStart => exact ⟨0, Nat.zero_le _, rfl, hown1, hB1⟩
    case round =>
      obtain ⟨k, hk, rfl, hw, hB⟩ := hrel
      clear hown1 hB1
      have hcx : k < l.length → wr.cell? ⟨b, off + k, none⟩ = some (.int .u8 (l.getD k 0)) := fun hlt => (hB.cell (p := ⟨b, off + k, none⟩) h4).trans (h5 k hlt)
      have hcy : k < l.length → wr.cell? ⟨w.heap.size, k, none⟩ = some (.int .u8 ((half l k).getD k 0)) := fun hlt => by
        rw [hw.cellAt k (by omega), vals_at (by rw [half_len l k hk]; exact hlt)]
      have hfr := hw.frozenAt k
      have hst := hw.stored k (.int .u8 (l.getD k 0))
      have R : k < l.length → (wr.setCell ⟨w.heap.size, k, none⟩ (.int .u8 (l.getD k 0))).ownsRow w.heap.size 5 1 (.slice (some ⟨w.heap.size, 0, none⟩) l.length l.length) l.length (vals (half l (k + 1))) ∧ Below w.heap.size w (wr.setCell ⟨w.heap.size, k, none⟩ (.int .u8 (l.getD k 0))) := fun hlt => by
        rw [← half_step l k hlt]
        exact ⟨hst.1, hB.setCell (p := ⟨w.heap.size, k, none⟩) (Nat.le_refl _) _⟩
      have HR := hide R
      clear R hst
      go_wp2
      · have hlt : k < l.length := by assumption
        have R := unhide HR hlt
        rw [getD_at hlt] at R
        go_roundw
        case rel => exact ⟨k + 1, by omega, by go_num, R.1, R.2⟩
        case measure => simp [intOf]; omega
      · have e : k = l.length := by omega
        subst e
        go_ret
        rw [half_all] at hw
        exact ⟨_, rfl, ⟨hok, hw⟩, by simp, hB⟩
end Go.Proofs.Ytcabolcfoijglaa

/- An append of a readable row of bytes to an owned one, as one law for the walk. -/
namespace Go.Proofs.Ytcabolcfoijglaa
open Go.RowKit
set_option linter.unusedVariables false

/-- 'append(out, src...)': out owned, src readable: what comes is owned, and no block but out's own has been written. -/
theorem wpList_app {w : World} {ops : Array Oper} {rest : List Oper} {o : Oper} {a : Act} {Q : Exit → Act → World → Prop} (hgd : o.guard = none) (s x : Operand)
    (ho : o.op = .call { callee := .builtin .append, args := #[s, x], argTypes := #[22, 22] })
    (base : Nat) (v : Value) (l : List Int) (hs : a.eval s = v) (hown : Own w base v l) (u : Value) (m : List Int) (hx : a.eval x = u) (hu : Byt w u m)
    (hlen : l.length + m.length ≤ 134217728) (hbase : base ≤ w.heap.size)
    (h : ∀ v' w', Own w' base v' (l ++ m) → w.grownBy w' v.ownBlock → wpList Try.prog ops Q rest (a.put o.dst v') w') : wpList Try.prog ops Q (o :: rest) a w := by
  obtain ⟨i0, hi, hz0, hz1, hz2⟩ := info_parts Try.info5
  have hfull : ∀ (ad : Addr) (c : Nat), a.eval x = .slice (some ad) m.length c → (∀ j, j < m.length → w.cell? (ad.add j) = some (.int .u8 (m.getD j 0))) → wpList Try.prog ops Q (o :: rest) a w := by
    intro ad c hx' hc
    refine wpList_append_own _ hgd s x 22 ho base 5 i0 (.int .u8 0) 1 1 Try.underlying22 hi hz0 hz1 hz2 rfl (by decide) v l.length (vals l) hs hown.2 ad m.length c (vals m) hx' (by rw [vals_len]; omega) ?_ (vals_one m) (by unfold maxLen; omega) (by omega) hbase ?_
    · intro j y hj
      have hlt : j < m.length := by
        by_cases hlt : j < m.length
        · exact hlt
        · rw [List.getElem?_eq_none (by rw [vals_len]; omega)] at hj; cases hj
      rw [vals_at hlt] at hj
      rw [hc j hlt]; exact hj
    · intro v' w' h1 h2 _
      refine h v' w' ⟨hown.1.app hu.1, ?_⟩ h2
      rw [vals_app, List.length_append]; exact h1
  obtain ⟨hok, hm, ⟨rfl, rfl⟩ | ⟨y, cap, rfl, hc, rfl⟩ | ⟨b, off, cap, rfl, h1, h2, h3, h4, h5⟩⟩ := hu
  · refine wpList_append_own_none hgd s x 22 ho base 5 i0 1 Try.underlying22 hi v l.length (vals l) hs hown.2 hx ?_
    exact h v w (by rw [List.append_nil]; exact hown) (World.grownBy.refl _ _)
  · exact hfull y cap hx (fun j hj => by simp at hj)
  · exact hfull ⟨b, off, none⟩ cap hx (fun j hj => by rw [add_plain]; exact h5 j hj)

/-- A new block of one byte. -/
theorem byt_one (w : World) (x : Int) (h0 : 0 ≤ x) (h1 : x ≤ 255) : Byt (w.alloc (.cells #[.int .u8 x] 5)) (.slice (some ⟨w.heap.size, 0, none⟩) 1 1) [x] := by
  refine ⟨okB.one h0 h1, by simp [maxLen], .inr (.inr ⟨w.heap.size, 0, 1, rfl, by simp, by simp [maxLen], by simp, by simp, fun i hi => ?_⟩)⟩
  have e : i = 0 := by simpa using hi
  subst e
  simp
/-- A new block of none. -/
theorem own_none (w : World) : Own (w.alloc (.cells #[] 5)) w.heap.size (.slice (some ⟨w.heap.size, 0, none⟩) 0 0) [] :=
  ⟨okB_nil, World.ownsRow_lit w #[] 0 (Nat.le_refl _) (Nat.zero_le _) rfl⟩
theorem Own.alloc {w : World} {base : Nat} {v : Value} {l : List Int} (h : Own w base v l) (o : Obj) : Own (w.alloc o) base v l := ⟨h.1, h.2.alloc o⟩
theorem Byt.alloc {w : World} {v : Value} {l : List Int} (h : Byt w v l) (o : Obj) : Byt (w.alloc o) v l := h.keep ((Below.refl _ _).alloc (Nat.le_refl _) o)
/-- A block of the call's own that was there when the row was made is no older than 'base'. -/
theorem Own.base_le {w : World} {base : Nat} {v : Value} {l : List Int} (h : Own w base v l) : ∀ g, v.ownBlock = some g → base ≤ g := fun g hg => (h.lt g hg).1

end Go.Proofs.Ytcabolcfoijglaa

/- Rows of bytes as strings: the conversion, and when two are one. -/
namespace Go.Proofs.Ytcabolcfoijglaa
open Go.RowKit
set_option linter.unusedVariables false

/-- The string of a row of bytes. -/
def str (l : List Int) : ByteArray := l.foldl (fun r n => r.push (UInt8.ofNat n.toNat)) ByteArray.empty
theorem str_go (l : List Int) (s : ByteArray) : (l.foldl (fun r n => r.push (UInt8.ofNat n.toNat)) s).data.toList = s.data.toList ++ l.map (fun n => UInt8.ofNat n.toNat) := by
  induction l generalizing s with
  | nil => simp
  | cons x l ih => rw [List.foldl_cons, ih]; simp [ByteArray.push]
theorem str_list (l : List Int) : (str l).data.toList = l.map (fun n => UInt8.ofNat n.toNat) := by
  unfold str; rw [str_go]; rfl
theorem toList_data (s : ByteArray) : s.toList = s.data.toList := Go.ByteArray.toList_eq s
theorem str_inj {a b : List Int} (ha : okB a) (hb : okB b) (h : (str a).toList = (str b).toList) : a = b := by
  rw [toList_data, toList_data, str_list, str_list] at h
  have hg : ∀ l : List Int, okB l → (l.map (fun n => UInt8.ofNat n.toNat)).map (fun u => (u.toNat : Int)) = l := by
    intro l hl
    induction l with
    | nil => rfl
    | cons x l ih =>
      have hx := hl x (by simp)
      have e : ((UInt8.ofNat x.toNat).toNat : Int) = x := by
        rw [UInt8.toNat_ofNat']; omega
      rw [List.map_cons, List.map_cons, ih (fun y hy => hl y (by simp [hy])), e]
  rw [← hg a ha, ← hg b hb, h]
theorem str_beq {a b : List Int} (ha : okB a) (hb : okB b) : ((str a).toList == (str b).toList) = decide (a = b) := by
  by_cases h : a = b
  · subst h; simp
  · have : ¬ (str a).toList = (str b).toList := fun e => h (str_inj ha hb e)
    rw [decide_eq_false h, beq_eq_false_iff_ne]; exact this

theorem conv_any (w : World) (u : Value) (a : List Int) (hu : Byt w u a) : (convert 22 9 u).run Try.prog w = .ok (.string (str a)) w := by
  have hfull : ∀ (x : Addr) (c : Nat), (∀ j, j < a.length → w.cell? (x.add j) = some (.int .u8 (a.getD j 0))) → (convert 22 9 (.slice (some x) a.length c)).run Try.prog w = .ok (.string (str a)) w := by
    intro x c hc
    rw [run_convert_bytes_string w 22 9 5 (some x) a.length c Try.underlying22 Try.underlying5 Try.underlying9]
    refine run_bytesToString w x a.length c a ?_
    have h := run_loadCells_list (P := Try.prog) (w := w) x (vals a) (fun j v hj => by
      have hlt : j < a.length := by
        by_cases hlt : j < a.length
        · exact hlt
        · rw [List.getElem?_eq_none (by rw [vals_len]; omega)] at hj; cases hj
      rw [vals_at hlt] at hj
      rw [hc j hlt]; exact hj)
    rw [vals_len] at h
    exact h
  obtain ⟨hoka, _, ⟨rfl, rfl⟩ | ⟨x, cap, rfl, hc, rfl⟩ | ⟨p, off, cap, rfl, h1, h2, h3, h4, h5⟩⟩ := hu
  · rw [run_convert_bytes_string w 22 9 5 none 0 0 Try.underlying22 Try.underlying5 Try.underlying9]
    simp [Conv.bytesToString, str]
  · exact hfull x cap (fun j hj => by simp at hj)
  · exact hfull _ cap (fun j hj => by rw [add_plain]; exact h5 j hj)

end Go.Proofs.Ytcabolcfoijglaa

/- A row of bytes of a call's own, whose block may bear a conversion's mark behind its cells. -/
namespace Go.Proofs.Ytcabolcfoijglaa
open Go.RowKit
set_option linter.unusedVariables false

def RowM (w : World) (base : Nat) (v : Value) (l : List Int) : Prop :=
  okB l ∧ ((v = .slice none 0 0 ∧ l = []) ∨
    ∃ g cap cur fz, v = .slice (some ⟨g, 0, none⟩) l.length cap ∧ base ≤ g ∧ w.heap[g]? = some (.cells cur 5 fz) ∧ (∀ j, j < cap → ¬ (fz.1 ≤ j ∧ j < fz.2)) ∧ l.length ≤ cap ∧ cap ≤ maxLen ∧ cur.size = cap ∧ cur.toList.take l.length = vals l)
theorem rowm_nil (w : World) (base : Nat) : RowM w base (.slice none 0 0) [] := ⟨okB_nil, .inl ⟨rfl, rfl⟩⟩
theorem Own.rowm {w : World} {base : Nat} {v : Value} {l : List Int} (h : Own w base v l) : RowM w base v l := by
  refine ⟨h.1, ?_⟩
  rcases h.2.2 with ⟨e, hz⟩ | ⟨g, cap, cur, e, hb, hg, h1, h2, h3, h4⟩
  · exact .inl ⟨e, List.eq_nil_of_length_eq_zero hz⟩
  · exact .inr ⟨g, cap, cur, (0, 0), e, hb, hg, fun j _ hj => by simp at hj, h1, h2, by simpa using h3, by simpa using h4⟩
theorem RowM.lt {w : World} {base : Nat} {v : Value} {l : List Int} (h : RowM w base v l) : ∀ k, v.ownBlock = some k → base ≤ k ∧ k < w.heap.size := by
  intro k hk
  rcases h.2 with ⟨rfl, _⟩ | ⟨g, cap, cur, fz, rfl, hb, hg, _⟩
  · simp [Value.ownBlock] at hk
  · simp [Value.ownBlock] at hk
    subst hk
    exact ⟨hb, (Array.getElem?_eq_some_iff.1 hg).1⟩
theorem RowM.mono {w : World} {base base' : Nat} {v : Value} {l : List Int} (h : RowM w base v l) (hb : base' ≤ base) : RowM w base' v l := by
  refine ⟨h.1, ?_⟩
  rcases h.2 with h' | ⟨g, cap, cur, fz, e, h1, h2⟩
  · exact .inl h'
  · exact .inr ⟨g, cap, cur, fz, e, by omega, h2⟩
theorem RowM.frm {w w' : World} {base : Nat} {v : Value} {l : List Int} {S : List Nat} (h : RowM w base v l) (f : Frm w w' S) (hd : ∀ g ∈ FB v, g ∉ S) : RowM w' base v l := by
  refine ⟨h.1, ?_⟩
  rcases h.2 with h' | ⟨g, cap, cur, fz, rfl, h1, hg, h2⟩
  · exact .inl h'
  · have hlt : g < w.heap.size := (Array.getElem?_eq_some_iff.1 hg).1
    exact .inr ⟨g, cap, cur, fz, rfl, h1, (f.block g hlt (hd g (by simp [FB, Value.ownBlock]))).trans hg, h2⟩
theorem RowM.keep {w w' : World} {base : Nat} {v : Value} {l : List Int} (h : RowM w base v l) (hB : Below w.heap.size w w') : RowM w' base v l := h.frm (Frm.ofBelow hB []) (fun _ _ => by simp)
theorem RowM.keepBy {w w' : World} {base : Nat} {v : Value} {l : List Int} {row : Option Nat} (h : RowM w base v l) (hg : w.grownBy w' row) (hne : ∀ g, v.ownBlock = some g → row ≠ some g) : RowM w' base v l :=
  h.frm (Frm.ofGrown hg) (fun g hgm hm => hne g (by simpa [FB] using hgm) (by simpa using hm))
theorem RowM.rng {w : World} {base : Nat} {v : Value} {l : List Int} (h : RowM w base v l) : Rng (FB v) base w.heap.size := fun g hg => h.lt g (by simpa [FB] using hg)
theorem RowM.shape {w : World} {base : Nat} {v : Value} {l : List Int} (h : RowM w base v l) : ∃ a c, v = .slice a l.length c := by
  rcases h.2 with ⟨rfl, rfl⟩ | ⟨g, cap, cur, fz, rfl, _⟩
  · exact ⟨none, 0, rfl⟩
  · exact ⟨_, _, rfl⟩
theorem take_at {xs : List Value} {m : Nat} {ys : List Value} (h : xs.take m = ys) {i : Nat} (hi : i < m) : xs[i]? = ys[i]? := by
  rw [← h, List.getElem?_take, if_pos hi]
theorem RowM.byt {w : World} {base : Nat} {v : Value} {l : List Int} (h : RowM w base v l) : Byt w v l := by
  rcases h.2 with ⟨rfl, rfl⟩ | ⟨g, cap, cur, fz, rfl, hb, hg, hf, h1, h2, h3, h4⟩
  · exact ⟨h.1, by simp [maxLen], .inl ⟨rfl, rfl⟩⟩
  · refine ⟨h.1, by omega, ?_⟩
    by_cases h0 : l = []
    · subst h0
      exact .inr (.inl ⟨_, cap, rfl, h2, rfl⟩)
    · refine .inr (.inr ⟨g, 0, cap, rfl, h1, h2, h0, (Array.getElem?_eq_some_iff.1 hg).1, fun i hi => ?_⟩)
      rw [Nat.zero_add, cell_of_row w g i cur _ fz hg]
      have := take_at h4 hi
      rw [vals_at hi] at this
      simpa using this

/-- The bytes of a string as numbers. -/
def strL (s : ByteArray) : List Int := s.data.toList.map (fun b => (b.toNat : Int))
theorem strL_ok (s : ByteArray) : okB (strL s) := by
  intro x hx
  obtain ⟨b, _, rfl⟩ := List.mem_map.1 hx
  have := b.toNat_lt
  exact ⟨by omega, by omega⟩
theorem strL_len (s : ByteArray) : (strL s).length = s.size := by simp [strL]
/-- '[]byte(s)'. -/
theorem conv_row (w : World) (s : ByteArray) (hs : s.size ≤ 1000) : ∃ w' cap, (convert 9 22 (.string s)).run Try.prog w = .ok (.slice (some ⟨w.heap.size, 0, none⟩) s.size cap) w' ∧ RowM w' w.heap.size (.slice (some ⟨w.heap.size, 0, none⟩) s.size cap) (strL s) ∧ Below w.heap.size w w' := by
  refine ⟨_, _, run_bytes_of_string w 9 22 5 s Try.underlying9 Try.underlying22 Try.underlying5, ?_, ?_⟩
  · have hge := grownCap_ge w s.size 0 5
    have hle := grownCap_le_maxLen w s.size 0 5 (by unfold maxLen; omega)
    generalize grownCap w s.size 0 5 = cap at *
    have hbs : (bytesRow s cap).size = cap := by simp [bytesRow]; omega
    refine ⟨strL_ok s, .inr ⟨w.heap.size, cap, bytesRow s cap, _, by rw [strL_len], Nat.le_refl _, heap_alloc_new w.drew _, fun j hj hh => by simp only [hbs] at hh; omega, by rw [strL_len]; omega, hle, hbs, ?_⟩⟩
    rw [strL_len]
    simp [bytesRow, vals, strL]
  · exact ((Below.refl w.heap.size w).drew).alloc (by simp) _
end Go.Proofs.Ytcabolcfoijglaa

/- The cursor over the bytes of a draw, by contracts: it tells some byte, and writes its own block alone. -/
namespace Go.Proofs.Ytcabolcfoijglaa
open Go.RowKit
set_option linter.unusedVariables false

theorem i64_and255 (n : Int) : bits .and .i64 n 255 = n % 256 := by
  have h255 : (BitVec.ofInt 64 255).toNat = 2 ^ 8 - 1 := by decide
  have key : (BitVec.ofInt 64 n &&& BitVec.ofInt 64 255).toNat = (n % ((2 ^ 64 : Nat) : Int)).toNat % 2 ^ 8 := by
    rw [BitVec.toNat_and, BitVec.toNat_ofInt, h255, Nat.and_two_pow_sub_one_eq_mod]
  show IntKind.i64.wrap ((BitVec.ofInt 64 n &&& BitVec.ofInt 64 255).toNat : Nat) = n % 256
  rw [key, IntKind.wrap_i64]
  omega

/-- The block g, made behind w0, is a cursor over the bytes l of the value code, which were there in w0; the world w has them still. -/
structure Cur (w0 w : World) (g : Nat) (code : Value) (l : List Int) : Prop where
  bytes : Byt w0 code l
  below : Below w0.heap.size w0 w
  new : w0.heap.size ≤ g
  cells : ∃ (i : Nat) (h : Int), i ≤ l.length ∧ w.heap[g]? = some (.cells #[code, .int .i64 i, .int .i64 h] 87 (0, 0))

theorem Cur.lt {w0 w : World} {g : Nat} {code : Value} {l : List Int} (h : Cur w0 w g code l) : g < w.heap.size := by
  obtain ⟨i, x, _, hg⟩ := h.cells
  by_cases hlt : g < w.heap.size
  · exact hlt
  · rw [Array.getElem?_eq_none (by omega)] at hg; cases hg

/-- A world in which the cursor's block, and all that was there before it, stand as they stood. -/
theorem Cur.keep {w0 w w' : World} {g : Nat} {code : Value} {l : List Int} {row : Option Nat} (h : Cur w0 w g code l) (hg : w.grownBy w' row) (hne : some g ≠ row) (hr : ∀ k, row = some k → w0.heap.size ≤ k) : Cur w0 w' g code l := by
  refine ⟨h.bytes, h.below.grown hg h.below.size hr, h.new, ?_⟩
  obtain ⟨i, x, hi, hc⟩ := h.cells
  exact ⟨i, x, hi, (hg.block g h.lt hne).trans hc⟩
theorem Cur.keepAll {w0 w w' : World} {g : Nat} {code : Value} {l : List Int} (h : Cur w0 w g code l) (hB : Below w.heap.size w w') : Cur w0 w' g code l :=
  h.keep (Below.toGrown hB none) (by simp) (fun k hk => by cases hk)

theorem set_grown (w : World) (g j : Nat) (v : Value) : w.grownBy (w.setCell ⟨g, j, none⟩ v) (some g) :=
  ⟨rfl, rfl, rfl, by simp, fun k _ hk => heap_setCell_other w ⟨g, j, none⟩ k v (fun e => hk (by simp [e]))⟩
theorem grown_drewN {a b : World} {row : Option Nat} (h : a.grownBy b row) (n : Nat) : a.grownBy (b.drewN n) row := ⟨h.os, h.tape, h.output, h.size, h.block⟩
theorem grown_drew {a b : World} {row : Option Nat} (h : a.grownBy b row) : a.grownBy b.drew row := ⟨h.os, h.tape, h.output, h.size, h.block⟩

/-- The cursor behind a step. -/
theorem Cur.turn {w0 w w' : World} {g : Nat} {code : Value} {l : List Int} (h : Cur w0 w g code l) (hw : w.grownBy w' (some g)) (i : Nat) (x : Int) (hi : i ≤ l.length)
    (hc : w'.heap[g]? = some (.cells #[code, .int .i64 i, .int .i64 x] 87 (0, 0))) : Cur w0 w' g code l :=
  ⟨h.bytes, h.below.grown hw h.below.size (fun k hk => by cases hk; exact h.new), h.new, i, x, hi, hc⟩

set_option maxHeartbeats 1600000 in
set_option maxRecDepth 1000000 in
theorem l1Byte_any (w0 w : World) (g : Nat) (code : Value) (l : List Int) (h : Cur w0 w g code l) :
    Calls Try.prog 86 #[.pointer (some ⟨g, 0, none⟩)] w fun e w' => ∃ x : Int, 0 ≤ x ∧ x ≤ 255 ∧ e = .returned (.int .i64 x) ∧ Cur w0 w' g code l ∧ w.grownBy w' (some g) := by
  obtain ⟨i, x, hi, hg⟩ := h.cells
  have c0 : w.cell? ⟨g, 0, none⟩ = some code := by rw [cell_of_row w g 0 _ _ _ hg]; rfl
  have c1 : w.cell? ⟨g, 1, none⟩ = some (.int .i64 i) := by rw [cell_of_row w g 1 _ _ _ hg]; rfl
  have c2 : w.cell? ⟨g, 2, none⟩ = some (.int .i64 x) := by rw [cell_of_row w g 2 _ _ _ hg]; rfl
  have f1 : w.frozen? ⟨g, 1, none⟩ = false := frozen_of_row w g 1 _ _ hg
  have f2 : w.frozen? ⟨g, 2, none⟩ = false := frozen_of_row w g 2 _ _ hg
  by_cases hlt : i < l.length
  · obtain ⟨hok, hm, ⟨rfl, rfl⟩ | ⟨y, cap, rfl, hc, rfl⟩ | ⟨b, off, cap, rfl, h1, h2, h3, h4, h5⟩⟩ := h.bytes
    · simp at hlt
    · simp at hlt
    obtain ⟨c, hc⟩ : ∃ c, c = l.getD i 0 := ⟨_, rfl⟩
    have hcx : w.cell? ⟨b, off + i, none⟩ = some (.int .u8 c) := by rw [hc]; exact (h.below.cell (p := ⟨b, off + i, none⟩) h4).trans (h5 i hlt)
    have hcb : 0 ≤ c ∧ c ≤ 255 := by rw [hc, List.getD_eq_getElem?_getD]; exact hok.at _
    have hbg : b ≠ g := by have := h.new; omega
    have hi' : (i : Int) < (l.length : Int) := by omega
    unfold maxLen at hm h2
    clear hc h5
    have HG := hide hg
    have HH := hide h
    clear hg h
    obtain ⟨hcb0, hcb1⟩ := hcb
    go_enter Try.func86, Try.ntmps86
    go_wp2
    generalize wrap64 (wrap64 (x * 6364136223846793005) + 1442695040888963407) = y
    go_quiet (fail)
    go_wp2
    go_quiet (fail)
    go_wp2
    rw [i64_and255]
    generalize bits BinOp.xor IntKind.i64 (y / 8589934592) (y / 35184372088832) = z
    go_quiet (fail)
    go_wp2
    rw [i64_and255]
    go_ret
    refine ⟨(z % 256 + c) % 256, by omega, by omega, rfl, (unhide HH).turn ?hw (i + 1) y (by omega) ?hc, ?hw⟩
    case hw => repeat (first | exact set_grown _ _ _ _ | refine grown_drewN ?_ _ | refine grown_trans ?_ (set_grown _ _ _ _))
    case hc =>
      rw [show ((i + 1 : Nat) : Int) = (i : Int) + 1 by omega]
      exact heap_setCell_same _ g 1 _ _ _ (heap_setCell_same w g 2 _ _ _ (unhide HG))
  · obtain ⟨a, cap, rfl, hlc, hcm⟩ := h.bytes.shape
    have hm := h.bytes.2.1
    unfold maxLen at hm
    have hi' : ¬ (i : Int) < (l.length : Int) := by omega
    have HG := hide hg
    have HH := hide h
    clear hg h
    go_enter Try.func86, Try.ntmps86
    go_wp2
    generalize wrap64 (wrap64 (x * 6364136223846793005) + 1442695040888963407) = y
    go_quiet (fail)
    go_wp2
    go_quiet (fail)
    go_wp2
    rw [i64_and255]
    generalize bits BinOp.xor IntKind.i64 (y / 8589934592) (y / 35184372088832) = z
    go_ret
    refine ⟨z % 256, by omega, by omega, rfl, (unhide HH).turn ?hw i y hi ?hc, ?hw⟩
    case hw => repeat (first | exact set_grown _ _ _ _ | refine grown_drewN ?_ _ | refine grown_trans ?_ (set_grown _ _ _ _))
    case hc => exact heap_setCell_same w g 2 _ _ _ (unhide HG)
theorem tmod_below {x n : Int} (hx0 : 0 ≤ x) (hn : 1 ≤ n) : 0 ≤ x % n ∧ x % n < n := ⟨Int.emod_nonneg _ (by omega), Int.emod_lt_of_pos _ (by omega)⟩

set_option maxHeartbeats 1600000 in
theorem l1Below_any (w0 w : World) (g : Nat) (code : Value) (l : List Int) (n : Int) (h : Cur w0 w g code l) (hn : 1 ≤ n) (hn1 : n ≤ 1000000000) :
    Calls Try.prog 65 #[.pointer (some ⟨g, 0, none⟩), .int .i64 n] w fun e w' => ∃ x : Int, 0 ≤ x ∧ x < n ∧ e = .returned (.int .i64 x) ∧ Cur w0 w' g code l ∧ w.grownBy w' (some g) := by
  by_cases h256 : n ≤ 256
  · go_enter Try.func65, Try.ntmps65
    go_wp2_with fail
    refine (l1Byte_any w0 w g code l h).mono ?_
    rintro e w1 ⟨x, hx0, hx1, rfl, hC, hG⟩
    have hb := tmod_below hx0 hn
    have HB := hide hb
    clear hb
    go_wp2
    go_ret
    exact ⟨_, (unhide HB).1, (unhide HB).2, rfl, hC, hG⟩
  · go_enter Try.func65, Try.ntmps65
    go_wp2_with fail
    refine (l1Byte_any w0 w g code l h).mono ?_
    rintro e w1 ⟨x1, hx0, hx1, rfl, hC1, hG1⟩
    go_wp2_with fail
    refine (l1Byte_any w0 w1 g code l hC1).mono ?_
    rintro e w2 ⟨x2, hy0, hy1, rfl, hC2, hG2⟩
    go_wp2_with fail
    refine (l1Byte_any w0 w2 g code l hC2).mono ?_
    rintro e w3 ⟨x3, hz0, hz1, rfl, hC3, hG3⟩
    go_wp2_with fail
    refine (l1Byte_any w0 w3 g code l hC3).mono ?_
    rintro e w4 ⟨x4, hu0, hu1, rfl, hC4, hG4⟩
    have hb := tmod_below (x := x1 * 16777216 + x2 * 65536 + x3 * 256 + x4) (by omega) hn
    have HB := hide hb
    have HG := hide (grown_trans (grown_trans (grown_trans hG1 hG2) hG3) hG4)
    clear hb hG1 hG2 hG3 hG4 hC1 hC2 hC3
    go_wp2
    go_ret
    exact ⟨_, (unhide HB).1, (unhide HB).2, rfl, hC4, unhide HG⟩

set_option maxHeartbeats 1600000 in
theorem l1Once_any (w0 w : World) (g : Nat) (code : Value) (l : List Int) (n : Int) (h : Cur w0 w g code l) (hn : 1 ≤ n) (hn1 : n ≤ 1000000000) :
    Calls Try.prog 50 #[.pointer (some ⟨g, 0, none⟩), .int .i64 n] w fun e w' => ∃ b : Bool, e = .returned (.bool b) ∧ Cur w0 w' g code l ∧ w.grownBy w' (some g) := by
  go_enter Try.func50, Try.ntmps50
  go_wp2_with fail
  refine (l1Below_any w0 w g code l n h hn hn1).mono ?_
  rintro e w1 ⟨x, hx0, hx1, rfl, hC, hG⟩
  go_wp2
  go_ret
  exact ⟨_, rfl, hC, hG⟩

/-- A slice of whole numbers that can be read. -/
def IntsC (w : World) (v : Value) (l : List Int) : Prop := ∃ b off cap, v = .slice (some ⟨b, off, none⟩) l.length cap ∧ b < w.heap.size ∧ ∀ i, i < l.length → w.cell? ⟨b, off + i, none⟩ = some (.int .i64 (l.getD i 0))

set_option maxHeartbeats 1600000 in
theorem l1PickInt_any (w0 w : World) (g : Nat) (code : Value) (l : List Int) (v : Value) (m : List Int) (h : Cur w0 w g code l) (hm0 : 1 ≤ m.length) (hm1 : m.length ≤ 1000) (hv : IntsC w v m) (hne : ∀ a n c, v = .slice (some a) n c → a.block ≠ g) :
    Calls Try.prog 66 #[.pointer (some ⟨g, 0, none⟩), v] w fun e w' => ∃ x ∈ m, e = .returned (.int .i64 x) ∧ Cur w0 w' g code l ∧ w.grownBy w' (some g) := by
  obtain ⟨b, off, cap, rfl, hb, hc⟩ := hv
  have hbg : b ≠ g := hne _ _ _ rfl
  clear hne
  go_enter Try.func66, Try.ntmps66
  go_wp2_with fail
  refine (l1Below_any w0 w g code l m.length h (by omega) (by omega)).mono ?_
  rintro e w1 ⟨x, hx0, hx1, rfl, hC, hG⟩
  obtain ⟨j, rfl⟩ := Int.eq_ofNat_of_zero_le hx0
  have hj : j < m.length := by omega
  obtain ⟨y, hy⟩ : ∃ y, y = m.getD j 0 := ⟨_, rfl⟩
  have hcj : w1.cell? ⟨b, off + j, none⟩ = some (.int .i64 y) := by rw [hy]; exact hG.cell (a := ⟨b, off + j, none⟩) (hc j hj) (by simp; omega)
  have hmem : y ∈ m := by rw [hy, getD_at hj]; exact List.getElem_mem hj
  clear hc hy
  have hG' := hide hG
  clear hG
  go_wp2
  go_ret
  exact ⟨y, hmem, rfl, hC, unhide hG'⟩

end Go.Proofs.Ytcabolcfoijglaa

/- The cursor at its beginning. -/
namespace Go.Proofs.Ytcabolcfoijglaa
open Go.RowKit
set_option linter.unusedVariables false

/-- What a new cursor is. -/
theorem Cur.made (w : World) (code : Value) (l : List Int) (x : Int) (h : Byt w code l) : Cur w (w.alloc (.cells #[code, .int .i64 0, .int .i64 x] 87)) w.heap.size code l :=
  ⟨h, (Below.refl _ _).alloc (Nat.le_refl _) _, Nat.le_refl _, 0, x, Nat.zero_le _, heap_alloc_new w _⟩

set_option maxHeartbeats 1600000 in
theorem l1New_any (w : World) (code : Value) (l : List Int) (h : Byt w code l) :
    Calls Try.prog 27 #[code] w fun e w' => e = .returned (.pointer (some ⟨w.heap.size, 0, none⟩)) ∧ Cur w w' w.heap.size code l ∧ Below w.heap.size w w' := by
  have hm := h.2.1
  unfold maxLen at hm
  by_cases h0 : l = []
  · obtain ⟨a, cap, rfl, _⟩ := h.shape
    subst h0
    go_enter Try.func27, Try.ntmps27
    go_wp2
    refine wp_loop_rounds 1 ?_
    rw [rounds_succ]
    go_wp2
    go_ret
    exact ⟨rfl, Cur.made _ _ _ _ h, (Below.refl _ _).alloc (Nat.le_refl _) _⟩
  · have h' := h
    obtain ⟨hok, _, ⟨rfl, rfl⟩ | ⟨x, cap, rfl, hc, rfl⟩ | ⟨b, off, cap, rfl, h1, h2, h3, h4, h5⟩⟩ := h'
    · exact absurd rfl h0
    · exact absurd rfl h0
    go_enter Try.func27, Try.ntmps27
    go_wp2
    go_loop [3, 4] (fun x i => ∃ (k : Nat) (y : Int), k ≤ l.length ∧ i = .int .i64 k ∧ x = .int .i64 y) (fun _ i => l.length - (intOf i).toNat)
    case atStart => exact ⟨0, _, Nat.zero_le _, rfl, rfl⟩
    case round =>
      obtain ⟨k, y, hk, rfl, rfl⟩ := hrel
      by_cases hlt : k < l.length
      · obtain ⟨c, hcc⟩ : ∃ c, c = l.getD k 0 := ⟨_, rfl⟩
        have hcx : w.cell? ⟨b, off + k, none⟩ = some (.int .u8 c) := by rw [hcc]; exact h5 k hlt
        have hcb : 0 ≤ c ∧ c ≤ 255 := by rw [hcc, List.getD_eq_getElem?_getD]; exact hok.at _
        have hlt' : (k : Int) < (l.length : Int) := by omega
        obtain ⟨hcb0, hcb1⟩ := hcb
        clear h5 hcc
        by_cases h4k : k < 4000
        · have h4k' : (k : Int) < 4000 := by omega
          go_wp2
          go_round
          case rel => exact ⟨k + 1, _, by omega, by go_num, rfl⟩
          case measure => simp [intOf]; omega
        · have h4k' : ¬ (k : Int) < 4000 := by omega
          go_wp2
          go_ret
          exact ⟨rfl, Cur.made _ _ _ _ h, (Below.refl _ _).alloc (Nat.le_refl _) _⟩
      · have hlt' : decide ((k : Int) < (l.length : Int)) = false := by simp; omega
        clear h5
        go_wp2
        go_ret
        exact ⟨rfl, Cur.made _ _ _ _ h, (Below.refl _ _).alloc (Nat.le_refl _) _⟩

/-- An owned row that was made behind the cursor keeps its bytes while the cursor goes on. -/
theorem Own.past {w w' : World} {base g : Nat} {v : Value} {l : List Int} (h : Own w base v l) (hg : w.grownBy w' (some g)) (hb : g < base) : Own w' base v l :=
  h.keepBy hg (.inr (fun e => by have := h.base_le g e; omega))

/-- A step that writes a block which was not there at the start adds nothing to what may have been written. -/
theorem grown_new {a b c : World} {row row' : Option Nat} (h : a.grownBy b row) (k : b.grownBy c row') (hr : ∀ q, row' = some q → a.heap.size ≤ q) : a.grownBy c row :=
  ⟨k.os.trans h.os, k.tape.trans h.tape, k.output.trans h.output, Nat.le_trans h.size k.size, fun i hi hne => (k.block i (Nat.lt_of_lt_of_le hi h.size) (fun e => by have := hr i e.symm; omega)).trans (h.block i hi hne)⟩
theorem grown_below {a b c : World} {row : Option Nat} (h : a.grownBy b row) (k : Below b.heap.size b c) : a.grownBy c row := grown_new h (Below.toGrown k none) (fun q hq => by cases hq)

end Go.Proofs.Ytcabolcfoijglaa

/- spec.l4drawId: an id that is drawn. -/
namespace Go.Proofs.Ytcabolcfoijglaa
open Go.RowKit
set_option linter.unusedVariables false
set_option maxRecDepth 100000

theorem grown_below' {a b c : World} {row : Option Nat} (h : Below a.heap.size a b) (k : b.grownBy c row) : a.grownBy c row := grown_trans (Below.toGrown h row) k

set_option maxHeartbeats 3200000 in
theorem drawId_any (w0 w : World) (g : Nat) (code : Value) (l : List Int) (h : Cur w0 w g code l) :
    Calls Try.prog 82 #[.pointer (some ⟨g, 0, none⟩)] w fun e w' => ∃ n r : Int, 0 ≤ n ∧ n ≤ 5 ∧ 0 ≤ r ∧ r ≤ 4 ∧ e = .returned (.agg #[.int .i64 n, .int .i64 r]) ∧ Cur w0 w' g code l ∧ w.grownBy w' (some g) := by
  have hA0 := (Below.refl w.heap.size w).alloc (Nat.le_refl _) (.cells #[.int .i64 0, .int .i64 0] 24)
  have l0 := Loc.made w #[.int .i64 0, .int .i64 0] 24
  have hC0 := h.keepAll hA0
  have hgl := h.lt
  go_enter Try.func82, Try.ntmps82
  go_wp2_with fail
  generalize (w.alloc (.cells #[.int .i64 0, .int .i64 0] 24)) = wa at *
  refine (l1Once_any w0 wa g code l 3 hC0 (by omega) (by omega)).mono ?_
  rintro e w1 ⟨b, rfl, hC1, hG1⟩
  have l1 := l0.frm (Frm.ofGrown hG1) (by simp; omega)
  have hG1' := grown_below' hA0 hG1
  cases b
  · go_wp2_with fail
    refine (l1Below_any w0 w1 g code l 5 hC1 (by omega) (by omega)).mono ?_
    rintro e w2 ⟨x, hx0, hx1, rfl, hC2, hG2⟩
    have l2 := l1.frm (Frm.ofGrown hG2) (by simp; omega)
    have hG2' := grown_trans hG1' hG2
    go_wp2_with fail
    refine (l1Below_any w0 w2 g code l 3 hC2 (by omega) (by omega)).mono ?_
    rintro e w3 ⟨y, hy0, hy1, rfl, hC3, hG3⟩
    have l3 := l2.frm (Frm.ofGrown hG3) (by simp; omega)
    have hG3' := grown_trans hG2' hG3
    have x0 := l3.cell 0
    have x1 := l3.cell 1
    have f0 := l3.frozen 0
    have f1 := l3.frozen 1
    clear hG1 hG2 hC1 hC2 l1 l2 hG3 hG1' hG2' l0 hC0
    go_wp2_with fail
    have m : Loc ((w3.setCell ⟨w.heap.size, 0, none⟩ (.int .i64 (1 + x))).setCell ⟨w.heap.size, 1, none⟩ (.int .i64 y)) w.heap.size #[.int .i64 (1 + x), .int .i64 y] 24 := (l3.set 0 (.int .i64 (1 + x))).set 1 (.int .i64 y)
    have e0 := m.cell 0
    have e1 := m.cell 1
    have hs : w3.grownBy ((w3.setCell ⟨w.heap.size, 0, none⟩ (.int .i64 (1 + x))).setCell ⟨w.heap.size, 1, none⟩ (.int .i64 y)) (some w.heap.size) := grown_trans (set_grown w3 w.heap.size 0 (.int .i64 (1 + x))) (set_grown _ w.heap.size 1 (.int .i64 y))
    have hGf := grown_new hG3' hs (fun q hq => by simp at hq; omega)
    have hCf := hC3.keep hs (by simp; omega) (fun k hk => by simp at hk; have := h.below.size; omega)
    exact bodyPost_ret (v := .agg #[.int .i64 (1 + x), .int .i64 y]) (by simp [results, Try.results82, go_sem, e0, e1]) rfl ⟨(1 + x), y, by omega, by omega, by omega, by omega, rfl, hCf, hGf⟩
  · go_wp2_with fail
    refine (l1Below_any w0 w1 g code l 5 hC1 (by omega) (by omega)).mono ?_
    rintro e w2 ⟨x, hx0, hx1, rfl, hC2, hG2⟩
    have l2 := l1.frm (Frm.ofGrown hG2) (by simp; omega)
    have hG2' := grown_trans hG1' hG2
    have x0 := l2.cell 0
    have x1 := l2.cell 1
    have f0 := l2.frozen 0
    have f1 := l2.frozen 1
    clear hG1 hG2 hC1 l1 hG1' l0 hC0
    go_wp2_with fail
    have m : Loc ((w2.setCell ⟨w.heap.size, 0, none⟩ (.int .i64 0)).setCell ⟨w.heap.size, 1, none⟩ (.int .i64 x)) w.heap.size #[.int .i64 0, .int .i64 x] 24 := (l2.set 0 (.int .i64 0)).set 1 (.int .i64 x)
    have e0 := m.cell 0
    have e1 := m.cell 1
    have hs : w2.grownBy ((w2.setCell ⟨w.heap.size, 0, none⟩ (.int .i64 0)).setCell ⟨w.heap.size, 1, none⟩ (.int .i64 x)) (some w.heap.size) := grown_trans (set_grown w2 w.heap.size 0 (.int .i64 0)) (set_grown _ w.heap.size 1 (.int .i64 x))
    have hGf := grown_new hG2' hs (fun q hq => by simp at hq; omega)
    have hCf := hC2.keep hs (by simp; omega) (fun k hk => by simp at hk; have := h.below.size; omega)
    exact bodyPost_ret (v := .agg #[.int .i64 0, .int .i64 x]) (by simp [results, Try.results82, go_sem, e0, e1]) rfl ⟨0, x, by omega, by omega, by omega, by omega, rfl, hCf, hGf⟩
end Go.Proofs.Ytcabolcfoijglaa

/- A drawn word of a table, as bytes. -/
namespace Go.Proofs.Ytcabolcfoijglaa
open Go.RowKit
set_option linter.unusedVariables false
set_option maxRecDepth 100000

set_option maxHeartbeats 3200000 in
theorem l2word_any (w0 w : World) (g : Nat) (code : Value) (l : List Int) (h : Cur w0 w g code l) :
    Calls Try.prog 84 #[.pointer (some ⟨g, 0, none⟩)] w fun e w' => ∃ a c m, e = .returned (.slice a m.length c) ∧ RowM w' w.heap.size (.slice a m.length c) m ∧ m.length ≤ 8 ∧ Cur w0 w' g code l ∧ w.grownBy w' (some g) := by
  have hgl := h.lt
  have hA := (Below.refl w.heap.size w).alloc (Nat.le_refl _) (.cells #[.string ⟨#[120]⟩, .string ⟨#[]⟩, .string ⟨#[97, 32, 98]⟩, .string ⟨#[49, 32, 60, 32, 50]⟩, .string ⟨#[97, 38, 98]⟩, .string ⟨#[34, 113, 34]⟩, .string ⟨#[104, 101, 108, 108, 111]⟩, .string ⟨#[38, 108, 116, 59]⟩, .string ⟨#[60, 112, 62]⟩, .string ⟨#[60, 47, 98, 62]⟩] 9)
  have lt := Loc.made w #[.string ⟨#[120]⟩, .string ⟨#[]⟩, .string ⟨#[97, 32, 98]⟩, .string ⟨#[49, 32, 60, 32, 50]⟩, .string ⟨#[97, 38, 98]⟩, .string ⟨#[34, 113, 34]⟩, .string ⟨#[104, 101, 108, 108, 111]⟩, .string ⟨#[38, 108, 116, 59]⟩, .string ⟨#[60, 112, 62]⟩, .string ⟨#[60, 47, 98, 62]⟩] 9
  have HC := hide (l1Below_any w0 _ g code l 10 (h.keepAll hA) (by omega) (by omega))
  have LL := hide (And.intro hA lt)
  clear hA lt h
  go_enter Try.func84, Try.ntmps84
  go_wp2_with fail
  refine (unhide HC).mono ?_
  rintro e w1 ⟨x, hx0, hx1, rfl, hCur, hG⟩
  obtain ⟨hA, lt⟩ := unhide LL
  clear LL HC
  have hlt := lt.lt
  have lt1 := lt.frm (Frm.ofGrown hG) (by simp; omega)
  have hG1 := grown_below' hA hG
  have hsz := hG1.size
  obtain ⟨k, rfl⟩ := Int.eq_ofNat_of_zero_le hx0
  obtain ⟨s, hs, hs8⟩ : ∃ s : ByteArray, w1.cell? ⟨w.heap.size, k, none⟩ = some (.string s) ∧ s.size ≤ 8 := by
    rw [lt1.cell k]
    have hk : k < 10 := by omega
    match k, hk with
    | 0, _ => exact ⟨_, rfl, by decide⟩
    | 1, _ => exact ⟨_, rfl, by decide⟩
    | 2, _ => exact ⟨_, rfl, by decide⟩
    | 3, _ => exact ⟨_, rfl, by decide⟩
    | 4, _ => exact ⟨_, rfl, by decide⟩
    | 5, _ => exact ⟨_, rfl, by decide⟩
    | 6, _ => exact ⟨_, rfl, by decide⟩
    | 7, _ => exact ⟨_, rfl, by decide⟩
    | 8, _ => exact ⟨_, rfl, by decide⟩
    | 9, _ => exact ⟨_, rfl, by decide⟩
  obtain ⟨w2, cap, hrun, hrow, hB⟩ := conv_row w1 s (by omega)
  have KK := hide (show ∃ a c m, (Value.slice (some ⟨w1.heap.size, 0, none⟩) s.size cap) = .slice a m.length c ∧ RowM w2 w.heap.size (.slice a m.length c) m ∧ m.length ≤ 8 ∧ Cur w0 w2 g code l ∧ w.grownBy w2 (some g) from ⟨_, _, strL s, by rw [strL_len], by rw [strL_len]; exact hrow.mono hsz, by rw [strL_len]; exact hs8, hCur.keepAll hB, grown_below hG1 hB⟩)
  clear hA lt lt1 hG hG1 hCur hrow hB hlt
  have hk : (k : Int) < 10 := hx1
  go_wp2_with fail
  go_ret
  obtain ⟨a, c, m, e, h1⟩ := unhide KK
  exact ⟨a, c, m, congrArg Ending.returned e, h1⟩
set_option maxHeartbeats 3200000 in
theorem l2name_any (w0 w : World) (g : Nat) (code : Value) (l : List Int) (h : Cur w0 w g code l) :
    Calls Try.prog 85 #[.pointer (some ⟨g, 0, none⟩)] w fun e w' => ∃ a c m, e = .returned (.slice a m.length c) ∧ RowM w' w.heap.size (.slice a m.length c) m ∧ m.length ≤ 8 ∧ Cur w0 w' g code l ∧ w.grownBy w' (some g) := by
  have hgl := h.lt
  have hA := (Below.refl w.heap.size w).alloc (Nat.le_refl _) (.cells #[.string ⟨#[112]⟩, .string ⟨#[98]⟩, .string ⟨#[105]⟩, .string ⟨#[100, 105, 118]⟩, .string ⟨#[117, 108]⟩, .string ⟨#[108, 105]⟩, .string ⟨#[98, 114]⟩, .string ⟨#[104, 49]⟩] 9)
  have lt := Loc.made w #[.string ⟨#[112]⟩, .string ⟨#[98]⟩, .string ⟨#[105]⟩, .string ⟨#[100, 105, 118]⟩, .string ⟨#[117, 108]⟩, .string ⟨#[108, 105]⟩, .string ⟨#[98, 114]⟩, .string ⟨#[104, 49]⟩] 9
  have HC := hide (l1Below_any w0 _ g code l 8 (h.keepAll hA) (by omega) (by omega))
  have LL := hide (And.intro hA lt)
  clear hA lt h
  go_enter Try.func85, Try.ntmps85
  go_wp2_with fail
  refine (unhide HC).mono ?_
  rintro e w1 ⟨x, hx0, hx1, rfl, hCur, hG⟩
  obtain ⟨hA, lt⟩ := unhide LL
  clear LL HC
  have hlt := lt.lt
  have lt1 := lt.frm (Frm.ofGrown hG) (by simp; omega)
  have hG1 := grown_below' hA hG
  have hsz := hG1.size
  obtain ⟨k, rfl⟩ := Int.eq_ofNat_of_zero_le hx0
  obtain ⟨s, hs, hs8⟩ : ∃ s : ByteArray, w1.cell? ⟨w.heap.size, k, none⟩ = some (.string s) ∧ s.size ≤ 8 := by
    rw [lt1.cell k]
    have hk : k < 8 := by omega
    match k, hk with
    | 0, _ => exact ⟨_, rfl, by decide⟩
    | 1, _ => exact ⟨_, rfl, by decide⟩
    | 2, _ => exact ⟨_, rfl, by decide⟩
    | 3, _ => exact ⟨_, rfl, by decide⟩
    | 4, _ => exact ⟨_, rfl, by decide⟩
    | 5, _ => exact ⟨_, rfl, by decide⟩
    | 6, _ => exact ⟨_, rfl, by decide⟩
    | 7, _ => exact ⟨_, rfl, by decide⟩
  obtain ⟨w2, cap, hrun, hrow, hB⟩ := conv_row w1 s (by omega)
  have KK := hide (show ∃ a c m, (Value.slice (some ⟨w1.heap.size, 0, none⟩) s.size cap) = .slice a m.length c ∧ RowM w2 w.heap.size (.slice a m.length c) m ∧ m.length ≤ 8 ∧ Cur w0 w2 g code l ∧ w.grownBy w2 (some g) from ⟨_, _, strL s, by rw [strL_len], by rw [strL_len]; exact hrow.mono hsz, by rw [strL_len]; exact hs8, hCur.keepAll hB, grown_below hG1 hB⟩)
  clear hA lt lt1 hG hG1 hCur hrow hB hlt
  have hk : (k : Int) < 8 := hx1
  go_wp2_with fail
  go_ret
  obtain ⟨a, c, m, e, h1⟩ := unhide KK
  exact ⟨a, c, m, congrArg Ending.returned e, h1⟩
end Go.Proofs.Ytcabolcfoijglaa

/- Rows of ints in memory: what may be read, what is owned. -/
namespace Go.Proofs.Ytcabolcfoijglaa
open Go.RowKit
set_option linter.unusedVariables false

/-- Each number is a byte. -/
def okZ (l : List Int) : Prop := ∀ x ∈ l, -9223372036854775808 ≤ x ∧ x ≤ 9223372036854775807

/-- The cells of a row of bytes. -/
def valz (l : List Int) : List Value := l.map (Value.int .i64)

/-- The value v is a slice whose elements can be read in w: the bytes l. -/
def Ints (w : World) (v : Value) (l : List Int) : Prop :=
  okZ l ∧ l.length ≤ maxLen ∧
  ((v = .slice none 0 0 ∧ l = []) ∨
   (∃ x cap, v = .slice (some x) 0 cap ∧ cap ≤ maxLen ∧ l = []) ∨
   (∃ b off cap, v = .slice (some ⟨b, off, none⟩) l.length cap ∧ l.length ≤ cap ∧ cap ≤ maxLen ∧ l ≠ [] ∧ b < w.heap.size ∧
      ∀ i, i < l.length → w.cell? ⟨b, off + i, none⟩ = some (.int .i64 (l.getD i 0))))

/-- The value v is a slice at the head of a block of the call's own, from 'base' on: the bytes l. -/
def OwnZ (w : World) (base : Nat) (v : Value) (l : List Int) : Prop := okZ l ∧ w.ownsRow base 3 1 v l.length (valz l)

theorem okZ_nil : okZ [] := fun _ h => by cases h
theorem okZ.app {a b : List Int} (h : okZ a) (k : okZ b) : okZ (a ++ b) := fun x hx => by
  rcases List.mem_append.1 hx with h' | h'
  · exact h x h'
  · exact k x h'
theorem okZ.take {a : List Int} (h : okZ a) (n : Nat) : okZ (a.take n) := fun x hx => h x (List.mem_of_mem_take hx)
theorem okZ.drop {a : List Int} (h : okZ a) (n : Nat) : okZ (a.drop n) := fun x hx => h x (List.mem_of_mem_drop hx)
theorem okZ.at {a : List Int} (h : okZ a) (i : Nat) : -9223372036854775808 ≤ a[i]?.getD 0 ∧ a[i]?.getD 0 ≤ 9223372036854775807 := by
  by_cases hi : i < a.length
  · rw [List.getElem?_eq_getElem hi]; exact h _ (List.getElem_mem hi)
  · rw [List.getElem?_eq_none (by omega)]; decide
theorem okZ.one {x : Int} (h0 : -9223372036854775808 ≤ x) (h1 : x ≤ 9223372036854775807) : okZ [x] := fun y hy => by simp at hy; subst hy; exact ⟨h0, h1⟩

theorem valz_len (l : List Int) : (valz l).length = l.length := by simp [valz]
theorem valz_app (a b : List Int) : valz (a ++ b) = valz a ++ valz b := by simp [valz]
theorem valz_one (l : List Int) : ∀ u ∈ valz l, u.oneCell' = true := ints_oneCell _ _
theorem valz_at {l : List Int} {i : Nat} (h : i < l.length) : (valz l)[i]? = some (.int .i64 (l.getD i 0)) := by simp [valz, h]

/-- What is owned lies in a block between 'base' and the heap's end. -/
theorem OwnZ.lt {w : World} {base : Nat} {v : Value} {l : List Int} (h : OwnZ w base v l) : ∀ k, v.ownBlock = some k → base ≤ k ∧ k < w.heap.size := h.2.lt

theorem OwnZ.mono {w : World} {base base' : Nat} {v : Value} {l : List Int} (h : OwnZ w base v l) (hb : base' ≤ base) : OwnZ w base' v l := by
  refine ⟨h.1, h.2.1, ?_⟩
  rcases h.2.2 with h' | ⟨g, cap, cur, h1, h2, h3⟩
  · exact .inl h'
  · exact .inr ⟨g, cap, cur, h1, by omega, h3⟩

/-- What is owned can be read. -/
theorem OwnZ.ints {w : World} {base : Nat} {v : Value} {l : List Int} (h : OwnZ w base v l) : Ints w v l := by
  obtain ⟨hok, hlen, hrow⟩ := h
  have hl := hlen
  rcases hrow with ⟨rfl, h0⟩ | ⟨g, cap, cur, rfl, hb, hg, hnc, hcm, hcs, htake⟩
  · exact ⟨hok, by omega, .inl ⟨rfl, List.eq_nil_of_length_eq_zero h0⟩⟩
  · refine ⟨hok, by omega, .inr ?_⟩
    by_cases h0 : l = []
    · subst h0; exact .inl ⟨_, cap, rfl, hcm, rfl⟩
    · refine .inr ⟨g, 0, cap, rfl, hnc, hcm, h0, ?_, fun i hi => ?_⟩
      · by_cases hlt : g < w.heap.size
        · exact hlt
        · rw [Array.getElem?_eq_none (by omega)] at hg; cases hg
      · have := World.ownsRow.cellAt (w := w) (base := base) (e := 3) (size := 1) (g := g) (n := l.length) (cap := cap) (xs := valz l) ⟨hlen, .inr ⟨g, cap, cur, rfl, hb, hg, hnc, hcm, hcs, htake⟩⟩ i (by omega)
        rw [valz_at hi] at this
        simpa using this

/-- The length that a readable value bears. -/
theorem Ints.shape {w : World} {v : Value} {l : List Int} (h : Ints w v l) : ∃ a cap, v = .slice a l.length cap ∧ l.length ≤ cap ∧ cap ≤ maxLen := by
  obtain ⟨_, hm, ⟨rfl, rfl⟩ | ⟨x, cap, rfl, hc, rfl⟩ | ⟨b, off, cap, rfl, h1, h2, _⟩⟩ := h
  · exact ⟨none, 0, rfl, Nat.le_refl _, hm⟩
  · exact ⟨some x, cap, rfl, Nat.zero_le _, hc⟩
  · exact ⟨_, cap, rfl, h1, h2⟩

/-- A world in which all blocks that were there stand as they stood. -/
theorem Ints.keep {w w' : World} {v : Value} {l : List Int} (h : Ints w v l) (hb : Below w.heap.size w w') : Ints w' v l := by
  obtain ⟨hok, hm, h1 | h2 | ⟨b, off, cap, rfl, h1, h2, h3, h4, h5⟩⟩ := h
  · exact ⟨hok, hm, .inl h1⟩
  · exact ⟨hok, hm, .inr (.inl h2)⟩
  · exact ⟨hok, hm, .inr (.inr ⟨b, off, cap, rfl, h1, h2, h3, Nat.lt_of_lt_of_le h4 hb.size, fun i hi => by rw [hb.cell (p := ⟨b, off + i, none⟩) h4]; exact h5 i hi⟩)⟩

theorem OwnZ.keep {w w' : World} {base : Nat} {v : Value} {l : List Int} (h : OwnZ w base v l) (hb : Below w.heap.size w w') : OwnZ w' base v l :=
  ⟨h.1, h.2.kept (row := none) ⟨hb.os, hb.tape, hb.output, hb.size, fun k hk _ => hb.block k hk⟩ (by cases hv : v.ownBlock <;> simp)⟩

/-- A write into another block leaves what is owned. -/
theorem OwnZ.keepBy {w w' : World} {base : Nat} {v : Value} {l : List Int} {row : Option Nat} (h : OwnZ w base v l) (hg : w.grownBy w' row) (hne : v.ownBlock = none ∨ v.ownBlock ≠ row) : OwnZ w' base v l :=
  ⟨h.1, h.2.kept hg hne⟩

/-- An argument that was read as a row of numbers is a readable row of bytes. -/
theorem ints_of_row {w : World} {a : Option Addr} {len cap : Nat} {zs : List Int}
    (h : (a = none ∧ len = 0 ∧ cap = 0 ∧ zs = []) ∨ ∃ x, a = some x ∧ len ≤ cap ∧ cap ≤ maxLen ∧ zs.length = cap ∧ (∀ i, i < zs.length → w.cell? (x.add i) = some (.int .i64 (zs.getD i 0))) ∧ ∀ n ∈ zs, (Lit.int .i64 n).wf = true) :
    Ints w (.slice a len cap) (zs.take len) := by
  rcases h with ⟨rfl, rfl, rfl, rfl⟩ | ⟨x, rfl, hl, hm, hz, hcell, hwz⟩
  · exact ⟨okZ_nil, by simp [maxLen], .inl ⟨rfl, rfl⟩⟩
  · have hok : okZ (zs.take len) := fun n hn => bounds_i64 (hwz n (List.mem_of_mem_take hn))
    have hlen : (zs.take len).length = len := by simp; omega
    by_cases h0 : len = 0
    · subst h0
      exact ⟨hok, by simp [maxLen], .inr (.inl ⟨x, cap, rfl, hm, by simp⟩)⟩
    · obtain ⟨b, off, spot⟩ := x
      have hc := hcell 0 (by omega)
      have hspot : spot = none := by simpa [Addr.add] using World.cell?_spot hc
      subst hspot
      refine ⟨hok, by omega, .inr (.inr ⟨b, off, cap, by rw [hlen], by omega, hm, ?_, ?_, fun i hi => ?_⟩)⟩
      · intro e; rw [e] at hlen; simp at hlen; omega
      · have := lt_of_cell hc; simpa [Addr.add] using this
      · have hi' := hcell i (by omega)
        rw [List.getD_eq_getElem?_getD, List.getElem?_take, if_pos (by omega), ← List.getD_eq_getElem?_getD]
        rw [add_plain] at hi'
        exact hi'

end Go.Proofs.Ytcabolcfoijglaa

/- The law's own helpers over ints: a copy of a row, by its contract. -/
namespace Go.Proofs.Ytcabolcfoijglaa
open Go.RowKit
set_option linter.unusedVariables false

theorem Try.info3 : (Try.prog.info? 3).map (fun i => (i.zero, i.size, i.bytes)) = some (some (.int .i64 0), 1, 8) := by kernel_rfl

/-- Behind k rounds of the copying loop: the first k bytes of l, then zeros. -/
def halfz (l : List Int) (k : Nat) : List Int := l.take k ++ List.replicate (l.length - k) 0
theorem halfz_len (l : List Int) (k : Nat) (h : k ≤ l.length) : (halfz l k).length = l.length := by simp [halfz]; omega
theorem halfz_zero (l : List Int) : valz (halfz l 0) = (madeCells #[Value.int .i64 0] l.length).toList := by
  rw [toList_madeCells_one]
  simp [halfz, valz]
theorem halfz_all (l : List Int) : halfz l l.length = l := by simp [halfz]
theorem halfz_at (l : List Int) (k i : Nat) (hk : k ≤ l.length) : (halfz l k)[i]? = if i < k then l[i]? else if i < l.length then some 0 else none := by
  have hm : min k l.length = k := by omega
  unfold halfz
  rw [List.getElem?_append, List.length_take, hm]
  by_cases h : i < k
  · simp [h]
  · rw [if_neg h, if_neg h, List.getElem?_replicate]
    by_cases h2 : i < l.length
    · rw [if_pos h2, if_pos (by omega)]
    · rw [if_neg h2, if_neg (by omega)]
theorem halfz_step (l : List Int) (k : Nat) (h : k < l.length) : (valz (halfz l k)).set k (.int .i64 (l.getD k 0)) = valz (halfz l (k + 1)) := by
  apply List.ext_getElem?
  intro i
  unfold valz
  rw [List.getElem?_set, List.getElem?_map, List.getElem?_map, halfz_at l k i (by omega), halfz_at l (k + 1) i (by omega), List.length_map, halfz_len l k (by omega)]
  by_cases hk : k = i
  · subst hk; rw [if_pos rfl, if_pos h, if_pos (by omega)]; simp [h]
  · rw [if_neg hk]
    by_cases h2 : i < k
    · rw [if_pos h2, if_pos (by omega)]
    · rw [if_neg h2, if_neg (show ¬ i < k + 1 by omega)]

set_option maxHeartbeats 1600000 in
set_option maxRecDepth 1000000 in
theorem toZ_any (w : World) (v : Value) (l : List Int) (h : Ints w v l) (hs : l.length ≤ 2097152) :
    Calls Try.prog 92 #[v] w fun e w' => ∃ v', e = .returned v' ∧ OwnZ w' w.heap.size v' l ∧ v' ≠ .slice none 0 0 ∧ Below w.heap.size w w' := by
  obtain ⟨i0, hi, hz0, hz1, hz2⟩ := info_parts Try.info3
  obtain ⟨hok, hm, ⟨rfl, rfl⟩ | ⟨x, cap, rfl, hc, rfl⟩ | ⟨b, off, cap, rfl, h1, h2, h3, h4, h5⟩⟩ := h
  · go_enter Try.func92, Try.ntmps92
    go_wp2_with (at_make; refine wpList_make_full _ rfl _ _ 25 rfl w.heap.size 3 i0 (.int .i64 0) 1 Try.underlying25 hi hz0 hz1 .i64 .i64 _ _ 0 rfl rfl rfl rfl ?c1 ?c2 ?c3 ?_)
    case c1 => omega
    case c2 => exact hm
    case c3 => exact Nat.le_refl _
    intro w1 hown hgrow
    have hB1 := Below.ofGrown hgrow
    have hown1 : w1.ownsRow w.heap.size 3 1 (.slice (some ⟨w.heap.size, 0, none⟩) 0 0) 0 (valz []) := by have e := halfz_zero []; rw [show halfz [] 0 = [] from rfl] at e; rw [e]; exact hown
    clear hown hgrow
    go_wp2
    refine wp_loop_rounds 1 ?_
    rw [rounds_succ]
    go_wp2
    go_ret
    exact ⟨_, rfl, ⟨okZ_nil, hown1⟩, by simp, hB1⟩
  · go_enter Try.func92, Try.ntmps92
    go_wp2_with (at_make; refine wpList_make_full _ rfl _ _ 25 rfl w.heap.size 3 i0 (.int .i64 0) 1 Try.underlying25 hi hz0 hz1 .i64 .i64 _ _ 0 rfl rfl rfl rfl ?c1 ?c2 ?c3 ?_)
    case c1 => omega
    case c2 => exact hm
    case c3 => exact Nat.le_refl _
    intro w1 hown hgrow
    have hB1 := Below.ofGrown hgrow
    have hown1 : w1.ownsRow w.heap.size 3 1 (.slice (some ⟨w.heap.size, 0, none⟩) 0 0) 0 (valz []) := by have e := halfz_zero []; rw [show halfz [] 0 = [] from rfl] at e; rw [e]; exact hown
    clear hown hgrow
    go_wp2
    refine wp_loop_rounds 1 ?_
    rw [rounds_succ]
    go_wp2
    go_ret
    exact ⟨_, rfl, ⟨okZ_nil, hown1⟩, by simp, hB1⟩
  · go_enter Try.func92, Try.ntmps92
    go_wp2_with (at_make; refine wpList_make_full _ rfl _ _ 25 rfl w.heap.size 3 i0 (.int .i64 0) 1 Try.underlying25 hi hz0 hz1 .i64 .i64 _ _ l.length rfl rfl rfl rfl ?c1 ?c2 ?c3 ?_)
    case c1 => rw [hz2]; omega
    case c2 => exact hm
    case c3 => exact Nat.le_refl _
    intro w1 hown hgrow
    have hB1 := Below.ofGrown hgrow
    have hown1 : w1.ownsRow w.heap.size 3 1 (.slice (some ⟨w.heap.size, 0, none⟩) l.length l.length) l.length (valz (halfz l 0)) := by rw [halfz_zero]; exact hown
    clear hown hgrow
    go_wp2
    go_loopw [4] (fun i wr => ∃ k : Nat, k ≤ l.length ∧ i = .int .i64 k ∧ wr.ownsRow w.heap.size 3 1 (.slice (some ⟨w.heap.size, 0, none⟩) l.length l.length) l.length (valz (halfz l k)) ∧ Below w.heap.size w wr) (fun i _ => l.length - (intOf i).toNat)
    case atStart => exact ⟨0, Nat.zero_le _, rfl, hown1, hB1⟩
    case round =>
      obtain ⟨k, hk, rfl, hw, hB⟩ := hrel
      clear hown1 hB1
      have hcx : k < l.length → wr.cell? ⟨b, off + k, none⟩ = some (.int .i64 (l.getD k 0)) := fun hlt => (hB.cell (p := ⟨b, off + k, none⟩) h4).trans (h5 k hlt)
      have hcy : k < l.length → wr.cell? ⟨w.heap.size, k, none⟩ = some (.int .i64 ((halfz l k).getD k 0)) := fun hlt => by
        rw [hw.cellAt k (by omega), valz_at (by rw [halfz_len l k hk]; exact hlt)]
      have hfr := hw.frozenAt k
      have hst := hw.stored k (.int .i64 (l.getD k 0))
      have R : k < l.length → (wr.setCell ⟨w.heap.size, k, none⟩ (.int .i64 (l.getD k 0))).ownsRow w.heap.size 3 1 (.slice (some ⟨w.heap.size, 0, none⟩) l.length l.length) l.length (valz (halfz l (k + 1))) ∧ Below w.heap.size w (wr.setCell ⟨w.heap.size, k, none⟩ (.int .i64 (l.getD k 0))) := fun hlt => by
        rw [← halfz_step l k hlt]
        exact ⟨hst.1, hB.setCell (p := ⟨w.heap.size, k, none⟩) (Nat.le_refl _) _⟩
      have HR := hide R
      clear R hst
      go_wp2
      · have hlt : k < l.length := by assumption
        have R := unhide HR hlt
        rw [getD_at hlt] at R
        go_roundw
        case rel => exact ⟨k + 1, by omega, by go_num, R.1, R.2⟩
        case measure => simp [intOf]; omega
      · have e : k = l.length := by omega
        subst e
        go_ret
        rw [halfz_all] at hw
        exact ⟨_, rfl, ⟨hok, hw⟩, by simp, hB⟩
end Go.Proofs.Ytcabolcfoijglaa

/- An append of a readable row of ints to an owned one, as one law for the walk. -/
namespace Go.Proofs.Ytcabolcfoijglaa
open Go.RowKit
set_option linter.unusedVariables false

/-- 'append(out, src...)': out owned, src readable: what comes is owned, and no block but out's own has been written. -/
theorem wpList_appZ {w : World} {ops : Array Oper} {rest : List Oper} {o : Oper} {a : Act} {Q : Exit → Act → World → Prop} (hgd : o.guard = none) (s x : Operand)
    (ho : o.op = .call { callee := .builtin .append, args := #[s, x], argTypes := #[25, 25] })
    (base : Nat) (v : Value) (l : List Int) (hs : a.eval s = v) (hown : OwnZ w base v l) (u : Value) (m : List Int) (hx : a.eval x = u) (hu : Ints w u m)
    (hlen : l.length + m.length ≤ 134217728) (hbase : base ≤ w.heap.size)
    (h : ∀ v' w', OwnZ w' base v' (l ++ m) → w.grownBy w' v.ownBlock → wpList Try.prog ops Q rest (a.put o.dst v') w') : wpList Try.prog ops Q (o :: rest) a w := by
  obtain ⟨i0, hi, hz0, hz1, hz2⟩ := info_parts Try.info3
  have hfull : ∀ (ad : Addr) (c : Nat), a.eval x = .slice (some ad) m.length c → (∀ j, j < m.length → w.cell? (ad.add j) = some (.int .i64 (m.getD j 0))) → wpList Try.prog ops Q (o :: rest) a w := by
    intro ad c hx' hc
    refine wpList_append_own _ hgd s x 25 ho base 3 i0 (.int .i64 0) 1 8 Try.underlying25 hi hz0 hz1 hz2 rfl (by decide) v l.length (valz l) hs hown.2 ad m.length c (valz m) hx' (by rw [valz_len]; omega) ?_ (valz_one m) (by unfold maxLen; omega) (by omega) hbase ?_
    · intro j y hj
      have hlt : j < m.length := by
        by_cases hlt : j < m.length
        · exact hlt
        · rw [List.getElem?_eq_none (by rw [valz_len]; omega)] at hj; cases hj
      rw [valz_at hlt] at hj
      rw [hc j hlt]; exact hj
    · intro v' w' h1 h2 _
      refine h v' w' ⟨hown.1.app hu.1, ?_⟩ h2
      rw [valz_app, List.length_append]; exact h1
  obtain ⟨hok, hm, ⟨rfl, rfl⟩ | ⟨y, cap, rfl, hc, rfl⟩ | ⟨b, off, cap, rfl, h1, h2, h3, h4, h5⟩⟩ := hu
  · refine wpList_append_own_none hgd s x 25 ho base 3 i0 1 Try.underlying25 hi v l.length (valz l) hs hown.2 hx ?_
    exact h v w (by rw [List.append_nil]; exact hown) (World.grownBy.refl _ _)
  · exact hfull y cap hx (fun j hj => by simp at hj)
  · exact hfull ⟨b, off, none⟩ cap hx (fun j hj => by rw [add_plain]; exact h5 j hj)

/-- A new block of one int. -/
theorem int_one (w : World) (x : Int) (h0 : -9223372036854775808 ≤ x) (h1 : x ≤ 9223372036854775807) : Ints (w.alloc (.cells #[.int .i64 x] 3)) (.slice (some ⟨w.heap.size, 0, none⟩) 1 1) [x] := by
  refine ⟨okZ.one h0 h1, by simp [maxLen], .inr (.inr ⟨w.heap.size, 0, 1, rfl, by simp, by simp [maxLen], by simp, by simp, fun i hi => ?_⟩)⟩
  have e : i = 0 := by simpa using hi
  subst e
  simp
/-- No row at all. -/
theorem ownz_nil (w : World) (base : Nat) : OwnZ w base (.slice none 0 0) [] := ⟨okZ_nil, rfl, .inl ⟨rfl, rfl⟩⟩
theorem OwnZ.alloc {w : World} {base : Nat} {v : Value} {l : List Int} (h : OwnZ w base v l) (o : Obj) : OwnZ (w.alloc o) base v l := ⟨h.1, h.2.alloc o⟩
theorem Ints.alloc {w : World} {v : Value} {l : List Int} (h : Ints w v l) (o : Obj) : Ints (w.alloc o) v l := h.keep ((Below.refl _ _).alloc (Nat.le_refl _) o)
/-- A block of the call's own that was there when the row was made is no older than 'base'. -/
theorem OwnZ.base_le {w : World} {base : Nat} {v : Value} {l : List Int} (h : OwnZ w base v l) : ∀ g, v.ownBlock = some g → base ≤ g := fun g hg => (h.lt g hg).1

end Go.Proofs.Ytcabolcfoijglaa

/- spec.l4drawKey: a row of numbers that is drawn. -/
namespace Go.Proofs.Ytcabolcfoijglaa
open Go.RowKit
set_option linter.unusedVariables false
set_option maxRecDepth 100000

theorem OwnZ.past {w w' : World} {base g : Nat} {v : Value} {l : List Int} (h : OwnZ w base v l) (hg : w.grownBy w' (some g)) (hb : g < base) : OwnZ w' base v l :=
  h.keepBy hg (.inr (fun e => by have := h.base_le g e; omega))
theorem intsC_made (w : World) (m : List Int) (n : Nat) (hn : m.length = n) : IntsC (w.alloc (.cells (m.map (Value.int .i64)).toArray 3)) (.slice (some ⟨w.heap.size, 0, none⟩) n n) m := by
  subst hn
  refine ⟨w.heap.size, 0, m.length, rfl, by simp, fun i hi => ?_⟩
  rw [World.cell?_alloc_at _ _ _ _ rfl]
  simp [hi]

/-- A slice's length. -/
def slen : Value → Nat
  | .slice _ n _ => n
  | _ => 0

set_option maxHeartbeats 6400000 in
theorem drawKey_any (w0 w : World) (g : Nat) (code : Value) (l : List Int) (h : Cur w0 w g code l) :
    Calls Try.prog 83 #[.pointer (some ⟨g, 0, none⟩)] w fun e w' => ∃ a c k, e = .returned (.slice a k.length c) ∧ OwnZ w' w.heap.size (.slice a k.length c) k ∧ k.length ≤ 13 ∧ Cur w0 w' g code l ∧ w.grownBy w' (some g) := by
  have hgl := h.lt
  go_enter Try.func83, Try.ntmps83
  go_wp2_with fail
  refine (l1Below_any w0 w g code l 3 h (by omega) (by omega)).mono ?_
  rintro e w1 ⟨n, hn0, hn1, rfl, hC1, hG1⟩
  go_wp2_with fail
  obtain ⟨n, rfl⟩ := Int.eq_ofNat_of_zero_le hn0
  have hn2 : n < 3 := by omega
  clear hn0 hn1
  go_loopw [3, 5] (fun o i wr => ∃ (j : Nat) (a : Option Addr) (c : Nat) (k : List Int), j ≤ 1 + n ∧ i = .int .i64 j ∧ o = .slice a k.length c ∧ OwnZ wr w.heap.size (.slice a k.length c) k ∧ k.length = j ∧ Cur w0 wr g code l ∧ w.grownBy wr (some g)) (fun _ i _ => 1 + n - (intOf i).toNat)
  case atStart => exact ⟨0, none, 0, [], Nat.zero_le _, rfl, rfl, ownz_nil _ _, rfl, hC1, hG1⟩
  case round =>
    obtain ⟨j, a, c, k, hj, rfl, rfl, ho, hk, hC, hG⟩ := hrel
    clear hC1 hG1
    subst hk
    by_cases hlt : k.length < 1 + n
    · have hlt' : (k.length : Int) < 1 + (n : Int) := by omega
      go_wp2_with fail
      refine (l1Below_any w0 wr g code l 9 hC (by omega) (by omega)).mono ?_
      rintro e w2 ⟨x, hx0, hx1, rfl, hC2, hG2⟩
      have ho2 := ho.past hG2 hgl
      have hG2' := grown_trans hG hG2
      clear hC hG hG2 ho
      go_wp2_with fail
      have hA3 := (Below.refl w2.heap.size w2).alloc (Nat.le_refl _) (.cells #[.int .i64 0, .int .i64 1, .int .i64 2, .int .i64 500, .int .i64 999, .int .i64 998, .int .i64 x] 3)
      have hi3 : IntsC (w2.alloc (.cells #[.int .i64 0, .int .i64 1, .int .i64 2, .int .i64 500, .int .i64 999, .int .i64 998, .int .i64 x] 3)) (.slice (some ⟨w2.heap.size, 0, none⟩) 7 7) [0, 1, 2, 500, 999, 998, x] := intsC_made w2 [0, 1, 2, 500, 999, 998, x] 7 rfl
      refine (l1PickInt_any w0 _ g code l _ [0, 1, 2, 500, 999, 998, x] (hC2.keepAll hA3) (by simp) (by simp) hi3 (fun a n c e => by injection e with e; injection e with e; subst e; have := hC2.lt; simp; omega)).mono ?_
      rintro e w4 ⟨y, hy, rfl, hC4, hG4⟩
      have hy0 : 0 ≤ y ∧ y ≤ 999 := by simp at hy; omega
      have ho4 := (ho2.keep hA3).past hG4 hgl
      have hG4' := grown_trans (grown_below hG2' hA3) hG4
      clear hC2 hG2' hA3 hi3 hG4 ho2 hy
      have hY := hide (int_one w4 y (by omega) (by omega))
      go_wp2_with (at_builtin; refine wpList_appZ rfl _ _ rfl w.heap.size _ k rfl (ho4.alloc _) _ [y] rfl (unhide hY) ?c1 ?c2 ?_)
      case c1 => first | omega | (simp; omega)
      case c2 => have := hG4'.size; first | omega | (simp; omega)
      intro v5 w5 ho5 hg5
      have hgn : ∀ q, (Value.slice a k.length c).ownBlock = some q → w.heap.size ≤ q := fun q hq => (ho4.lt q hq).1
      have hA5 := grown_trans (Below.toGrown ((Below.refl w4.heap.size w4).alloc (Nat.le_refl _) (.cells #[.int .i64 y] 3)) _) hg5
      have hG5 := grown_new hG4' hA5 hgn
      have hC5 := hC4.keep hA5 (fun e => by have := hgn g e.symm; omega) (fun q hq => by have := hgn q hq; have := h.below.size; omega)
      obtain ⟨a5, c5, rfl, _, _⟩ := ho5.ints.shape
      clear hY hg5 hA5 hgn ho4 hC4 hG4'
      go_wp2_with fail
      go_roundw
      case rel => exact ⟨k.length + 1, a5, c5, k ++ [y], by omega, by go_num, rfl, ho5, by simp, hC5, hG5⟩
      case measure => simp [intOf]; omega
    · obtain ⟨z, hz⟩ : ∃ z, z = k.getD n 0 := ⟨_, rfl⟩
      have hlk : k.length = n + 1 := by omega
      obtain ⟨q, rfl⟩ : ∃ q, a = some ⟨q, 0, none⟩ := by
        obtain ⟨_, hr⟩ := ho
        rcases hr.2 with ⟨e, h0⟩ | ⟨q, cap, cur, e, _⟩
        · omega
        · exact ⟨q, by injection e⟩
      have hq := ho.lt q rfl
      have hcz : wr.cell? ⟨q, n, none⟩ = some (.int .i64 z) := by rw [hz, ho.2.cellAt n (by omega), valz_at (by omega)]
      have hfz := ho.2.frozenAt n
      have hst := ho.2.stored n (.int .i64 1)
      have hset : (valz k).set n (.int .i64 1) = valz (k.set n 1) := by unfold valz; rw [List.map_set]
      rw [hset] at hst
      have e1 : (k.length : Int) - 1 = (n : Int) := by omega
      have hltn : n < k.length := by omega
      have HS := hide (show OwnZ (wr.setCell ⟨q, n, none⟩ (.int .i64 1)) w.heap.size (.slice (some ⟨q, 0, none⟩) (k.set n 1).length c) (k.set n 1) ∧ wr.grownBy (wr.setCell ⟨q, n, none⟩ (.int .i64 1)) (some q) from ⟨⟨fun y hy => by
          rcases List.mem_or_eq_of_mem_set hy with h' | h'
          · exact ho.1 y h'
          · omega, by rw [List.length_set]; exact hst.1⟩, hst.2⟩)
      clear hst hset hz
      rw [List.length_set] at HS
      have HO := hide ho
      clear ho
      clear hlk
      obtain ⟨N, hN⟩ : ∃ N, N = k.length := ⟨_, rfl⟩
      have HN := hide (show k.length = N ∧ N ≤ 3 from ⟨hN.symm, by omega⟩)
      rw [← hN] at hj hlt e1 hltn HS HO ⊢
      clear hN
      have hlt' : ¬ (N : Int) < 1 + (n : Int) := by omega
      by_cases hz0 : z = 0
      · have dz : (z == 0) = true := by simp [hz0]
        clear hz0
        go_wp2_with fail
        obtain ⟨hoB, hgB⟩ := unhide HS
        have hCB := hC.keep hgB (by simp; omega) (fun r hr => by simp at hr; have := h.below.size; omega)
        have hGB := grown_new hG hgB (fun r hr => by simp at hr; omega)
        have HNB := hide (show (k.set n 1).length = N ∧ N ≤ 3 by rw [List.length_set]; exact unhide HN)
        clear hC hG hgB HS HO HN hcz hfz
        generalize (wr.setCell ⟨q, n, none⟩ (.int .i64 1)) = wB at *
        generalize k.set n 1 = kB at *
        refine (l1Once_any w0 wB g code l 15 hCB (by omega) (by omega)).mono ?_
        rintro e w6 ⟨b6, rfl, hC6, hG6⟩
        have ho6 := hoB.past hG6 hgl
        have hG6' := grown_trans hGB hG6
        clear hoB hCB hGB hG6
        cases b6
        · have HNk := hide (show kB.length = N ∧ N ≤ 4 from ⟨(unhide HNB).1, by have := (unhide HNB).2; omega⟩)
          clear HNB
          generalize kB = kD at *
          go_wp2_with fail
          refine (l1Once_any w0 w6 g code l 30 hC6 (by omega) (by omega)).mono ?_
          rintro e w9 ⟨b9, rfl, hC9, hG9⟩
          have ho9 := ho6.past hG9 hgl
          have hG9' := grown_trans hG6' hG9
          cases b9
          · go_wp2_with fail
            go_ret
            exact ⟨_, _, kD, by rw [(unhide HNk).1]; rfl, by rw [(unhide HNk).1]; exact ho9, by have := unhide HNk; omega, hC9, hG9'⟩
          · go_wp2_with fail
            go_loopw [3] (fun o wr => ∃ (a : Option Addr) (c m : Nat) (k : List Int), o = .slice a m c ∧ OwnZ wr w.heap.size (.slice a m c) k ∧ Hid (k.length = m) ∧ m ≤ 13 ∧ Cur w0 wr g code l ∧ w.grownBy wr (some g)) (fun o _ => 13 - slen o)
            case atStart => exact ⟨_, _, _, kD, rfl, ho9, hide (unhide HNk).1, by have := unhide HNk; omega, hC9, hG9'⟩
            case round =>
              clear ho9 hC9 hG9 hG9'
              obtain ⟨a, c, m, k, rfl, ho, HNk, hm, hC, hG⟩ := hrel
              go_wp2_with fail
              refine (l1Below_any w0 _ g code l 2 hC (by omega) (by omega)).mono ?_
              rintro e wx ⟨x, hx0, hx1, rfl, hCx, hGx⟩
              have hox := ho.past hGx hgl
              have hGx' := grown_trans hG hGx
              clear ho hC hG hGx
              by_cases hlt : (m : Int) < 12 + x
              · have hY := hide (int_one wx 1 (by omega) (by omega))
                go_wp2_with (at_builtin; refine wpList_appZ rfl _ _ rfl w.heap.size _ k rfl (hox.alloc _) _ [1] rfl (unhide hY) ?c1 ?c2 ?_)
                case c1 => have := unhide HNk; first | omega | (simp; omega)
                case c2 => have := hGx'.size; first | omega | (simp; omega)
                intro v7 w7 ho7 hg7
                have hgn := fun q hq => (hox.lt q hq).1
                have hA7 := grown_trans (Below.toGrown ((Below.refl wx.heap.size wx).alloc (Nat.le_refl _) (.cells #[.int .i64 1] 3)) _) hg7
                have hG7 := grown_new hGx' hA7 hgn
                have hC7 := hCx.keep hA7 (fun e => by have := hgn g e.symm; omega) (fun q hq => by have := hgn q hq; have := h.below.size; omega)
                obtain ⟨a7, c7, rfl, _, _⟩ := ho7.ints.shape
                clear hY hg7 hA7 hgn
                go_wp2_with fail
                go_roundw
                case rel => exact ⟨a7, c7, _, k ++ [1], rfl, ho7, hide rfl, by have := unhide HNk; simp; omega, hC7, hG7⟩
                case measure => have := unhide HNk; simp [slen]; omega
              · go_wp2_with fail
                go_ret
                exact ⟨a, c, k, by rw [unhide HNk]; rfl, by rw [unhide HNk]; exact hox, by have := unhide HNk; omega, hCx, hGx'⟩
        · go_wp2_with fail
          have hA7 := (Below.refl w6.heap.size w6).alloc (Nat.le_refl _) (.cells #[.int .i64 0, .int .i64 (-1), .int .i64 1000] 3)
          have hi7 : IntsC (w6.alloc (.cells #[.int .i64 0, .int .i64 (-1), .int .i64 1000] 3)) (.slice (some ⟨w6.heap.size, 0, none⟩) 3 3) [0, -1, 1000] := intsC_made w6 [0, -1, 1000] 3 rfl
          refine (l1PickInt_any w0 _ g code l _ [0, -1, 1000] (hC6.keepAll hA7) (by simp) (by simp) hi7 (fun a n c e => by injection e with e; injection e with e; subst e; have := hC6.lt; simp; omega)).mono ?_
          rintro e w7 ⟨y, hy, rfl, hC7, hG7⟩
          have hy0 : -1 ≤ y ∧ y ≤ 1000 := by simp at hy; omega
          have ho7 := (ho6.keep hA7).past hG7 hgl
          have hG7' := grown_trans (grown_below hG6' hA7) hG7
          clear hA7 hi7 hG7 hy ho6 hC6 hG6'
          have hY := hide (int_one w7 y (by omega) (by omega))
          go_wp2_with (at_builtin; refine wpList_appZ rfl _ _ rfl w.heap.size _ kB rfl (ho7.alloc _) _ [y] rfl (unhide hY) ?c1 ?c2 ?_)
          case c1 => have := unhide HNB; first | omega | (simp; omega)
          case c2 => have := hG7'.size; first | omega | (simp; omega)
          intro v8 w8 ho8 hg8
          have hgn := fun q hq => (ho7.lt q hq).1
          have hA8 := grown_trans (Below.toGrown ((Below.refl w7.heap.size w7).alloc (Nat.le_refl _) (.cells #[.int .i64 y] 3)) _) hg8
          have hG8 := grown_new hG7' hA8 hgn
          have hC8 := hC7.keep hA8 (fun e => by have := hgn g e.symm; omega) (fun q hq => by have := hgn q hq; have := h.below.size; omega)
          obtain ⟨a8, c8, rfl, _, _⟩ := ho8.ints.shape
          obtain ⟨M, hM⟩ : ∃ M, M = (kB ++ [y]).length := ⟨_, rfl⟩
          have HNk := hide (show (kB ++ [y]).length = M ∧ M ≤ 4 from ⟨hM.symm, by rw [hM]; have := unhide HNB; simp; omega⟩)
          rw [← hM] at ho8 ⊢
          clear hM HNB
          generalize kB ++ [y] = kD at *
          clear hY hg8 hA8 hgn ho7 hC7 hG7'
          go_wp2_with fail
          refine (l1Once_any w0 w8 g code l 30 hC8 (by omega) (by omega)).mono ?_
          rintro e w9 ⟨b9, rfl, hC9, hG9⟩
          have ho9 := ho8.past hG9 hgl
          have hG9' := grown_trans hG8 hG9
          cases b9
          · go_wp2_with fail
            go_ret
            exact ⟨_, _, kD, by rw [(unhide HNk).1]; rfl, by rw [(unhide HNk).1]; exact ho9, by have := unhide HNk; omega, hC9, hG9'⟩
          · go_wp2_with fail
            go_loopw [3] (fun o wr => ∃ (a : Option Addr) (c m : Nat) (k : List Int), o = .slice a m c ∧ OwnZ wr w.heap.size (.slice a m c) k ∧ Hid (k.length = m) ∧ m ≤ 13 ∧ Cur w0 wr g code l ∧ w.grownBy wr (some g)) (fun o _ => 13 - slen o)
            case atStart => exact ⟨_, _, _, kD, rfl, ho9, hide (unhide HNk).1, by have := unhide HNk; omega, hC9, hG9'⟩
            case round =>
              clear ho9 hC9 hG9 hG9'
              obtain ⟨a, c, m, k, rfl, ho, HNk, hm, hC, hG⟩ := hrel
              go_wp2_with fail
              refine (l1Below_any w0 _ g code l 2 hC (by omega) (by omega)).mono ?_
              rintro e wx ⟨x, hx0, hx1, rfl, hCx, hGx⟩
              have hox := ho.past hGx hgl
              have hGx' := grown_trans hG hGx
              clear ho hC hG hGx
              by_cases hlt : (m : Int) < 12 + x
              · have hY := hide (int_one wx 1 (by omega) (by omega))
                go_wp2_with (at_builtin; refine wpList_appZ rfl _ _ rfl w.heap.size _ k rfl (hox.alloc _) _ [1] rfl (unhide hY) ?c1 ?c2 ?_)
                case c1 => have := unhide HNk; first | omega | (simp; omega)
                case c2 => have := hGx'.size; first | omega | (simp; omega)
                intro v7 w7 ho7 hg7
                have hgn := fun q hq => (hox.lt q hq).1
                have hA7 := grown_trans (Below.toGrown ((Below.refl wx.heap.size wx).alloc (Nat.le_refl _) (.cells #[.int .i64 1] 3)) _) hg7
                have hG7 := grown_new hGx' hA7 hgn
                have hC7 := hCx.keep hA7 (fun e => by have := hgn g e.symm; omega) (fun q hq => by have := hgn q hq; have := h.below.size; omega)
                obtain ⟨a7, c7, rfl, _, _⟩ := ho7.ints.shape
                clear hY hg7 hA7 hgn
                go_wp2_with fail
                go_roundw
                case rel => exact ⟨a7, c7, _, k ++ [1], rfl, ho7, hide rfl, by have := unhide HNk; simp; omega, hC7, hG7⟩
                case measure => have := unhide HNk; simp [slen]; omega
              · go_wp2_with fail
                go_ret
                exact ⟨a, c, k, by rw [unhide HNk]; rfl, by rw [unhide HNk]; exact hox, by have := unhide HNk; omega, hCx, hGx'⟩
      · have dz : (z == 0) = false := by simpa using hz0
        clear hz0
        go_wp2_with fail
        have hoB := unhide HO
        have hCB := hC
        have hGB := hG
        have HNB := HN
        clear hC hG HS HO HN hcz hfz
        obtain ⟨wB, ewB⟩ : ∃ x, x = wr := ⟨_, rfl⟩
        subst ewB
        generalize k = kB at *
        refine (l1Once_any w0 wB g code l 15 hCB (by omega) (by omega)).mono ?_
        rintro e w6 ⟨b6, rfl, hC6, hG6⟩
        have ho6 := hoB.past hG6 hgl
        have hG6' := grown_trans hGB hG6
        clear hoB hCB hGB hG6
        cases b6
        · have HNk := hide (show kB.length = N ∧ N ≤ 4 from ⟨(unhide HNB).1, by have := (unhide HNB).2; omega⟩)
          clear HNB
          generalize kB = kD at *
          go_wp2_with fail
          refine (l1Once_any w0 w6 g code l 30 hC6 (by omega) (by omega)).mono ?_
          rintro e w9 ⟨b9, rfl, hC9, hG9⟩
          have ho9 := ho6.past hG9 hgl
          have hG9' := grown_trans hG6' hG9
          cases b9
          · go_wp2_with fail
            go_ret
            exact ⟨_, _, kD, by rw [(unhide HNk).1]; rfl, by rw [(unhide HNk).1]; exact ho9, by have := unhide HNk; omega, hC9, hG9'⟩
          · go_wp2_with fail
            go_loopw [3] (fun o wr => ∃ (a : Option Addr) (c m : Nat) (k : List Int), o = .slice a m c ∧ OwnZ wr w.heap.size (.slice a m c) k ∧ Hid (k.length = m) ∧ m ≤ 13 ∧ Cur w0 wr g code l ∧ w.grownBy wr (some g)) (fun o _ => 13 - slen o)
            case atStart => exact ⟨_, _, _, kD, rfl, ho9, hide (unhide HNk).1, by have := unhide HNk; omega, hC9, hG9'⟩
            case round =>
              clear ho9 hC9 hG9 hG9'
              obtain ⟨a, c, m, k, rfl, ho, HNk, hm, hC, hG⟩ := hrel
              go_wp2_with fail
              refine (l1Below_any w0 _ g code l 2 hC (by omega) (by omega)).mono ?_
              rintro e wx ⟨x, hx0, hx1, rfl, hCx, hGx⟩
              have hox := ho.past hGx hgl
              have hGx' := grown_trans hG hGx
              clear ho hC hG hGx
              by_cases hlt : (m : Int) < 12 + x
              · have hY := hide (int_one wx 1 (by omega) (by omega))
                go_wp2_with (at_builtin; refine wpList_appZ rfl _ _ rfl w.heap.size _ k rfl (hox.alloc _) _ [1] rfl (unhide hY) ?c1 ?c2 ?_)
                case c1 => have := unhide HNk; first | omega | (simp; omega)
                case c2 => have := hGx'.size; first | omega | (simp; omega)
                intro v7 w7 ho7 hg7
                have hgn := fun q hq => (hox.lt q hq).1
                have hA7 := grown_trans (Below.toGrown ((Below.refl wx.heap.size wx).alloc (Nat.le_refl _) (.cells #[.int .i64 1] 3)) _) hg7
                have hG7 := grown_new hGx' hA7 hgn
                have hC7 := hCx.keep hA7 (fun e => by have := hgn g e.symm; omega) (fun q hq => by have := hgn q hq; have := h.below.size; omega)
                obtain ⟨a7, c7, rfl, _, _⟩ := ho7.ints.shape
                clear hY hg7 hA7 hgn
                go_wp2_with fail
                go_roundw
                case rel => exact ⟨a7, c7, _, k ++ [1], rfl, ho7, hide rfl, by have := unhide HNk; simp; omega, hC7, hG7⟩
                case measure => have := unhide HNk; simp [slen]; omega
              · go_wp2_with fail
                go_ret
                exact ⟨a, c, k, by rw [unhide HNk]; rfl, by rw [unhide HNk]; exact hox, by have := unhide HNk; omega, hCx, hGx'⟩
        · go_wp2_with fail
          have hA7 := (Below.refl w6.heap.size w6).alloc (Nat.le_refl _) (.cells #[.int .i64 0, .int .i64 (-1), .int .i64 1000] 3)
          have hi7 : IntsC (w6.alloc (.cells #[.int .i64 0, .int .i64 (-1), .int .i64 1000] 3)) (.slice (some ⟨w6.heap.size, 0, none⟩) 3 3) [0, -1, 1000] := intsC_made w6 [0, -1, 1000] 3 rfl
          refine (l1PickInt_any w0 _ g code l _ [0, -1, 1000] (hC6.keepAll hA7) (by simp) (by simp) hi7 (fun a n c e => by injection e with e; injection e with e; subst e; have := hC6.lt; simp; omega)).mono ?_
          rintro e w7 ⟨y, hy, rfl, hC7, hG7⟩
          have hy0 : -1 ≤ y ∧ y ≤ 1000 := by simp at hy; omega
          have ho7 := (ho6.keep hA7).past hG7 hgl
          have hG7' := grown_trans (grown_below hG6' hA7) hG7
          clear hA7 hi7 hG7 hy ho6 hC6 hG6'
          have hY := hide (int_one w7 y (by omega) (by omega))
          go_wp2_with (at_builtin; refine wpList_appZ rfl _ _ rfl w.heap.size _ kB rfl (ho7.alloc _) _ [y] rfl (unhide hY) ?c1 ?c2 ?_)
          case c1 => have := unhide HNB; first | omega | (simp; omega)
          case c2 => have := hG7'.size; first | omega | (simp; omega)
          intro v8 w8 ho8 hg8
          have hgn := fun q hq => (ho7.lt q hq).1
          have hA8 := grown_trans (Below.toGrown ((Below.refl w7.heap.size w7).alloc (Nat.le_refl _) (.cells #[.int .i64 y] 3)) _) hg8
          have hG8 := grown_new hG7' hA8 hgn
          have hC8 := hC7.keep hA8 (fun e => by have := hgn g e.symm; omega) (fun q hq => by have := hgn q hq; have := h.below.size; omega)
          obtain ⟨a8, c8, rfl, _, _⟩ := ho8.ints.shape
          obtain ⟨M, hM⟩ : ∃ M, M = (kB ++ [y]).length := ⟨_, rfl⟩
          have HNk := hide (show (kB ++ [y]).length = M ∧ M ≤ 4 from ⟨hM.symm, by rw [hM]; have := unhide HNB; simp; omega⟩)
          rw [← hM] at ho8 ⊢
          clear hM HNB
          generalize kB ++ [y] = kD at *
          clear hY hg8 hA8 hgn ho7 hC7 hG7'
          go_wp2_with fail
          refine (l1Once_any w0 w8 g code l 30 hC8 (by omega) (by omega)).mono ?_
          rintro e w9 ⟨b9, rfl, hC9, hG9⟩
          have ho9 := ho8.past hG9 hgl
          have hG9' := grown_trans hG8 hG9
          cases b9
          · go_wp2_with fail
            go_ret
            exact ⟨_, _, kD, by rw [(unhide HNk).1]; rfl, by rw [(unhide HNk).1]; exact ho9, by have := unhide HNk; omega, hC9, hG9'⟩
          · go_wp2_with fail
            go_loopw [3] (fun o wr => ∃ (a : Option Addr) (c m : Nat) (k : List Int), o = .slice a m c ∧ OwnZ wr w.heap.size (.slice a m c) k ∧ Hid (k.length = m) ∧ m ≤ 13 ∧ Cur w0 wr g code l ∧ w.grownBy wr (some g)) (fun o _ => 13 - slen o)
            case atStart => exact ⟨_, _, _, kD, rfl, ho9, hide (unhide HNk).1, by have := unhide HNk; omega, hC9, hG9'⟩
            case round =>
              clear ho9 hC9 hG9 hG9'
              obtain ⟨a, c, m, k, rfl, ho, HNk, hm, hC, hG⟩ := hrel
              go_wp2_with fail
              refine (l1Below_any w0 _ g code l 2 hC (by omega) (by omega)).mono ?_
              rintro e wx ⟨x, hx0, hx1, rfl, hCx, hGx⟩
              have hox := ho.past hGx hgl
              have hGx' := grown_trans hG hGx
              clear ho hC hG hGx
              by_cases hlt : (m : Int) < 12 + x
              · have hY := hide (int_one wx 1 (by omega) (by omega))
                go_wp2_with (at_builtin; refine wpList_appZ rfl _ _ rfl w.heap.size _ k rfl (hox.alloc _) _ [1] rfl (unhide hY) ?c1 ?c2 ?_)
                case c1 => have := unhide HNk; first | omega | (simp; omega)
                case c2 => have := hGx'.size; first | omega | (simp; omega)
                intro v7 w7 ho7 hg7
                have hgn := fun q hq => (hox.lt q hq).1
                have hA7 := grown_trans (Below.toGrown ((Below.refl wx.heap.size wx).alloc (Nat.le_refl _) (.cells #[.int .i64 1] 3)) _) hg7
                have hG7 := grown_new hGx' hA7 hgn
                have hC7 := hCx.keep hA7 (fun e => by have := hgn g e.symm; omega) (fun q hq => by have := hgn q hq; have := h.below.size; omega)
                obtain ⟨a7, c7, rfl, _, _⟩ := ho7.ints.shape
                clear hY hg7 hA7 hgn
                go_wp2_with fail
                go_roundw
                case rel => exact ⟨a7, c7, _, k ++ [1], rfl, ho7, hide rfl, by have := unhide HNk; simp; omega, hC7, hG7⟩
                case measure => have := unhide HNk; simp [slen]; omega
              · go_wp2_with fail
                go_ret
                exact ⟨a, c, k, by rw [unhide HNk]; rfl, by rw [unhide HNk]; exact hox, by have := unhide HNk; omega, hCx, hGx'⟩
end Go.Proofs.Ytcabolcfoijglaa

/- spec.NameOk and spec.l2text answer what the plain tests say. -/
namespace Go.Proofs.Ytcabolcfoijglaa
open Go.RowKit
set_option linter.unusedVariables false

/-- The test f holds of each of the first k bytes. -/
def allTo (f : Nat → Int → Prop) (l : List Int) (k : Nat) : Prop := ∀ i, i < k → f i (l.getD i 0)
theorem allTo_step {f : Nat → Int → Prop} {l : List Int} {k : Nat} (h : allTo f l k) (h1 : f k (l.getD k 0)) : allTo f l (k + 1) := fun i hi => by
  by_cases e : i = k
  · subst e; exact h1
  · exact h i (by omega)

/-- A byte that may stand at place i of a name. -/
def nameCh (i : Nat) (x : Int) : Prop := (97 ≤ x ∧ x ≤ 122) ∨ (0 < i ∧ 48 ≤ x ∧ x ≤ 57)
def NameOk (l : List Int) : Prop := 1 ≤ l.length ∧ l.length ≤ 8 ∧ allTo nameCh l l.length
/-- A byte that may stand in a text. -/
def textCh (_ : Nat) (x : Int) : Prop := 32 ≤ x ∧ x ≤ 126
def TextOk (l : List Int) : Prop := l.length ≤ 30 ∧ allTo textCh l l.length

theorem nameS_short (w : World) (a : Option Addr) (n cap : Nat) (h : n < 1 ∨ 8 < n) :
    Calls Try.prog 37 #[.slice a n cap] w fun e w' => e = .returned (.bool false) ∧ w' = w := by
  by_cases h1 : n < 1
  · have h1' : (n : Int) < 1 := by omega
    go_enter Try.func37, Try.ntmps37
    go_wp2
    go_ret
    exact ⟨rfl, rfl⟩
  · have h1' : decide ((n : Int) < 1) = false := by simp; omega
    have h2 : (8 : Int) < (n : Int) := by omega
    go_enter Try.func37, Try.ntmps37
    go_wp2
    go_ret
    exact ⟨rfl, rfl⟩

open Classical in
set_option maxHeartbeats 1600000 in
theorem nameS_row (w : World) (b off cap : Nat) (l : List Int) (hok : okB l) (h1 : 1 ≤ l.length) (h8 : l.length ≤ 8)
    (hc : ∀ i, i < l.length → w.cell? ⟨b, off + i, none⟩ = some (.int .u8 (l.getD i 0))) :
    Calls Try.prog 37 #[.slice (some ⟨b, off, none⟩) l.length cap] w fun e w' => e = .returned (.bool (decide (NameOk l))) ∧ w' = w := by
  have d1 : decide ((l.length : Int) < 1) = false := by simp; omega
  have d2 : decide ((8 : Int) < (l.length : Int)) = false := by simp; omega
  go_enter Try.func37, Try.ntmps37
  go_wp2
  go_loop [3] (fun i => ∃ k : Nat, k ≤ l.length ∧ i = .int .i64 k ∧ allTo nameCh l k) (fun i => l.length - (intOf i).toNat)
  case atStart => exact ⟨0, Nat.zero_le _, rfl, fun i hi => by omega⟩
  case round =>
    obtain ⟨k, hk, rfl, ha⟩ := hrel
    have HA := hide ha
    clear ha
    by_cases hlt : k < l.length
    · obtain ⟨x, hx⟩ : ∃ x, x = l.getD k 0 := ⟨_, rfl⟩
      have hcx : w.cell? ⟨b, off + k, none⟩ = some (.int .u8 x) := by rw [hx]; exact hc _ hlt
      have HX := hide hx
      have hlt' : (k : Int) < (l.length : Int) := by omega
      clear hc hx
      by_cases hn : nameCh k x
      · have HN := hide hn
        have hcase : (decide (x < 97) = false ∧ decide (122 < x) = false) ∨ (decide (x < 97) = true ∧ ((k : Int) == 0) = false ∧ decide (x < 48) = false ∧ decide (57 < x) = false) := by
          rcases hn with ⟨a1, a2⟩ | ⟨a1, a2, a3⟩
          · left; simp; omega
          · right; simp; omega
        clear hn
        rcases hcase with ⟨q1, q2⟩ | ⟨q1, q2, q3, q4⟩
        all_goals
          go_wp2
          go_round
          case rel => exact ⟨k + 1, by omega, by go_num, allTo_step (unhide HA) (by rw [← unhide HX]; exact unhide HN)⟩
          case measure => simp [intOf]; omega
      · have HF := hide (show decide (NameOk l) = false by
          simp only [decide_eq_false_iff_not]
          rintro ⟨_, _, h⟩
          exact hn (by rw [unhide HX]; exact h k hlt))
        have hcase : (decide (x < 97) = true ∧ (((k : Int) == 0) = true ∨ ((k : Int) == 0) = false ∧ (decide (x < 48) = true ∨ decide (x < 48) = false ∧ decide (57 < x) = true))) ∨
            (decide (x < 97) = false ∧ decide (122 < x) = true ∧ (((k : Int) == 0) = true ∨ ((k : Int) == 0) = false ∧ decide (x < 48) = false ∧ decide (57 < x) = true)) := by
          unfold nameCh at hn
          simp
          omega
        clear hn
        rcases hcase with ⟨q1, q2 | ⟨q2, q3 | ⟨q3, q4⟩⟩⟩ | ⟨q1, q2, q3 | ⟨q3, q4, q5⟩⟩
        all_goals
          go_wp2
          go_ret
          exact ⟨by rw [unhide HF]; rfl, rfl⟩
    · have e : k = l.length := by omega
      subst e
      have HF := hide (show decide (NameOk l) = true by simp only [decide_eq_true_eq]; exact ⟨h1, h8, unhide HA⟩)
      clear hc
      go_wp2
      go_ret
      exact ⟨by rw [unhide HF]; rfl, rfl⟩

open Classical in
theorem nameS_any (w : World) (v : Value) (l : List Int) (h : Byt w v l) :
    Calls Try.prog 37 #[v] w fun e w' => e = .returned (.bool (decide (NameOk l))) ∧ w' = w := by
  by_cases hl : l.length < 1 ∨ 8 < l.length
  · obtain ⟨a, cap, rfl, _⟩ := h.shape
    have hd : decide (NameOk l) = false := by simp only [decide_eq_false_iff_not]; rintro ⟨_, _, _⟩; omega
    rw [hd]
    exact nameS_short w a _ cap hl
  · obtain ⟨hok, hm, ⟨rfl, rfl⟩ | ⟨x, cap, rfl, hc, rfl⟩ | ⟨b, off, cap, rfl, _, _, _, _, h5⟩⟩ := h
    · simp at hl
    · simp at hl
    · exact nameS_row w b off cap l hok (by omega) (by omega) h5

open Classical in
set_option maxHeartbeats 1600000 in
theorem textS_any (w : World) (v : Value) (l : List Int) (h : Byt w v l) :
    Calls Try.prog 33 #[v] w fun e w' => e = .returned (.bool (decide (TextOk l))) ∧ w' = w := by
  by_cases hl : 30 < l.length
  · obtain ⟨a, cap, rfl, _⟩ := h.shape
    have HD := hide (show decide (TextOk l) = false by simp only [decide_eq_false_iff_not]; rintro ⟨_, _⟩; omega)
    have d2 : (30 : Int) < (l.length : Int) := by omega
    go_enter Try.func33, Try.ntmps33
    go_wp2
    go_ret
    exact ⟨by rw [unhide HD]; rfl, rfl⟩
  have d2 : ¬ (30 : Int) < (l.length : Int) := by omega
  by_cases h0 : l = []
  · obtain ⟨a, cap, rfl, _⟩ := h.shape
    subst h0
    have HD := hide (show decide (TextOk []) = true by simp only [decide_eq_true_eq]; exact ⟨by simp, fun i hi => by simp at hi⟩)
    go_enter Try.func33, Try.ntmps33
    go_wp2
    refine wp_loop_rounds 1 ?_
    rw [rounds_succ]
    go_wp2
    go_ret
    exact ⟨by rw [unhide HD]; rfl, rfl⟩
  obtain ⟨hok, hm, ⟨_, e⟩ | ⟨_, _, _, _, e⟩ | ⟨b, off, cap, rfl, _, _, _, _, hc⟩⟩ := h
  · exact absurd e h0
  · exact absurd e h0
  go_enter Try.func33, Try.ntmps33
  go_wp2
  go_loop [3] (fun i => ∃ k : Nat, k ≤ l.length ∧ i = .int .i64 k ∧ allTo textCh l k) (fun i => l.length - (intOf i).toNat)
  case atStart => exact ⟨0, Nat.zero_le _, rfl, fun i hi => by omega⟩
  case round =>
    obtain ⟨k, hk, rfl, ha⟩ := hrel
    have HA := hide ha
    clear ha
    by_cases hlt : k < l.length
    · obtain ⟨x, hx⟩ : ∃ x, x = l.getD k 0 := ⟨_, rfl⟩
      have hcx : w.cell? ⟨b, off + k, none⟩ = some (.int .u8 x) := by rw [hx]; exact hc _ hlt
      have HX := hide hx
      have hlt' : (k : Int) < (l.length : Int) := by omega
      clear hc hx
      by_cases hn : textCh k x
      · have HN := hide hn
        have q1 : decide (x < 32) = false := by unfold textCh at hn; simp; omega
        have q2 : decide (126 < x) = false := by unfold textCh at hn; simp; omega
        clear hn
        go_wp2
        go_round
        case rel => exact ⟨k + 1, by omega, by go_num, allTo_step (unhide HA) (by rw [← unhide HX]; exact unhide HN)⟩
        case measure => simp [intOf]; omega
      · have HF := hide (show decide (TextOk l) = false by
          simp only [decide_eq_false_iff_not]
          rintro ⟨_, h⟩
          exact hn (by rw [unhide HX]; exact h k hlt))
        have hcase : decide (x < 32) = true ∨ (decide (x < 32) = false ∧ decide (126 < x) = true) := by
          unfold textCh at hn; simp; omega
        clear hn
        rcases hcase with q1 | ⟨q1, q2⟩
        all_goals
          go_wp2
          go_ret
          exact ⟨by rw [unhide HF]; rfl, rfl⟩
    · have e : k = l.length := by omega
      subst e
      have HF := hide (show decide (TextOk l) = true by simp only [decide_eq_true_eq]; exact ⟨by omega, unhide HA⟩)
      clear hc
      go_wp2
      go_ret
      exact ⟨by rw [unhide HF]; rfl, rfl⟩

theorem nameS_yes (w : World) (v : Value) (l : List Int) (h : Byt w v l) (hn : NameOk l) : Calls Try.prog 37 #[v] w fun e w' => e = .returned (.bool true) ∧ w' = w := by
  refine (nameS_any w v l h).mono ?_
  rintro e w' ⟨rfl, h⟩
  exact ⟨by simp [hn], h⟩
theorem nameS_no (w : World) (v : Value) (l : List Int) (h : Byt w v l) (hn : ¬ NameOk l) : Calls Try.prog 37 #[v] w fun e w' => e = .returned (.bool false) ∧ w' = w := by
  refine (nameS_any w v l h).mono ?_
  rintro e w' ⟨rfl, h⟩
  exact ⟨by simp [hn], h⟩
theorem textS_yes (w : World) (v : Value) (l : List Int) (h : Byt w v l) (hn : TextOk l) : Calls Try.prog 33 #[v] w fun e w' => e = .returned (.bool true) ∧ w' = w := by
  refine (textS_any w v l h).mono ?_
  rintro e w' ⟨rfl, h⟩
  exact ⟨by simp [hn], h⟩
theorem textS_no (w : World) (v : Value) (l : List Int) (h : Byt w v l) (hn : ¬ TextOk l) : Calls Try.prog 33 #[v] w fun e w' => e = .returned (.bool false) ∧ w' = w := by
  refine (textS_any w v l h).mono ?_
  rintro e w' ⟨rfl, h⟩
  exact ⟨by simp [hn], h⟩

/-- The tests as truth values. -/
def allB (f : Nat → Int → Bool) (l : List Int) : Bool := (List.range l.length).all fun i => f i (l.getD i 0)
theorem allB_iff {f : Nat → Int → Bool} {p : Nat → Int → Prop} (h : ∀ i x, f i x = true ↔ p i x) (l : List Int) : allB f l = true ↔ allTo p l l.length := by
  unfold allB allTo
  rw [List.all_eq_true]
  constructor
  · intro k i hi; exact (h _ _).1 (k i (List.mem_range.2 hi))
  · intro k i hi; exact (h _ _).2 (k i (List.mem_range.1 hi))
def nameB (l : List Int) : Bool := decide (1 ≤ l.length) && decide (l.length ≤ 8) && allB (fun i x => decide (97 ≤ x ∧ x ≤ 122) || decide (0 < i ∧ 48 ≤ x ∧ x ≤ 57)) l
theorem nameB_iff (l : List Int) : nameB l = true ↔ NameOk l := by
  unfold nameB NameOk
  rw [Bool.and_eq_true, Bool.and_eq_true, decide_eq_true_eq, decide_eq_true_eq, allB_iff (p := nameCh) (fun i x => by unfold nameCh; rw [Bool.or_eq_true, decide_eq_true_eq, decide_eq_true_eq]), and_assoc]
def textB (l : List Int) : Bool := decide (l.length ≤ 30) && allB (fun _ x => decide (32 ≤ x ∧ x ≤ 126)) l
theorem textB_iff (l : List Int) : textB l = true ↔ TextOk l := by
  unfold textB TextOk
  rw [Bool.and_eq_true, decide_eq_true_eq, allB_iff (p := textCh) (fun i x => by unfold textCh; rw [decide_eq_true_eq])]

end Go.Proofs.Ytcabolcfoijglaa
