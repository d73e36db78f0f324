/- Blocks of a call's own: what is known of them whole, and what becomes of them while others are written. -/
import Derived.Test.YtkmmhlimihkgfaaBase
namespace Go.Proofs.Ytkmmhlimihkgfaa
open Go.RowKit
set_option linter.unusedVariables false

/-- The block of an owned slice. -/
def FB (v : Value) : List Nat := v.ownBlock.toList

/-- Of the blocks that were there none but those in S has turned. -/
structure Frm (w w' : World) (S : List Nat) : Prop where
  os : w'.os = w.os
  tape : w'.tape = w.tape
  output : w'.output = w.output
  size : w.heap.size ≤ w'.heap.size
  block : ∀ k, k < w.heap.size → k ∉ S → w'.heap[k]? = w.heap[k]?

theorem Frm.refl (w : World) (S : List Nat) : Frm w w S := ⟨rfl, rfl, rfl, Nat.le_refl _, fun _ _ _ => rfl⟩
theorem Frm.trans {a b c : World} {S : List Nat} (h : Frm a b S) (k : Frm b c S) : Frm a c S :=
  ⟨k.os.trans h.os, k.tape.trans h.tape, k.output.trans h.output, Nat.le_trans h.size k.size, fun i hi hn => (k.block i (Nat.lt_of_lt_of_le hi h.size) hn).trans (h.block i hi hn)⟩
theorem Frm.mono {a b : World} {S S' : List Nat} (h : Frm a b S) (hs : ∀ g ∈ S, g ∈ S') : Frm a b S' := ⟨h.os, h.tape, h.output, h.size, fun i hi hn => h.block i hi (fun e => hn (hs i e))⟩
theorem Frm.ofBelow {a b : World} (h : Below a.heap.size a b) (S : List Nat) : Frm a b S := ⟨h.os, h.tape, h.output, h.size, fun i hi _ => h.block i hi⟩
theorem Frm.ofGrown {a b : World} {row : Option Nat} (h : a.grownBy b row) : Frm a b row.toList := ⟨h.os, h.tape, h.output, h.size, fun i hi hn => h.block i hi (fun e => hn (by rw [← e]; simp))⟩
theorem Frm.below {a b : World} {S : List Nat} {B : Nat} (h : Frm a b S) (hB : B ≤ a.heap.size) (hs : ∀ g ∈ S, B ≤ g) : Below B a b := ⟨h.os, h.tape, h.output, h.size, fun i hi => h.block i (by omega) (fun e => by have := hs i e; omega)⟩
/-- A step that writes blocks which were not there at the start. -/
theorem Frm.new {a b c : World} {S S' : List Nat} (h : Frm a b S) (k : Frm b c S') (hs : ∀ g ∈ S', a.heap.size ≤ g) : Frm a c S :=
  ⟨k.os.trans h.os, k.tape.trans h.tape, k.output.trans h.output, Nat.le_trans h.size k.size, fun i hi hn => (k.block i (Nat.lt_of_lt_of_le hi h.size) (fun e => by have := hs i e; omega)).trans (h.block i hi hn)⟩

theorem ownsRow_frm {w w' : World} {base : Nat} {e : TypeId} {size : Nat} {v : Value} {n : Nat} {xs : List Value} {S : List Nat} (h : w.ownsRow base e size v n xs) (f : Frm w w' S) (hd : ∀ g ∈ FB v, g ∉ S) : w'.ownsRow base e size v n xs := by
  refine ⟨h.1, ?_⟩
  rcases h.2 with h' | ⟨g, cap, cur, rfl, hb, hg, hr⟩
  · exact .inl h'
  · have hlt : g < w.heap.size := by
      by_cases hlt : g < w.heap.size
      · exact hlt
      · rw [Array.getElem?_eq_none (by omega)] at hg; cases hg
    exact .inr ⟨g, cap, cur, rfl, hb, (f.block g hlt (hd g (by simp [FB, Value.ownBlock]))).trans hg, hr⟩
theorem Own.frm {w w' : World} {base : Nat} {v : Value} {l : List Int} {S : List Nat} (h : Own w base v l) (f : Frm w w' S) (hd : ∀ g ∈ FB v, g ∉ S) : Own w' base v l := ⟨h.1, ownsRow_frm h.2 f hd⟩
theorem ownsRow_base {w : World} {base : Nat} {e : TypeId} {size : Nat} {v : Value} {n : Nat} {xs : List Value} (h : w.ownsRow base e size v n xs) (b : Nat) (hb : b ≤ base) : w.ownsRow b e size v n xs := by
  refine ⟨h.1, ?_⟩
  rcases h.2 with h' | ⟨g, cap, cur, e1, h1, h2⟩
  · exact .inl h'
  · exact .inr ⟨g, cap, cur, e1, by omega, h2⟩

/-- Blocks from lo on, below hi. -/
def Rng (F : List Nat) (lo hi : Nat) : Prop := ∀ g ∈ F, lo ≤ g ∧ g < hi
theorem Rng.mono {F : List Nat} {lo hi lo' hi' : Nat} (h : Rng F lo hi) (h1 : lo' ≤ lo) (h2 : hi ≤ hi') : Rng F lo' hi' := fun g hg => by have := h g hg; omega
theorem Rng.app {F G : List Nat} {lo hi : Nat} (h : Rng F lo hi) (k : Rng G lo hi) : Rng (F ++ G) lo hi := fun g hg => by
  rcases List.mem_append.1 hg with h' | h'
  · exact h g h'
  · exact k g h'
theorem Rng.nil (lo hi : Nat) : Rng [] lo hi := fun g hg => by cases hg
theorem nodup_app {F G : List Nat} {lo mid hi : Nat} (hF : F.Nodup) (hG : G.Nodup) (h : Rng F lo mid) (k : Rng G mid hi) : (F ++ G).Nodup := by
  rw [List.nodup_append]
  exact ⟨hF, hG, fun a ha b hb e => by have := h a ha; have := k b hb; omega⟩
theorem FB_nodup (v : Value) : (FB v).Nodup := by unfold FB; cases v.ownBlock <;> simp
theorem Own.rng {w : World} {base : Nat} {v : Value} {l : List Int} (h : Own w base v l) : Rng (FB v) base w.heap.size := fun g hg => h.lt g (by simpa [FB] using hg)

/-- A block of the call's own that is known whole. -/
def Loc (w : World) (g : Nat) (cs : Array Value) (T : TypeId) : Prop := w.heap[g]? = some (.cells cs T (0, 0))
theorem Loc.lt {w : World} {g : Nat} {cs : Array Value} {T : TypeId} (h : Loc w g cs T) : g < w.heap.size := by
  by_cases hlt : g < w.heap.size
  · exact hlt
  · unfold Loc at h; rw [Array.getElem?_eq_none (by omega)] at h; cases h
theorem Loc.cell {w : World} {g : Nat} {cs : Array Value} {T : TypeId} (h : Loc w g cs T) (j : Nat) : w.cell? ⟨g, j, none⟩ = cs[j]? := cell_of_row w g j cs T (0, 0) h
theorem Loc.frozen {w : World} {g : Nat} {cs : Array Value} {T : TypeId} (h : Loc w g cs T) (j : Nat) : w.frozen? ⟨g, j, none⟩ = false := frozen_of_row w g j cs T h
theorem Loc.keep {w w' : World} {g : Nat} {cs : Array Value} {T : TypeId} {B : Nat} (h : Loc w g cs T) (hb : Below B w w') (hB : g < B) : Loc w' g cs T := (hb.block g hB).trans h
theorem Loc.all {w w' : World} {g : Nat} {cs : Array Value} {T : TypeId} (h : Loc w g cs T) (hb : Below w.heap.size w w') : Loc w' g cs T := h.keep hb h.lt
theorem Loc.frm {w w' : World} {g : Nat} {cs : Array Value} {T : TypeId} {S : List Nat} (h : Loc w g cs T) (f : Frm w w' S) (hn : g ∉ S) : Loc w' g cs T := (f.block g h.lt hn).trans h
theorem Loc.set {w : World} {g : Nat} {cs : Array Value} {T : TypeId} (h : Loc w g cs T) (j : Nat) (v : Value) : Loc (w.setCell ⟨g, j, none⟩ v) g (cs.setIfInBounds j v) T := heap_setCell_same w g j cs T v h
theorem Loc.other {w : World} {g : Nat} {cs : Array Value} {T : TypeId} (h : Loc w g cs T) (q j : Nat) (v : Value) (hn : g ≠ q) : Loc (w.setCell ⟨q, j, none⟩ v) g cs T := (heap_setCell_other w ⟨q, j, none⟩ g v hn).trans h
theorem Loc.alloc {w : World} {g : Nat} {cs : Array Value} {T : TypeId} (h : Loc w g cs T) (o : Obj) : Loc (w.alloc o) g cs T := (heap_alloc_old w o h.lt).trans h
theorem Loc.made (w : World) (cs : Array Value) (T : TypeId) : Loc (w.alloc (.cells cs T)) w.heap.size cs T := heap_alloc_new w _
theorem set_frm (w : World) (g j : Nat) (v : Value) : Frm w (w.setCell ⟨g, j, none⟩ v) [g] :=
  ⟨rfl, rfl, rfl, by simp, fun k _ hk => heap_setCell_other w ⟨g, j, none⟩ k v (fun e => hk (by simp [e]))⟩

end Go.Proofs.Ytkmmhlimihkgfaa
