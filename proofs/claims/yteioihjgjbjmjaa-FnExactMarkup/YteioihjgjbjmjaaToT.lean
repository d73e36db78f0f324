/- The laws' own copy of a tree, by contracts: the copy is the same tree, in blocks of its own. -/
import Derived.Test.YteioihjgjbjmjaaTo
import Derived.Test.YteioihjgjbjmjaaOwnT
import Derived.Test.YteioihjgjbjmjaaSz
namespace Go.Proofs.Yteioihjgjbjmjaa
open Go.RowKit
set_option linter.unusedVariables false

/-- Blocks from lo on, below hi. -/
def Rng (F : List Nat) (lo hi : Nat) : Prop := ∀ g ∈ F, lo ≤ g ∧ g < hi
theorem Rng.mono {F : List Nat} {lo hi lo' hi' : Nat} (h : Rng F lo hi) (h1 : lo' ≤ lo) (h2 : hi ≤ hi') : Rng F lo' hi' := fun g hg => by have := h g hg; omega
theorem Rng.app {F G : List Nat} {lo hi : Nat} (h : Rng F lo hi) (k : Rng G lo hi) : Rng (F ++ G) lo hi := fun g hg => by
  rcases List.mem_append.1 hg with h' | h'
  · exact h g h'
  · exact k g h'
theorem Rng.nil (lo hi : Nat) : Rng [] lo hi := fun g hg => by cases hg
theorem nodup_app {F G : List Nat} {lo mid hi : Nat} (hF : F.Nodup) (hG : G.Nodup) (h : Rng F lo mid) (k : Rng G mid hi) : (F ++ G).Nodup := by
  rw [List.nodup_append]
  exact ⟨hF, hG, fun a ha b hb e => by have := h a ha; have := k b hb; omega⟩
theorem FB_nodup (v : Value) : (FB v).Nodup := by unfold FB; cases v.ownBlock <;> simp
theorem Own.rng {w : World} {base : Nat} {v : Value} {l : List Int} (h : Own w base v l) : Rng (FB v) base w.heap.size := fun g hg => h.lt g (by simpa [FB] using hg)

/-- A block of the call's own that is known whole. -/
def Loc (w : World) (g : Nat) (cs : Array Value) (T : TypeId) : Prop := w.heap[g]? = some (.cells cs T (0, 0))
theorem Loc.lt {w : World} {g : Nat} {cs : Array Value} {T : TypeId} (h : Loc w g cs T) : g < w.heap.size := by
  by_cases hlt : g < w.heap.size
  · exact hlt
  · unfold Loc at h; rw [Array.getElem?_eq_none (by omega)] at h; cases h
theorem Loc.cell {w : World} {g : Nat} {cs : Array Value} {T : TypeId} (h : Loc w g cs T) (j : Nat) : w.cell? ⟨g, j, none⟩ = cs[j]? := cell_of_row w g j cs T (0, 0) h
theorem Loc.frozen {w : World} {g : Nat} {cs : Array Value} {T : TypeId} (h : Loc w g cs T) (j : Nat) : w.frozen? ⟨g, j, none⟩ = false := frozen_of_row w g j cs T h
theorem Loc.keep {w w' : World} {g : Nat} {cs : Array Value} {T : TypeId} {B : Nat} (h : Loc w g cs T) (hb : Below B w w') (hB : g < B) : Loc w' g cs T := (hb.block g hB).trans h
theorem Loc.all {w w' : World} {g : Nat} {cs : Array Value} {T : TypeId} (h : Loc w g cs T) (hb : Below w.heap.size w w') : Loc w' g cs T := h.keep hb h.lt
theorem Loc.frm {w w' : World} {g : Nat} {cs : Array Value} {T : TypeId} {S : List Nat} (h : Loc w g cs T) (f : Frm w w' S) (hn : g ∉ S) : Loc w' g cs T := (f.block g h.lt hn).trans h
theorem Loc.set {w : World} {g : Nat} {cs : Array Value} {T : TypeId} (h : Loc w g cs T) (j : Nat) (v : Value) : Loc (w.setCell ⟨g, j, none⟩ v) g (cs.setIfInBounds j v) T := heap_setCell_same w g j cs T v h
theorem Loc.other {w : World} {g : Nat} {cs : Array Value} {T : TypeId} (h : Loc w g cs T) (q j : Nat) (v : Value) (hn : g ≠ q) : Loc (w.setCell ⟨q, j, none⟩ v) g cs T := (heap_setCell_other w ⟨q, j, none⟩ g v hn).trans h
theorem Loc.alloc {w : World} {g : Nat} {cs : Array Value} {T : TypeId} (h : Loc w g cs T) (o : Obj) : Loc (w.alloc o) g cs T := (heap_alloc_old w o h.lt).trans h
theorem Loc.made (w : World) (cs : Array Value) (T : TypeId) : Loc (w.alloc (.cells cs T)) w.heap.size cs T := heap_alloc_new w _
theorem set_frm (w : World) (g j : Nat) (v : Value) : Frm w (w.setCell ⟨g, j, none⟩ v) [g] :=
  ⟨rfl, rfl, rfl, by simp, fun k _ hk => heap_setCell_other w ⟨g, j, none⟩ k v (fun e => hk (by simp [e]))⟩

set_option maxHeartbeats 1600000 in
theorem toAttr_any (w : World) (a b : Value) (x : List Int × List Int) (ha : Byt w a x.1) (hb : Byt w b x.2) (hs : x.1.length + x.2.length ≤ 2097152) :
    Calls Try.prog 51 #[.agg #[a, b]] w fun e w' => ∃ a1 c1 a2 c2, e = .returned (.agg #[.slice a1 x.1.length c1, .slice a2 x.2.length c2]) ∧ ∃ F, OwAttr w' [.slice a1 x.1.length c1, .slice a2 x.2.length c2] x F ∧ F.Nodup ∧ Rng F w.heap.size w'.heap.size ∧ Below w.heap.size w w' := by
  obtain ⟨p1, k1, rfl, _, _⟩ := ha.shape
  obtain ⟨p2, k2, rfl, _, _⟩ := hb.shape
  go_enter Try.func51, Try.ntmps51
  go_wp2_with fail
  have l0 := (((Loc.made w #[.slice p1 x.1.length k1, .slice p2 x.2.length k2] 85).alloc (.cells #[.slice none 0 0, .slice none 0 0] 88)).alloc (.cells #[.slice none 0 0, .slice none 0 0] 88))
  have l1 := (Loc.made (w.alloc (.cells #[.slice p1 x.1.length k1, .slice p2 x.2.length k2] 85)) #[.slice none 0 0, .slice none 0 0] 88).alloc (.cells #[.slice none 0 0, .slice none 0 0] 88)
  have l2 := Loc.made ((w.alloc (.cells #[.slice p1 x.1.length k1, .slice p2 x.2.length k2] 85)).alloc (.cells #[.slice none 0 0, .slice none 0 0] 88)) #[.slice none 0 0, .slice none 0 0] 88
  have hA : Below w.heap.size w (((w.alloc (.cells #[.slice p1 x.1.length k1, .slice p2 x.2.length k2] 85)).alloc (.cells #[.slice none 0 0, .slice none 0 0] 88)).alloc (.cells #[.slice none 0 0, .slice none 0 0] 88)) := (((Below.refl _ _).alloc (Nat.le_refl _) _).alloc (by simp) _).alloc (by simp; omega) _
  simp only [World.size_alloc] at l1 l2
  generalize hW : (((w.alloc (.cells #[.slice p1 x.1.length k1, .slice p2 x.2.length k2] 85)).alloc (.cells #[.slice none 0 0, .slice none 0 0] 88)).alloc (.cells #[.slice none 0 0, .slice none 0 0] 88)) = W at *
  have hWs : W.heap.size = w.heap.size + 3 := by rw [← hW]; simp
  clear hW
  have HWs := hide hWs
  clear hWs
  refine (toB_any W _ x.1 (ha.keep hA) (by omega)).mono ?_
  rintro e w1 ⟨v1, rfl, ho1, _, hB1⟩
  obtain ⟨a1, c1, hv1, _, _⟩ := ho1.byt.shape
  subst hv1
  have r1 := ho1.rng
  replace l0 := l0.all hB1
  replace l1 := l1.all hB1
  replace l2 := l2.all hB1
  have e0 := l0.cell 1
  have e2 := l2.cell 0
  have f2 := l2.frozen 0
  simp at e0 e2
  have hA1 := bstep hA hB1
  have m0 := l0.other (w.heap.size + 1 + 1) 0 (.slice a1 x.1.length c1) (by omega)
  have m1 := l1.other (w.heap.size + 1 + 1) 0 (.slice a1 x.1.length c1) (by omega)
  have m2 := l2.set 0 (.slice a1 x.1.length c1)
  have hf1 := set_frm w1 (w.heap.size + 1 + 1) 0 (.slice a1 x.1.length c1)
  have ho2 := ho1.frm hf1 (fun g hg => by have := r1 g hg; have := unhide HWs; simp; omega)
  have hA2 : Below w.heap.size w (w1.setCell ⟨w.heap.size + 1 + 1, 0, none⟩ (.slice a1 x.1.length c1)) := hA1.setCell (by simp; omega) _
  have hs1 := hB1.size
  have M := hide (And.intro m0 (And.intro m1 m2))
  have HO := hide ho2
  have HA2 := hide hA2
  clear hB1 l0 l1 l2 m0 m1 m2 hf1 ho1 ho2 hA2 hA hA1
  go_wp2_with fail
  refine (toB_any _ _ x.2 (hb.keep (unhide HA2)) (by omega)).mono ?_
  rintro e w2 ⟨v2, rfl, ho3, _, hB2⟩
  obtain ⟨a2, c2, hv2, _, _⟩ := ho3.byt.shape
  subst hv2
  have r2 := ho3.rng
  have n1 := (unhide M).2.1.all hB2
  have n2 := (unhide M).2.2.all hB2
  have hA3 := bstep (unhide HA2) hB2
  have ho4 := (unhide HO).keep hB2
  have hs2 := hB2.size
  have g0 := n1.cell 0
  have g1 := n1.cell 1
  have g2 := n2.cell 0
  have g3 := n2.cell 1
  have g4 := n1.frozen 0
  have g5 := n1.frozen 1
  have g6 := n2.frozen 1
  simp at g0 g1 g2 g3 hs2
  clear M HO HA2 hB2
  simp only [World.size_setCell] at r2 ho3
  have hsz := unhide HWs
  have hf : Frm w2 (((w2.setCell ⟨w.heap.size + 1 + 1, 1, none⟩ (.slice a2 x.2.length c2)).setCell ⟨w.heap.size + 1, 0, none⟩ (.slice a1 x.1.length c1)).setCell ⟨w.heap.size + 1, 1, none⟩ (.slice a2 x.2.length c2)) [w.heap.size + 1 + 1, w.heap.size + 1] :=
    (((set_frm w2 _ _ _).mono (by simp)).trans ((set_frm _ _ _ _).mono (by simp))).trans ((set_frm _ _ _ _).mono (by simp))
  have ho5 := (ho4.frm hf (fun g hg => by have := r1 g hg; simp; omega)).mono (Nat.zero_le _)
  have ho6 := (ho3.frm hf (fun g hg => by have := r2 g hg; simp; omega)).mono (Nat.zero_le _)
  have hA4 := hA3.trans (hf.below hA3.size (fun g hg => by simp at hg; omega))
  have hrng : Rng (FB (.slice a1 x.1.length c1) ++ FB (.slice a2 x.2.length c2)) w.heap.size w2.heap.size := (r1.mono (by omega) (by omega)).app (r2.mono (by omega) (by omega))
  have hnd := nodup_app (FB_nodup (.slice a1 x.1.length c1)) (FB_nodup (.slice a2 x.2.length c2)) r1 r2
  have HP := hide (And.intro ho5 (And.intro ho6 (And.intro hA4 (And.intro hrng hnd))))
  clear ho5 ho6 hA4 hrng hnd hf ho3 ho4 hA3 n1 n2 r1 r2 hsz
  go_wp2_with fail
  obtain ⟨ho5, ho6, hA4, hrng, hnd⟩ := unhide HP
  exact bodyPost_ret (v := .agg #[.slice a1 x.1.length c1, .slice a2 x.2.length c2]) (by simp [results, Try.results51, go_sem, g0, g1]) rfl ⟨a1, c1, a2, c2, rfl, _, ⟨_, _, rfl, ho5, ho6, rfl⟩, hnd, hrng.mono (Nat.le_refl _) (by simp), hA4⟩
end Go.Proofs.Yteioihjgjbjmjaa
