/- laws.markOp and laws.heldOp, by their contracts. -/
import Derived.Test.YtjannojebngoeabOwO
import Derived.Test.YtjannojebngoeabMark
import Derived.Test.YtjannojebngoeabMarkZ
namespace Go.Proofs.Ytjannojebngoeab
open Go.RowKit
set_option linter.unusedVariables false
set_option maxRecDepth 100000

theorem Frm.app {a b c : World} {S T : List Nat} (h : Frm a b S) (k : Frm b c T) : Frm a c (S ++ T) := (h.mono fun g hg => List.mem_append_left _ hg).trans (k.mono fun g hg => List.mem_append_right _ hg)
theorem Loc.grown {w w' : World} {g : Nat} {cs : Array Value} {T : TypeId} {row : Option Nat} (h : Loc w g cs T) (hG : w.grownBy w' row) (hne : row ≠ some g) : Loc w' g cs T := by
  have hlt : g < w.heap.size := by
    by_cases hlt : g < w.heap.size
    · exact hlt
    · unfold Loc at h
      rw [Array.getElem?_eq_none (by omega)] at h
      cases h
  exact (hG.block g hlt (fun e => hne e.symm)).trans h
theorem fb_notin {v u : Value} {F : List Nat} (h : (FB v ++ FB u).Nodup) : ∀ g ∈ FB v, g ∉ FB u := fun g hg hu => (List.nodup_append.1 h).2.2 g hg g hu rfl

/-- What markOp lays. -/
def OwMk (w : World) (base : Nat) (k n t : Value) (a b c : Nat) (z : Int) : Prop := OwnZ w base k (markz z a) ∧ Own w base n (marks (z + a) b) ∧ Own w base t (marks (z + a + b) c)

set_option maxHeartbeats 6400000 in
theorem markOp_any (w : World) (base : Nat) (o : OpV) (a1 a2 a3 : Option Addr) (c1 c2 c3 : Nat) (z : Int)
    (h : OwOp w base o (.slice a1 o.key.length c1) (.slice a2 o.name.length c2) (.slice a3 o.text.length c3)) (hs : o.key.length + o.name.length + o.text.length ≤ 2097152) (h0 : 0 ≤ z) (h1 : z ≤ 1000000) :
    Calls Try.prog 11 #[opVal o (.slice a1 o.key.length c1) (.slice a2 o.name.length c2) (.slice a3 o.text.length c3), .int .i64 z] w fun e w' => e = .returned (.int .i64 (z + (o.key.length : Int) + (o.name.length : Int) + (o.text.length : Int))) ∧
      OwMk w' base (.slice a1 o.key.length c1) (.slice a2 o.name.length c2) (.slice a3 o.text.length c3) o.key.length o.name.length o.text.length z ∧ Frm w w' (FB (.slice a1 o.key.length c1) ++ FB (.slice a2 o.name.length c2) ++ FB (.slice a3 o.text.length c3)) := by
  obtain ⟨hk, hn, ht, hnd⟩ := h
  have hA0 := (Below.refl w.heap.size w).alloc (Nat.le_refl _) (.cells #[.int .i64 o.kind, .int .i64 o.atN, .int .i64 o.atR, .int .i64 o.nodeN, .int .i64 o.nodeR, .int .i64 o.parN, .int .i64 o.parR, .slice a1 o.key.length c1, .int .i64 o.elem, .slice a2 o.name.length c2, .slice a3 o.text.length c3, .bool o.gone] 33)
  have l0 := Loc.made w #[.int .i64 o.kind, .int .i64 o.atN, .int .i64 o.atR, .int .i64 o.nodeN, .int .i64 o.nodeR, .int .i64 o.parN, .int .i64 o.parR, .slice a1 o.key.length c1, .int .i64 o.elem, .slice a2 o.name.length c2, .slice a3 o.text.length c3, .bool o.gone] 33
  unfold opVal
  go_enter Try.func11, Try.ntmps11
  go_wp2_with fail
  have nd := List.nodup_append.1 hnd
  have ndk : ∀ g ∈ FB (.slice a1 o.key.length c1), g ∉ FB (.slice a2 o.name.length c2) ∧ g ∉ FB (.slice a3 o.text.length c3) := fun g hg => ⟨fun h => (List.nodup_append.1 nd.1).2.2 g hg g h rfl, fun h => nd.2.2 g (List.mem_append_left _ hg) g h rfl⟩
  have ndn : ∀ g ∈ FB (.slice a2 o.name.length c2), g ∉ FB (.slice a3 o.text.length c3) := fun g hg h => nd.2.2 g (List.mem_append_right _ hg) g h rfl
  have bk := hk.rng
  have bn := hn.rng
  have bt := ht.rng
  have fo : ∀ (v : Value) (g : Nat), v.ownBlock = some g → g ∈ FB v := fun v g h => by simp [FB, h]
  have fl : ∀ (v : Value), v.ownBlock.toList = FB v := fun v => rfl
  have hk0 := hk.keep hA0
  have hn0 := hn.keep hA0
  have ht0 := ht.keep hA0
  clear hk hn ht hnd nd
  generalize (w.alloc (.cells #[.int .i64 o.kind, .int .i64 o.atN, .int .i64 o.atR, .int .i64 o.nodeN, .int .i64 o.nodeR, .int .i64 o.parN, .int .i64 o.parR, .slice a1 o.key.length c1, .int .i64 o.elem, .slice a2 o.name.length c2, .slice a3 o.text.length c3, .bool o.gone] 33)) = w0 at *
  refine (markZ_any w0 base _ o.key z hk0 (by omega) h0 (by omega)).mono ?_
  rintro e w1 ⟨rfl, hk1, hG1⟩
  have f1 := Frm.ofGrown hG1
  rw [fl] at f1
  have l1 := l0.grown hG1 (fun e => by have := bk _ (fo _ _ e); omega)
  have hn1 := hn0.frm f1 (fun g hg h => (ndk g h).1 hg)
  have ht1 := ht0.frm f1 (fun g hg h => (ndk g h).2 hg)
  clear hG1 hn0 ht0 hk0 l0
  obtain ⟨x0, x1, x2, x3, x4, x5, x6, x7, x8, x9, x10, x11⟩ := l1.twelve
  go_wp2_with fail
  clear x0 x1 x2 x3 x4 x5 x6 x7 x8 x9 x10 x11
  refine (markB_any w1 base _ o.name (z + (o.key.length : Int)) hn1 (by omega) (by omega) (by omega)).mono ?_
  rintro e w2 ⟨rfl, hn2, hG2⟩
  have f2 := Frm.ofGrown hG2
  rw [fl] at f2
  have l2 := l1.grown hG2 (fun e => by have := bn _ (fo _ _ e); omega)
  have hk2 := hk1.frm f2 (fun g hg h => (ndk g hg).1 h)
  have ht2 := ht1.frm f2 (fun g hg h => ndn g h hg)
  clear hG2 hn1 ht1 hk1 l1
  obtain ⟨x0, x1, x2, x3, x4, x5, x6, x7, x8, x9, x10, x11⟩ := l2.twelve
  go_wp2_with fail
  clear x0 x1 x2 x3 x4 x5 x6 x7 x8 x9 x10 x11
  refine (markB_any w2 base _ o.text (z + (o.key.length : Int) + (o.name.length : Int)) ht2 (by omega) (by omega) (by omega)).mono ?_
  rintro e w3 ⟨rfl, ht3, hG3⟩
  have f3 := Frm.ofGrown hG3
  rw [fl] at f3
  have hk3 := hk2.frm f3 (fun g hg h => (ndk g hg).2 h)
  have hn3 := hn2.frm f3 (fun g hg h => ndn g hg h)
  have f := (((Frm.ofBelow hA0 []).app f1).app f2).app f3
  clear f1 f2 f3 hG3 ht2 hk2 hn2 l2
  go_wp2_with fail
  go_ret
  exact ⟨rfl, ⟨hk3, hn3, ht3⟩, by simpa using f⟩

set_option maxHeartbeats 6400000 in
theorem heldOp_any (w : World) (o : OpV) (a1 a2 a3 : Option Addr) (c1 c2 c3 : Nat) (z : Int)
    (hk : Ints w (.slice a1 o.key.length c1) (markz z o.key.length)) (hn : Byt w (.slice a2 o.name.length c2) (marks (z + o.key.length) o.name.length)) (ht : Byt w (.slice a3 o.text.length c3) (marks (z + o.key.length + o.name.length) o.text.length))
    (hs : o.key.length + o.name.length + o.text.length ≤ 2097152) (h0 : 0 ≤ z) (h1 : z ≤ 1000000) :
    Calls Try.prog 17 #[opVal o (.slice a1 o.key.length c1) (.slice a2 o.name.length c2) (.slice a3 o.text.length c3), .int .i64 z] w fun e w' => e = .returned (.int .i64 (z + (o.key.length : Int) + (o.name.length : Int) + (o.text.length : Int))) ∧ Below w.heap.size w w' := by
  have hA0 := (Below.refl w.heap.size w).alloc (Nat.le_refl _) (.cells #[.int .i64 o.kind, .int .i64 o.atN, .int .i64 o.atR, .int .i64 o.nodeN, .int .i64 o.nodeR, .int .i64 o.parN, .int .i64 o.parR, .slice a1 o.key.length c1, .int .i64 o.elem, .slice a2 o.name.length c2, .slice a3 o.text.length c3, .bool o.gone] 33)
  have HA := hide hA0
  have H1 := hide (heldZ_any _ _ o.key.length z (hk.keep hA0) (by omega) h0 (by omega))
  have H2 := hide (heldB_any _ _ o.name.length (z + o.key.length) (hn.keep hA0) (by omega) (by omega) (by omega))
  have H3 := hide (heldB_any _ _ o.text.length (z + o.key.length + o.name.length) (ht.keep hA0) (by omega) (by omega) (by omega))
  have q1 : ¬ z + (o.key.length : Int) < 0 := by omega
  have q2 : ¬ z + (o.key.length : Int) + (o.name.length : Int) < 0 := by omega
  have q3 : ¬ z + (o.key.length : Int) + (o.name.length : Int) + (o.text.length : Int) < 0 := by omega
  clear hk hn ht hA0
  unfold opVal
  go_enter Try.func17, Try.ntmps17
  go_wp2_with fail
  refine (unhide H1).mono ?_
  rintro e w1 ⟨rfl, rfl⟩
  go_wp2_with fail
  refine (unhide H2).mono ?_
  rintro e w1 ⟨rfl, rfl⟩
  go_wp2_with fail
  refine (unhide H3).mono ?_
  rintro e w1 ⟨rfl, rfl⟩
  go_wp2_with fail
  go_ret
  exact ⟨rfl, unhide HA⟩
end Go.Proofs.Ytjannojebngoeab
