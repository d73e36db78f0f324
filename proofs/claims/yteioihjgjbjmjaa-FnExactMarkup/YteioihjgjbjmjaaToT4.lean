/- The laws' own copy of a tree, whole: by induction on its depth. -/
import Derived.Test.YteioihjgjbjmjaaToT3
namespace Go.Proofs.Yteioihjgjbjmjaa
open Go.RowKit
set_option linter.unusedVariables false

/-- What toNode does to a node of depth below n. -/
def ToNodeSaid (n : Nat) : Prop := ∀ (w : World) (a b c d e : Value) (t : Tr n), RdNode n w [a, b, c, d, e] t → szT n t ≤ 2097152 →
    Calls Try.prog 9 #[.agg #[a, b, c, d, e]] w fun e w' => ∃ (kd : Int) (a1 : Option Addr) (n1 c1 : Nat) (a2 : Option Addr) (n2 c2 : Nat) (a3 : Option Addr) (n3 c3 : Nat) (a4 : Option Addr) (n4 c4 : Nat),
      e = .returned (.agg #[.int .i64 kd, .slice a1 n1 c1, .slice a2 n2 c2, .slice a3 n3 c3, .slice a4 n4 c4]) ∧ ∃ F, OwNode n w' [.int .i64 kd, .slice a1 n1 c1, .slice a2 n2 c2, .slice a3 n3 c3, .slice a4 n4 c4] t F ∧ F.Nodup ∧ Rng F w.heap.size w'.heap.size ∧ Below w.heap.size w w'

set_option maxHeartbeats 3200000 in
theorem toNodeS_any (n : Nat) (H : ToNodeSaid n) (w : World) (v : Value) (l : List (Tr n)) (h : RdKids n w v l) (hs : szK n l ≤ 2097152) :
    Calls Try.prog 29 #[v] w fun e w' => ∃ a c, e = .returned (.slice a l.length c) ∧ ∃ F, OwKids n w' (.slice a l.length c) l F ∧ F.Nodup ∧ Rng F w.heap.size w'.heap.size ∧ Below w.heap.size w w' := by
  obtain ⟨i0, hi, hz0, hz1, hz2⟩ := info_parts Try.info32
  have hm := h.1
  have hlen : l.length ≤ 2097152 := by unfold szK at hs; omega
  by_cases h0 : l = []
  · obtain ⟨a, cap, rfl, _⟩ := Elems.shape h
    subst h0
    go_enter Try.func29, Try.ntmps29
    go_wp2_with (at_make; refine wpList_make_full _ rfl _ _ 30 rfl w.heap.size 32 i0 _ 5 Try.underlying30 hi hz0 hz1 .i64 .i64 _ _ 0 rfl rfl rfl rfl ?c1 ?c2 ?c3 ?_)
    case c1 => rw [hz2]; omega
    case c2 => exact Nat.zero_le _
    case c3 => exact Nat.le_refl _
    intro w1 hown hgrow
    have hB1 := Below.ofGrown hgrow
    have hH := (Half.start (α := Tr n) (l := []) (R := OwNode n w1) (w.heap.size + 1) (ownsRow_base hown 0 (Nat.zero_le _))).whole rfl (by omega)
    have HH := hide hH
    clear hown hgrow hH
    go_wp2_with fail
    refine wp_loop_rounds 1 ?_
    rw [rounds_succ]
    go_wp2_with fail
    go_ret
    obtain ⟨F, hF, hnd, hr⟩ := unhide HH
    exact ⟨_, _, rfl, F, hF, hnd, hr, hB1⟩
  obtain ⟨_, ⟨_, e⟩ | ⟨_, _, _, _, e⟩ | ⟨b, off, cap, rfl, g1, g2, g3, g4, g5⟩⟩ := h
  · exact absurd e h0
  · exact absurd e h0
  go_enter Try.func29, Try.ntmps29
  go_wp2_with (at_make; refine wpList_make_full _ rfl _ _ 30 rfl w.heap.size 32 i0 _ 5 Try.underlying30 hi hz0 hz1 .i64 .i64 _ _ l.length rfl rfl rfl rfl ?c1 ?c2 ?c3 ?_)
  case c1 => rw [hz2]; omega
  case c2 => exact hm
  case c3 => exact Nat.le_refl _
  intro w1 hown hgrow
  have hB1 := Below.ofGrown hgrow
  have hH := Half.start (α := Tr n) (l := l) (R := OwNode n w1) (w.heap.size + 1) (ownsRow_base hown 0 (Nat.zero_le _))
  have hlt1 := (hown.lt w.heap.size rfl).2
  clear hown hgrow
  go_wp2_with fail
  go_loopw [4] (fun i wr => ∃ k : Nat, k ≤ l.length ∧ i = .int .i64 k ∧ Half wr 32 5 w.heap.size l.length l (OwNode n wr) (w.heap.size + 1) k ∧ Below w.heap.size w wr ∧ w.heap.size + 1 ≤ wr.heap.size) (fun i _ => l.length - (intOf i).toNat)
  case atStart => exact ⟨0, Nat.zero_le _, rfl, hH, hB1, by omega⟩
  case round =>
    obtain ⟨k, hk, rfl, hr, hB, hsz⟩ := hrel
    clear hH hB1 hlt1
    by_cases hlt : k < l.length
    · obtain ⟨c0, c1, c2, c3, c4, e0, e1, e2, e3, e4, hc⟩ := five_of (g5 k hlt)
      replace e0 := (hB.cell (p := ⟨b, off + k * 5, none⟩) g4).trans e0
      replace e1 := (hB.cell (p := ⟨b, off + k * 5 + 1, none⟩) g4).trans e1
      replace e2 := (hB.cell (p := ⟨b, off + k * 5 + 2, none⟩) g4).trans e2
      replace e3 := (hB.cell (p := ⟨b, off + k * 5 + 3, none⟩) g4).trans e3
      replace e4 := (hB.cell (p := ⟨b, off + k * 5 + 4, none⟩) g4).trans e4
      have hlt' : (k : Int) < (l.length : Int) := by omega
      clear g5
      go_wp2_with fail
      refine (H wr _ _ _ _ _ l[k] (hc.keep hB) (by have := szK_one hlt; omega)).mono ?_
      rintro e w2 ⟨kd, a1, n1, k1, a2, n2, k2, a3, n3, k3, a4, n4, k4, rfl, G, hO, hnd, hrg, hB2⟩
      have hrow : ∃ xs : List Value, w2.ownsRow 0 32 5 (.slice (some ⟨w.heap.size, 0, none⟩) l.length l.length) l.length xs := by
        obtain ⟨_, _, xs, _, _, _, h4, _⟩ := hr.laid
        exact ⟨xs, ownsRow_frm h4 (Frm.ofBelow hB2 []) (fun _ _ => by simp)⟩
      obtain ⟨xs, hx⟩ := hrow
      have hxl := hx.1
      have hcell : ∀ j, j < 5 → ∃ y, w2.cell? ⟨w.heap.size, k * 5 + j, none⟩ = some y := fun j hj => ⟨xs[k * 5 + j]'(by omega), by rw [hx.cellAt (k * 5 + j) (by omega), List.getElem?_eq_getElem (by omega)]⟩
      obtain ⟨y0, q0⟩ := hcell 0 (by omega)
      obtain ⟨y1, q1⟩ := hcell 1 (by omega)
      obtain ⟨y2, q2⟩ := hcell 2 (by omega)
      obtain ⟨y3, q3⟩ := hcell 3 (by omega)
      obtain ⟨y4, q4⟩ := hcell 4 (by omega)
      rw [Nat.add_zero] at q0
      have f0 := hx.frozenAt (k * 5)
      have f1 := hx.frozenAt (k * 5 + 1)
      have f2 := hx.frozenAt (k * 5 + 2)
      have f3 := hx.frozenAt (k * 5 + 3)
      have f4 := hx.frozenAt (k * 5 + 4)
      obtain ⟨W, hW⟩ : ∃ W, W = ((((w2.setCell ⟨w.heap.size, k * 5, none⟩ (.int .i64 kd)).setCell ⟨w.heap.size, k * 5 + 1, none⟩ (.slice a1 n1 k1)).setCell ⟨w.heap.size, k * 5 + 2, none⟩ (.slice a2 n2 k2)).setCell ⟨w.heap.size, k * 5 + 3, none⟩ (.slice a3 n3 k3)).setCell ⟨w.heap.size, k * 5 + 4, none⟩ (.slice a4 n4 k4) := ⟨_, rfl⟩
      have hf : Frm w2 W [w.heap.size] := by rw [hW]; exact ((((set_frm w2 _ _ _).trans (set_frm _ _ _ _)).trans (set_frm _ _ _ _)).trans (set_frm _ _ _ _)).trans (set_frm _ _ _ _)
      have hstep : Half W 32 5 w.heap.size l.length l (OwNode n W) (w.heap.size + 1) (k + 1) := by
        refine hr.step hlt (by omega) hsz hB2 [.int .i64 kd, .slice a1 n1 k1, .slice a2 n2 k2, .slice a3 n3 k3, .slice a4 n4 k4] G rfl ?_ hnd hrg ?_ hf ?_
        · exact hO.frm hf (fun g hg => by have := hrg g hg; simp; omega)
        · intro C x G' hx' hne
          exact OwNode.frm hx' ((Frm.ofBelow hB2 [w.heap.size]).trans hf) (fun g hg => by have := hne g hg; simp; omega)
        · intro zs hz
          have hzl := hz.1
          have t1 := (hz.stored (k * 5) (.int .i64 kd)).1
          have t2 := (t1.stored (k * 5 + 1) (.slice a1 n1 k1)).1
          have t3 := (t2.stored (k * 5 + 2) (.slice a2 n2 k2)).1
          have t4 := (t3.stored (k * 5 + 3) (.slice a3 n3 k3)).1
          have t5 := (t4.stored (k * 5 + 4) (.slice a4 n4 k4)).1
          rw [hW]
          exact ⟨_, t5, take_five zs (k * 5) _ _ _ _ _ (by omega)⟩
      have HB0 := hB.trans ((hB2.mono hB.size).trans (hf.below (by have := hB2.size; have := hB.size; omega) (fun g hg => by simp at hg; omega)))
      have hs2 : w.heap.size + 1 ≤ W.heap.size := by have := hf.size; have := hB2.size; omega
      subst hW
      have HS := hide hstep
      have HB := hide HB0
      have HS2 := hide hs2
      clear hstep hf hx hO hr hB2 hB HB0 hs2 e0 e1 e2 e3 e4 hc hrg hnd hcell
      go_wp2_with fail
      go_roundw
      case rel => exact ⟨k + 1, by omega, by go_num, unhide HS, unhide HB, unhide HS2⟩
      case measure => simp [intOf]; omega
    · have e : k = l.length := by omega
      subst e
      have HW := hide (hr.whole rfl (by omega))
      clear hr g5
      go_wp2_with fail
      go_ret
      obtain ⟨F, hF, hnd, hrg⟩ := unhide HW
      exact ⟨_, _, rfl, F, hF, hnd, hrg, hB⟩
end Go.Proofs.Yteioihjgjbjmjaa
