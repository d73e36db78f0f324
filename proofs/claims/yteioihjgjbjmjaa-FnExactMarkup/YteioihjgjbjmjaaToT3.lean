/- The laws' own copy of a slice of attributes, of nodes, of a whole tree: the walks. -/
import Derived.Test.YteioihjgjbjmjaaToT2
namespace Go.Proofs.Yteioihjgjbjmjaa
open Go.RowKit
set_option linter.unusedVariables false

theorem szA_one {l : List (List Int × List Int)} {k : Nat} (h : k < l.length) : l[k].1.length + l[k].2.length ≤ szA l := by
  have h1 := sumTo_step (fun x : List Int × List Int => x.1.length + x.2.length) l k h
  have h2 := sumTo_le (fun x : List Int × List Int => x.1.length + x.2.length) l (k + 1)
  unfold szA
  omega
theorem szK_one {n : Nat} {l : List (Tr n)} {k : Nat} (h : k < l.length) : szT n l[k] ≤ szK n l := by
  have h1 := sumTo_step (szT n) l k h
  have h2 := sumTo_le (szT n) l (k + 1)
  unfold szK
  omega

set_option maxHeartbeats 3200000 in
theorem toAttrS_any (w : World) (v : Value) (l : List (List Int × List Int)) (h : RdAttrs w v l) (hs : szA l ≤ 2097152) :
    Calls Try.prog 28 #[v] w fun e w' => ∃ a c, e = .returned (.slice a l.length c) ∧ ∃ F, OwAttrs w' (.slice a l.length c) l F ∧ F.Nodup ∧ Rng F w.heap.size w'.heap.size ∧ Below w.heap.size w w' := by
  obtain ⟨i0, hi, hz0, hz1, hz2⟩ := info_parts Try.info88
  have hm := h.1
  have hlen : l.length ≤ 2097152 := by unfold szA at hs; omega
  by_cases h0 : l = []
  · obtain ⟨a, cap, rfl, _⟩ := Elems.shape h
    subst h0
    go_enter Try.func28, Try.ntmps28
    go_wp2_with (at_make; refine wpList_make_full _ rfl _ _ 29 rfl w.heap.size 88 i0 _ 2 Try.underlying29 hi hz0 hz1 .i64 .i64 _ _ 0 rfl rfl rfl rfl ?c1 ?c2 ?c3 ?_)
    case c1 => rw [hz2]; omega
    case c2 => exact Nat.zero_le _
    case c3 => exact Nat.le_refl _
    intro w1 hown hgrow
    have hB1 := Below.ofGrown hgrow
    have hH := (Half.start (α := List Int × List Int) (l := []) (R := OwAttr w1) (w.heap.size + 1) (ownsRow_base hown 0 (Nat.zero_le _))).whole rfl (by omega)
    have HH := hide hH
    clear hown hgrow hH
    go_wp2_with fail
    refine wp_loop_rounds 1 ?_
    rw [rounds_succ]
    go_wp2_with fail
    go_ret
    obtain ⟨F, hF, hnd, hr⟩ := unhide HH
    exact ⟨_, _, rfl, F, hF, hnd, hr, hB1⟩
  obtain ⟨_, ⟨_, e⟩ | ⟨_, _, _, _, e⟩ | ⟨b, off, cap, rfl, g1, g2, g3, g4, g5⟩⟩ := h
  · exact absurd e h0
  · exact absurd e h0
  go_enter Try.func28, Try.ntmps28
  go_wp2_with (at_make; refine wpList_make_full _ rfl _ _ 29 rfl w.heap.size 88 i0 _ 2 Try.underlying29 hi hz0 hz1 .i64 .i64 _ _ l.length rfl rfl rfl rfl ?c1 ?c2 ?c3 ?_)
  case c1 => rw [hz2]; omega
  case c2 => exact hm
  case c3 => exact Nat.le_refl _
  intro w1 hown hgrow
  have hB1 := Below.ofGrown hgrow
  have hH := Half.start (α := List Int × List Int) (l := l) (R := OwAttr w1) (w.heap.size + 1) (ownsRow_base hown 0 (Nat.zero_le _))
  have hlt1 := (hown.lt w.heap.size rfl).2
  clear hown hgrow
  go_wp2_with fail
  go_loopw [4] (fun i wr => ∃ k : Nat, k ≤ l.length ∧ i = .int .i64 k ∧ Half wr 88 2 w.heap.size l.length l (OwAttr wr) (w.heap.size + 1) k ∧ Below w.heap.size w wr ∧ w.heap.size + 1 ≤ wr.heap.size) (fun i _ => l.length - (intOf i).toNat)
  case atStart => exact ⟨0, Nat.zero_le _, rfl, hH, hB1, by omega⟩
  case round =>
    obtain ⟨k, hk, rfl, hr, hB, hsz⟩ := hrel
    clear hH hB1 hlt1
    by_cases hlt : k < l.length
    · obtain ⟨c0, c1, e0, e1, hc⟩ := two_of (g5 k hlt)
      obtain ⟨_, _, ee, hc0, hc1⟩ := hc
      simp only [List.cons.injEq, and_true] at ee
      obtain ⟨rfl, rfl⟩ := ee
      replace e0 := (hB.cell (p := ⟨b, off + k * 2, none⟩) g4).trans e0
      replace e1 := (hB.cell (p := ⟨b, off + k * 2 + 1, none⟩) g4).trans e1
      have hlt' : (k : Int) < (l.length : Int) := by omega
      clear g5
      go_wp2_with fail
      refine (toAttr_any wr _ _ l[k] (hc0.keep hB) (hc1.keep hB) (by have := szA_one hlt; omega)).mono ?_
      rintro e w2 ⟨a1, k1, a2, k2, rfl, G, hO, hnd, hrg, hB2⟩
      have hrow : ∃ xs : List Value, w2.ownsRow 0 88 2 (.slice (some ⟨w.heap.size, 0, none⟩) l.length l.length) l.length xs := by
        obtain ⟨_, _, xs, _, _, _, h4, _⟩ := hr.laid
        exact ⟨xs, ownsRow_frm h4 (Frm.ofBelow hB2 []) (fun _ _ => by simp)⟩
      obtain ⟨xs, hx⟩ := hrow
      have hxl := hx.1
      have q0 : w2.cell? ⟨w.heap.size, k * 2, none⟩ = some (xs[k * 2]'(by omega)) := by rw [hx.cellAt (k * 2) (by omega), List.getElem?_eq_getElem (by omega)]
      have q1 : w2.cell? ⟨w.heap.size, k * 2 + 1, none⟩ = some (xs[k * 2 + 1]'(by omega)) := by rw [hx.cellAt (k * 2 + 1) (by omega), List.getElem?_eq_getElem (by omega)]
      have f0 := hx.frozenAt (k * 2)
      have f1 := hx.frozenAt (k * 2 + 1)
      generalize xs[k * 2]'(by omega) = y0 at q0
      generalize xs[k * 2 + 1]'(by omega) = y1 at q1
      have hf : Frm w2 ((w2.setCell ⟨w.heap.size, k * 2, none⟩ (.slice a1 l[k].1.length k1)).setCell ⟨w.heap.size, k * 2 + 1, none⟩ (.slice a2 l[k].2.length k2)) [w.heap.size] := (set_frm w2 _ _ _).trans (set_frm _ _ _ _)
      have hstep : Half ((w2.setCell ⟨w.heap.size, k * 2, none⟩ (.slice a1 l[k].1.length k1)).setCell ⟨w.heap.size, k * 2 + 1, none⟩ (.slice a2 l[k].2.length k2)) 88 2 w.heap.size l.length l (OwAttr ((w2.setCell ⟨w.heap.size, k * 2, none⟩ (.slice a1 l[k].1.length k1)).setCell ⟨w.heap.size, k * 2 + 1, none⟩ (.slice a2 l[k].2.length k2))) (w.heap.size + 1) (k + 1) := by
        refine hr.step hlt (by omega) hsz hB2 [.slice a1 l[k].1.length k1, .slice a2 l[k].2.length k2] G rfl ?_ hnd hrg ?_ hf ?_
        · obtain ⟨_, _, e, o1, o2, rfl⟩ := hO
          exact ⟨_, _, e, o1.frm hf (fun g hg => by have := hrg g (by simp [hg]); simp; omega), o2.frm hf (fun g hg => by have := hrg g (by simp [hg]); simp; omega), rfl⟩
        · rintro C x G' ⟨u1, u2, e, o1, o2, rfl⟩ hne
          have hfb := (Frm.ofBelow hB2 [w.heap.size]).trans hf
          exact ⟨_, _, e, o1.frm hfb (fun g hg => by have := hne g (by simp [hg]); simp; omega), o2.frm hfb (fun g hg => by have := hne g (by simp [hg]); simp; omega), rfl⟩
        · intro zs hz
          have hzl := hz.1
          have t1 := (hz.stored (k * 2) (.slice a1 l[k].1.length k1)).1
          have t2 := (t1.stored (k * 2 + 1) (.slice a2 l[k].2.length k2)).1
          exact ⟨_, t2, take_two zs (k * 2) _ _ (by omega)⟩
      have HS := hide hstep
      have HB := hide (hB.trans ((hB2.mono hB.size).trans (hf.below (by have := hB2.size; have := hB.size; omega) (fun g hg => by simp at hg; omega))))
      have hs2 := hB2.size
      clear hstep hf hx hO hr hB2 hB e0 e1 hc0 hc1 hrg hnd
      go_wp2_with fail
      go_roundw
      case rel => exact ⟨k + 1, by omega, by go_num, unhide HS, unhide HB, by simp; omega⟩
      case measure => simp [intOf]; omega
    · have e : k = l.length := by omega
      subst e
      have HW := hide (hr.whole rfl (by omega))
      clear hr g5
      go_wp2_with fail
      go_ret
      obtain ⟨F, hF, hnd, hrg⟩ := unhide HW
      exact ⟨_, _, rfl, F, hF, hnd, hrg, hB⟩
end Go.Proofs.Yteioihjgjbjmjaa
