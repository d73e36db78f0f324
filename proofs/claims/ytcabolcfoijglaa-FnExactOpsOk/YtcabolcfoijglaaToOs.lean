/- The laws' own copy of a row of operations. -/
import Derived.Test.YtcabolcfoijglaaOwOs
import Derived.Test.YtcabolcfoijglaaTo
namespace Go.Proofs.Ytcabolcfoijglaa
open Go.RowKit
set_option linter.unusedVariables false
set_option maxRecDepth 100000

set_option maxHeartbeats 12800000 in
theorem toOps_any (w : World) (v : Value) (l : List OpV) (h : RdOps w v l) (hs : szOs l ≤ 2097152) :
    Calls Try.prog 23 #[v] w fun e w' => ∃ a c, e = .returned (.slice a l.length c) ∧ ∃ F, OwOps w' (.slice a l.length c) l F ∧ F.Nodup ∧ Rng F w.heap.size w'.heap.size ∧ Below w.heap.size w w' := by
  obtain ⟨i0, hi, hz0, hz1, hz2⟩ := info_parts Try.info27
  have hm := h.1
  have hlen : l.length ≤ 2097152 := by unfold szOs at hs; omega
  by_cases h0 : l = []
  · obtain ⟨a, cap, rfl, _⟩ := Elems.shape h
    subst h0
    go_enter Try.func23, Try.ntmps23
    go_wp2_with (at_make; refine wpList_make_full _ rfl _ _ 44 rfl w.heap.size 27 i0 _ 12 Try.underlying44 hi hz0 hz1 .i64 .i64 _ _ 0 rfl rfl rfl rfl ?c1 ?c2 ?c3 ?_)
    case c1 => rw [hz2]; omega
    case c2 => exact Nat.zero_le _
    case c3 => exact Nat.le_refl _
    intro w1 hown hgrow
    have hB1 := Below.ofGrown hgrow
    have hH := (Half.start (α := OpV) (l := []) (R := OwOpC w1) (w.heap.size + 1) (ownsRow_base hown 0 (Nat.zero_le _))).whole rfl (by omega)
    have HH := hide hH
    clear hown hgrow hH
    go_wp2_with fail
    refine wp_loop_rounds 1 ?_
    rw [rounds_succ]
    go_wp2_with fail
    go_ret
    obtain ⟨F, hF, hnd, hr⟩ := unhide HH
    exact ⟨_, _, rfl, F, hF, hnd, hr, hB1⟩
  obtain ⟨_, ⟨_, e⟩ | ⟨_, _, _, _, e⟩ | ⟨b, off, cap, rfl, g1, g2, g3, g4, g5⟩⟩ := h
  · exact absurd e h0
  · exact absurd e h0
  have hone : ∀ i (hi : i < l.length), szO l[i] ≤ 2097152 := fun i hi => by have := szO_le l i hi; unfold szOs at hs; omega
  go_enter Try.func23, Try.ntmps23
  go_wp2_with (at_make; refine wpList_make_full _ rfl _ _ 44 rfl w.heap.size 27 i0 _ 12 Try.underlying44 hi hz0 hz1 .i64 .i64 _ _ l.length rfl rfl rfl rfl ?c1 ?c2 ?c3 ?_)
  case c1 => rw [hz2]; omega
  case c2 => exact hm
  case c3 => exact Nat.le_refl _
  intro w1 hown hgrow
  have hB1 := Below.ofGrown hgrow
  have hH := Half.start (α := OpV) (l := l) (R := OwOpC w1) (w.heap.size + 1) (ownsRow_base hown 0 (Nat.zero_le _))
  have hlt1 := (hown.lt w.heap.size rfl).2
  clear hown hgrow
  go_wp2_with fail
  go_loopw [4] (fun i wr => ∃ k : Nat, k ≤ l.length ∧ i = .int .i64 k ∧ Half wr 27 12 w.heap.size l.length l (OwOpC wr) (w.heap.size + 1) k ∧ Below w.heap.size w wr ∧ w.heap.size + 1 ≤ wr.heap.size) (fun i _ => l.length - (intOf i).toNat)
  case atStart => exact ⟨0, Nat.zero_le _, rfl, hH, hB1, by omega⟩
  case round =>
    obtain ⟨k, hk, rfl, hr, hB, hsz⟩ := hrel
    clear hH hB1 hlt1
    by_cases hlt : k < l.length
    · obtain ⟨p1, u1, p2, u2, p3, u3, e0, e1, e2, e3, e4, e5, e6, e7, e8, e9, e10, e11, hro⟩ := opc_at hB g4 (g5 k hlt)
      have hlt' : (k : Int) < (l.length : Int) := by omega
      have HT := hide (toOp_own wr _ l[k] hro (by have := hone k hlt; unfold szO at this; exact this))
      have HR0 := hide hr
      have HRW := hide (fun (w2 : World) (hB2 : Below wr.heap.size wr w2) => (show ∃ xs : List Value, w2.ownsRow 0 27 12 (.slice (some ⟨w.heap.size, 0, none⟩) l.length l.length) l.length xs by
        obtain ⟨_, _, xs, _, _, _, h4, _⟩ := hr.laid
        exact ⟨xs, ownsRow_frm h4 (Frm.ofBelow hB2 []) (fun _ _ => by simp)⟩))
      unfold opVal at HT
      generalize hoo : l[k] = o at *
      have HOO := hide hoo.symm
      clear g5 hoo hr hro hone
      go_wp2_with fail
      clear e0 e1 e2 e3 e4 e5 e6 e7 e8 e9 e10 e11
      refine (unhide HT).mono ?_
      rintro e w2 ⟨a1, c1, a2, c2, a3, c3, rfl, hO, hB2⟩
      obtain ⟨hO1, hO2, hO3, hO4⟩ := hO
      have rK : ∀ g ∈ FB (.slice a1 o.key.length c1), wr.heap.size ≤ g ∧ g < w2.heap.size := fun g hg => hO1.lt g (by simpa [FB] using hg)
      have rN := hO2.rng
      have rT := hO3.rng
      have o1 := hO1.mono (base' := 0) (Nat.zero_le _)
      have o2 := hO2.mono (base' := 0) (Nat.zero_le _)
      have o3 := hO3.mono (base' := 0) (Nat.zero_le _)
      clear hO1 hO2 hO3
      generalize hnK : o.key.length = nK at *
      generalize hnN : o.name.length = nN at *
      generalize hnT : o.text.length = nT at *
      clear hnK hnN hnT
      obtain ⟨xs, hx⟩ := unhide HRW w2 hB2
      have hxl := hx.1
      have hcell : ∀ j, j < 12 → ∃ y, w2.cell? ⟨w.heap.size, k * 12 + j, none⟩ = some y := fun j hj => ⟨xs[k * 12 + j]'(by omega), by rw [hx.cellAt (k * 12 + j) (by omega), List.getElem?_eq_getElem (by omega)]⟩
      obtain ⟨y0, q0⟩ := hcell 0 (by omega)
      obtain ⟨y1, q1⟩ := hcell 1 (by omega)
      obtain ⟨y2, q2⟩ := hcell 2 (by omega)
      obtain ⟨y3, q3⟩ := hcell 3 (by omega)
      obtain ⟨y4, q4⟩ := hcell 4 (by omega)
      obtain ⟨y5, q5⟩ := hcell 5 (by omega)
      obtain ⟨y6, q6⟩ := hcell 6 (by omega)
      obtain ⟨y7, q7⟩ := hcell 7 (by omega)
      obtain ⟨y8, q8⟩ := hcell 8 (by omega)
      obtain ⟨y9, q9⟩ := hcell 9 (by omega)
      obtain ⟨y10, q10⟩ := hcell 10 (by omega)
      obtain ⟨y11, q11⟩ := hcell 11 (by omega)
      rw [Nat.add_zero] at q0
      have f0 := hx.frozenAt (k * 12)
      have f1 := hx.frozenAt (k * 12 + 1)
      have f2 := hx.frozenAt (k * 12 + 2)
      have f3 := hx.frozenAt (k * 12 + 3)
      have f4 := hx.frozenAt (k * 12 + 4)
      have f5 := hx.frozenAt (k * 12 + 5)
      have f6 := hx.frozenAt (k * 12 + 6)
      have f7 := hx.frozenAt (k * 12 + 7)
      have f8 := hx.frozenAt (k * 12 + 8)
      have f9 := hx.frozenAt (k * 12 + 9)
      have f10 := hx.frozenAt (k * 12 + 10)
      have f11 := hx.frozenAt (k * 12 + 11)
      obtain ⟨W, hW⟩ : ∃ W, W = ((((((((((((w2.setCell ⟨w.heap.size, k * 12, none⟩ (.int .i64 o.kind)).setCell ⟨w.heap.size, k * 12 + 1, none⟩ (.int .i64 o.atN)).setCell ⟨w.heap.size, k * 12 + 2, none⟩ (.int .i64 o.atR)).setCell ⟨w.heap.size, k * 12 + 3, none⟩ (.int .i64 o.nodeN)).setCell ⟨w.heap.size, k * 12 + 4, none⟩ (.int .i64 o.nodeR)).setCell ⟨w.heap.size, k * 12 + 5, none⟩ (.int .i64 o.parN)).setCell ⟨w.heap.size, k * 12 + 6, none⟩ (.int .i64 o.parR)).setCell ⟨w.heap.size, k * 12 + 7, none⟩ (.slice a1 nK c1)).setCell ⟨w.heap.size, k * 12 + 8, none⟩ (.int .i64 o.elem)).setCell ⟨w.heap.size, k * 12 + 9, none⟩ (.slice a2 nN c2)).setCell ⟨w.heap.size, k * 12 + 10, none⟩ (.slice a3 nT c3)).setCell ⟨w.heap.size, k * 12 + 11, none⟩ (.bool o.gone)) := ⟨_, rfl⟩
      have hf : Frm w2 W [w.heap.size] := by rw [hW]; exact ((((((((((((set_frm w2 _ _ _).trans (set_frm _ _ _ _)).trans (set_frm _ _ _ _)).trans (set_frm _ _ _ _)).trans (set_frm _ _ _ _)).trans (set_frm _ _ _ _)).trans (set_frm _ _ _ _)).trans (set_frm _ _ _ _)).trans (set_frm _ _ _ _)).trans (set_frm _ _ _ _)).trans (set_frm _ _ _ _)).trans (set_frm _ _ _ _))
      have hrg : Rng (FB (.slice a1 nK c1) ++ FB (.slice a2 nN c2) ++ FB (.slice a3 nT c3)) wr.heap.size w2.heap.size := (Rng.app (Rng.app rK rN) rT)
      have hstep : Half W 27 12 w.heap.size l.length l (OwOpC W) (w.heap.size + 1) (k + 1) := by
        refine (unhide HR0).step hlt (by omega) hsz hB2 [.int .i64 o.kind, .int .i64 o.atN, .int .i64 o.atR, .int .i64 o.nodeN, .int .i64 o.nodeR, .int .i64 o.parN, .int .i64 o.parR, .slice a1 nK c1, .int .i64 o.elem, .slice a2 nN c2, .slice a3 nT c3, .bool o.gone] (FB (.slice a1 nK c1) ++ FB (.slice a2 nN c2) ++ FB (.slice a3 nT c3)) rfl ?_ hO4 hrg ?_ hf ?_
        · rw [← unhide HOO]
          exact OwOpC.frm (w := w2) ⟨_, _, _, rfl, o1, o2, o3, rfl⟩ hf (fun g hg => by have := hrg g hg; simp; omega)
        · intro C x G' hx' hne
          exact OwOpC.frm hx' ((Frm.ofBelow hB2 [w.heap.size]).trans hf) (fun g hg => by have := hne g hg; simp; omega)
        · intro zs hz
          have hzl := hz.1
          have t0 := (hz.stored (k * 12) (.int .i64 o.kind)).1
          have t1 := (t0.stored (k * 12 + 1) (.int .i64 o.atN)).1
          have t2 := (t1.stored (k * 12 + 2) (.int .i64 o.atR)).1
          have t3 := (t2.stored (k * 12 + 3) (.int .i64 o.nodeN)).1
          have t4 := (t3.stored (k * 12 + 4) (.int .i64 o.nodeR)).1
          have t5 := (t4.stored (k * 12 + 5) (.int .i64 o.parN)).1
          have t6 := (t5.stored (k * 12 + 6) (.int .i64 o.parR)).1
          have t7 := (t6.stored (k * 12 + 7) (.slice a1 nK c1)).1
          have t8 := (t7.stored (k * 12 + 8) (.int .i64 o.elem)).1
          have t9 := (t8.stored (k * 12 + 9) (.slice a2 nN c2)).1
          have t10 := (t9.stored (k * 12 + 10) (.slice a3 nT c3)).1
          have t11 := (t10.stored (k * 12 + 11) (.bool o.gone)).1
          rw [hW]
          exact ⟨_, t11, take_twelve zs (k * 12) _ _ _ _ _ _ _ _ _ _ _ _ (by omega)⟩
      have HB0 := hB.trans ((hB2.mono hB.size).trans (hf.below (by have := hB2.size; have := hB.size; omega) (fun g hg => by simp at hg; omega)))
      have hs2 : w.heap.size + 1 ≤ W.heap.size := by have := hf.size; have := hB2.size; omega
      subst hW
      have HS := hide hstep
      have HB := hide HB0
      have HS2 := hide hs2
      clear hstep hf hx o1 o2 o3 hO4 hB2 hB HB0 hs2 hrg hcell rK rN rT HT HR0 HRW HOO
      go_wp2_with fail
      go_roundw
      case rel => exact ⟨k + 1, by omega, by go_num, unhide HS, unhide HB, unhide HS2⟩
      case measure => simp [intOf]; omega
    · have e : k = l.length := by omega
      subst e
      have HW := hide (hr.whole rfl (by omega))
      clear hr g5 hone
      go_wp2_with fail
      go_ret
      obtain ⟨F, hF, hnd, hrg⟩ := unhide HW
      exact ⟨_, _, rfl, F, hF, hnd, hrg, hB⟩
end Go.Proofs.Ytcabolcfoijglaa
