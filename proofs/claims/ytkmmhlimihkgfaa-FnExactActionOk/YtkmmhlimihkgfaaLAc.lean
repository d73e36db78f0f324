/- The law on ActionOk, walked by its callees' contracts. -/
import Derived.Test.YtkmmhlimihkgfaaToA
import Derived.Test.YtkmmhlimihkgfaaEqA
import Derived.Test.YtkmmhlimihkgfaaSzA
import Derived.Test.YtkmmhlimihkgfaaAcS
import Derived.Test.YtkmmhlimihkgfaaAcI
import Derived.Deep.RegionHeld3
namespace Go.Proofs.Ytkmmhlimihkgfaa
open Go.RowKit
set_option linter.unusedVariables false
set_option maxRecDepth 100000

theorem Loc.thirteen {w : World} {g : Nat} {v0 v1 v2 v3 v4 v5 v6 v7 v8 v9 v10 v11 v12 : Value} {T : TypeId} (h : Loc w g #[v0, v1, v2, v3, v4, v5, v6, v7, v8, v9, v10, v11, v12] T) :
    w.cell? ⟨g, 0, none⟩ = some v0 ∧ w.cell? ⟨g, 1, none⟩ = some v1 ∧ w.cell? ⟨g, 2, none⟩ = some v2 ∧ w.cell? ⟨g, 3, none⟩ = some v3 ∧ w.cell? ⟨g, 4, none⟩ = some v4 ∧ w.cell? ⟨g, 5, none⟩ = some v5 ∧ w.cell? ⟨g, 6, none⟩ = some v6 ∧ w.cell? ⟨g, 7, none⟩ = some v7 ∧ w.cell? ⟨g, 8, none⟩ = some v8 ∧ w.cell? ⟨g, 9, none⟩ = some v9 ∧ w.cell? ⟨g, 10, none⟩ = some v10 ∧ w.cell? ⟨g, 11, none⟩ = some v11 ∧ w.cell? ⟨g, 12, none⟩ = some v12 :=
  ⟨h.cell 0, h.cell 1, h.cell 2, h.cell 3, h.cell 4, h.cell 5, h.cell 6, h.cell 7, h.cell 8, h.cell 9, h.cell 10, h.cell 11, h.cell 12⟩
/-- toAction, its rows by their parts. -/
theorem toAc_rd (w : World) (v : Value) (c : AcV) (h : RdAc w v c) (hs : c.e.name.length + c.e.text.length ≤ 2097152) :
    Calls Try.prog 6 #[v] w fun e w' => ∃ a1 c1 a2 c2, e = .returned (acVal c (.slice a1 c.e.name.length c1) (.slice a2 c.e.text.length c2)) ∧ RdAc w' (acVal c (.slice a1 c.e.name.length c1) (.slice a2 c.e.text.length c2)) c ∧ Below w.heap.size w w' := by
  refine (toAc_any w v c h hs).mono ?_
  rintro e w' ⟨n, t, rfl, h2, h3, h4, h5⟩
  obtain ⟨a2, c2, rfl, _, _⟩ := h2.byt.shape
  obtain ⟨a3, c3, rfl, _, _⟩ := h3.byt.shape
  exact ⟨a2, c2, a3, c3, rfl, ⟨_, _, rfl, h2.byt, h3.byt⟩, h5⟩

set_option maxHeartbeats 12800000 in
theorem law_actionok (w : World) (v : Value) (c : AcV) (h : RdAc w v c) :
    Calls Try.prog 3 #[v] w fun e w' => e = .returned (.bool true) ∧ Below w.heap.size w w' := by
  have h' := h
  obtain ⟨n, t, rfl, hn, ht⟩ := h
  obtain ⟨a1, c1, rfl, _, _⟩ := hn.shape
  obtain ⟨a2, c2, rfl, _, _⟩ := ht.shape
  clear hn ht
  have HH := hide h'
  clear h'
  obtain ⟨nN, hnN⟩ : ∃ x, x = c.e.name.length := ⟨_, rfl⟩
  obtain ⟨nT, hnT⟩ : ∃ x, x = c.e.text.length := ⟨_, rfl⟩
  have HT := hide (fun w v h hs => toAc_rd w v c h hs)
  have HZ := hide (fun w v left h h0 h1 => szAc_any w v c left h h0 h1)
  have HI := hide (fun w v (h : RdAc w v c) => acI_any w v c h)
  have HS := hide (fun w v (h : RdAc w v c) => acS_any w v c h)
  have HQ := hide (fun w u v (h : RdAc w u c) (k : RdAc w v c) => eqAc_same w u v c h k)
  rw [← hnN, ← hnT] at HH HT HZ ⊢
  clear hnN hnT
  generalize acB c = ok at *
  have hA : Below w.heap.size w (w.alloc (.cells #[.int .i64 c.kind, .int .i64 c.a, .int .i64 c.b, .int .i64 c.e.kind, .int .i64 c.e.nodeN, .int .i64 c.e.nodeR, .int .i64 c.e.toN, .int .i64 c.e.toR, .int .i64 c.e.i, .int .i64 c.e.elem, .slice a1 nN c1, .slice a2 nT c2, .bool c.e.gone] 28)) := (Below.refl _ _).alloc (Nat.le_refl _) _
  have l0 := Loc.made w #[.int .i64 c.kind, .int .i64 c.a, .int .i64 c.b, .int .i64 c.e.kind, .int .i64 c.e.nodeN, .int .i64 c.e.nodeR, .int .i64 c.e.toN, .int .i64 c.e.toR, .int .i64 c.e.i, .int .i64 c.e.elem, .slice a1 nN c1, .slice a2 nT c2, .bool c.e.gone] 28
  unfold acVal
  by_cases hbig : ((nN + nT : Nat) : Int) ≤ 1048576
  · have hr : left4 (nN + nT) 1048576 = 1048576 - ((nN + nT : Nat) : Int) := left4_in hbig
    have hsz : nN + nT ≤ 2097152 := by omega
    have hr1 : ¬ 1048576 - ((nN + nT : Nat) : Int) < 0 := by omega
    go_enter Try.func3, Try.ntmps3
    go_wp2_with fail
    refine (unhide HZ _ _ 1048576 ((unhide HH).keep hA) (by omega) (by omega)).mono ?_
    rintro e w1 ⟨rfl, hB1⟩
    rw [hr]
    generalize 1048576 - ((nN + nT : Nat) : Int) = r at *
    have hA1 := bstep hA hB1
    have l1 := l0.all hB1
    obtain ⟨x0, x1, x2, x3, x4, x5, x6, x7, x8, x9, x10, x11, x12⟩ := l1.thirteen
    go_wp2_with fail
    refine (unhide HT w1 _ ((unhide HH).keep hA1) hsz).mono ?_
    rintro e w2 ⟨b1, d1, b2, d2, rfl, ho2, hB2⟩
    have hA2 := bstep hA1 hB2
    have l2 := l1.all hB2
    clear x0 x1 x2 x3 x4 x5 x6 x7 x8 x9 x10 x11 x12
    obtain ⟨x0, x1, x2, x3, x4, x5, x6, x7, x8, x9, x10, x11, x12⟩ := l2.thirteen
    go_wp2_with fail
    refine (unhide HS w2 _ ho2).mono ?_
    rintro e w3 ⟨rfl, hB3⟩
    have hA3 := bstep hA2 hB3
    have l3 := l2.all hB3
    clear x0 x1 x2 x3 x4 x5 x6 x7 x8 x9 x10 x11 x12
    obtain ⟨x0, x1, x2, x3, x4, x5, x6, x7, x8, x9, x10, x11, x12⟩ := l3.thirteen
    go_wp2_with fail
    refine (unhide HT w3 _ ((unhide HH).keep hA3) hsz).mono ?_
    rintro e w4 ⟨a4, c4, a5, c5, rfl, ho4, hB4⟩
    have hA4 := bstep hA3 hB4
    have l4 := l3.all hB4
    clear x0 x1 x2 x3 x4 x5 x6 x7 x8 x9 x10 x11 x12
    unfold acVal at *
    go_wp2_with fail
    have hB5 : Below w4.heap.size w4 (w4.alloc (.cells #[.int .i64 c.kind, .int .i64 c.a, .int .i64 c.b, .int .i64 c.e.kind, .int .i64 c.e.nodeN, .int .i64 c.e.nodeR, .int .i64 c.e.toN, .int .i64 c.e.toR, .int .i64 c.e.i, .int .i64 c.e.elem, .slice a4 nN c4, .slice a5 nT c5, .bool c.e.gone] 35)) := (Below.refl _ _).alloc (Nat.le_refl _) _
    have m5 := Loc.made w4 #[.int .i64 c.kind, .int .i64 c.a, .int .i64 c.b, .int .i64 c.e.kind, .int .i64 c.e.nodeN, .int .i64 c.e.nodeR, .int .i64 c.e.toN, .int .i64 c.e.toR, .int .i64 c.e.i, .int .i64 c.e.elem, .slice a4 nN c4, .slice a5 nT c5, .bool c.e.gone] 35
    generalize (w4.alloc (.cells #[.int .i64 c.kind, .int .i64 c.a, .int .i64 c.b, .int .i64 c.e.kind, .int .i64 c.e.nodeN, .int .i64 c.e.nodeR, .int .i64 c.e.toN, .int .i64 c.e.toR, .int .i64 c.e.i, .int .i64 c.e.elem, .slice a4 nN c4, .slice a5 nT c5, .bool c.e.gone] 35)) = w5 at *
    have hA5 := bstep hA4 hB5
    have l5 := l4.all hB5
    have ho5 := ho4.keep hB5
    clear hB5
    generalize w4.heap.size = S at *
    refine (unhide HI w5 _ ho5).mono ?_
    rintro e w6 ⟨rfl, hB6⟩
    have hA6 := bstep hA5 hB6
    have l6 := l5.all hB6
    have m6 := m5.all hB6
    have ho6 := ho5.keep hB6
    obtain ⟨x0, x1, x2, x3, x4, x5, x6, x7, x8, x9, x10, x11, x12⟩ := l6.thirteen
    obtain ⟨y0, y1, y2, y3, y4, y5, y6, y7, y8, y9, y10, y11, y12⟩ := m6.thirteen
    have hne : (ok != ok) = false := by simp
    have heq : (ok == ok) = true := by simp
    go_wp2_with fail
    go_region_held3 (fun w' => w'.cell? ⟨w.heap.size, 0, none⟩ = some (.int .i64 c.kind) ∧ w'.cell? ⟨w.heap.size, 1, none⟩ = some (.int .i64 c.a) ∧ w'.cell? ⟨w.heap.size, 2, none⟩ = some (.int .i64 c.b) ∧ w'.cell? ⟨w.heap.size, 3, none⟩ = some (.int .i64 c.e.kind) ∧ w'.cell? ⟨w.heap.size, 4, none⟩ = some (.int .i64 c.e.nodeN) ∧ w'.cell? ⟨w.heap.size, 5, none⟩ = some (.int .i64 c.e.nodeR) ∧ w'.cell? ⟨w.heap.size, 6, none⟩ = some (.int .i64 c.e.toN) ∧ w'.cell? ⟨w.heap.size, 7, none⟩ = some (.int .i64 c.e.toR) ∧ w'.cell? ⟨w.heap.size, 8, none⟩ = some (.int .i64 c.e.i) ∧ w'.cell? ⟨w.heap.size, 9, none⟩ = some (.int .i64 c.e.elem) ∧ w'.cell? ⟨w.heap.size, 10, none⟩ = some (.slice a1 nN c1) ∧ w'.cell? ⟨w.heap.size, 11, none⟩ = some (.slice a2 nT c2) ∧ w'.cell? ⟨w.heap.size, 12, none⟩ = some (.bool c.e.gone) ∧ w'.cell? ⟨S, 0, none⟩ = some (.int .i64 c.kind) ∧ w'.cell? ⟨S, 1, none⟩ = some (.int .i64 c.a) ∧ w'.cell? ⟨S, 2, none⟩ = some (.int .i64 c.b) ∧ w'.cell? ⟨S, 3, none⟩ = some (.int .i64 c.e.kind) ∧ w'.cell? ⟨S, 4, none⟩ = some (.int .i64 c.e.nodeN) ∧ w'.cell? ⟨S, 5, none⟩ = some (.int .i64 c.e.nodeR) ∧ w'.cell? ⟨S, 6, none⟩ = some (.int .i64 c.e.toN) ∧ w'.cell? ⟨S, 7, none⟩ = some (.int .i64 c.e.toR) ∧ w'.cell? ⟨S, 8, none⟩ = some (.int .i64 c.e.i) ∧ w'.cell? ⟨S, 9, none⟩ = some (.int .i64 c.e.elem) ∧ w'.cell? ⟨S, 10, none⟩ = some (.slice a4 nN c4) ∧ w'.cell? ⟨S, 11, none⟩ = some (.slice a5 nT c5) ∧ w'.cell? ⟨S, 12, none⟩ = some (.bool c.e.gone))
      (first | exact ⟨by assumption, by assumption, by assumption, by assumption, by assumption, by assumption, by assumption, by assumption, by assumption, by assumption, by assumption, by assumption, by assumption, by assumption, by assumption, by assumption, by assumption, by assumption, by assumption, by assumption, by assumption, by assumption, by assumption, by assumption, by assumption, by assumption⟩ | simp [*])
      (first | (go_at_call 6; refine (unhide HT _ _ ((unhide HH).keep (hA6.drew)) hsz).mono ?_; rintro e w7 ⟨a7, c7, a8, c8, rfl, ho7, hB7⟩; obtain ⟨x0, x1, x2, x3, x4, x5, x6, x7, x8, x9, x10, x11, x12⟩ := ((l6.all ((Below.refl _ _).drew)).all hB7).thirteen; obtain ⟨y0, y1, y2, y3, y4, y5, y6, y7, y8, y9, y10, y11, y12⟩ := ((m6.all ((Below.refl _ _).drew)).all hB7).thirteen) | (go_at_call 8; refine (unhide HQ _ _ _ ((ho6.keep ((Below.refl _ _).drew)).keep hB7) ho7).mono ?_; rintro e w8 ⟨rfl, hB8⟩; obtain ⟨x0, x1, x2, x3, x4, x5, x6, x7, x8, x9, x10, x11, x12⟩ := (((l6.all ((Below.refl _ _).drew)).all hB7).all hB8).thirteen; obtain ⟨y0, y1, y2, y3, y4, y5, y6, y7, y8, y9, y10, y11, y12⟩ := (((m6.all ((Below.refl _ _).drew)).all hB7).all hB8).thirteen))
    all_goals
      go_wp2
      go_ret
      exact ⟨rfl, bstep (bstep (Below.drew hA6) hB7) hB8⟩
  · have hr : left4 (nN + nT) 1048576 = -1 := left4_out hbig
    go_enter Try.func3, Try.ntmps3
    go_wp2_with fail
    refine (unhide HZ _ _ 1048576 ((unhide HH).keep hA) (by omega) (by omega)).mono ?_
    rintro e w1 ⟨rfl, hB1⟩
    rw [hr]
    go_wp2
    go_ret
    exact ⟨rfl, bstep hA hB1⟩

end Go.Proofs.Ytkmmhlimihkgfaa
