/- The law on OpOk, walked by its callees' contracts, impl's OpOk's among them. -/
import Derived.Test.YtjannojebngoeaaOwO
namespace Go.Proofs.Ytjannojebngoeaa
open Go.RowKit
set_option linter.unusedVariables false
set_option maxRecDepth 100000

set_option maxHeartbeats 6400000 in
theorem law_opok (hI : OpISaid) (w : World) (v : Value) (o : OpV) (h : RdOp w v o) :
    Calls Try.prog 8 #[v] w fun e w' => e = .returned (.bool true) ∧ Below w.heap.size w w' := by
  have h' := h
  obtain ⟨k, n, t, rfl, hk, hn, ht⟩ := h
  obtain ⟨a1, c1, rfl, _, _⟩ := hk.shape
  obtain ⟨a2, c2, rfl, _, _⟩ := hn.shape
  obtain ⟨a3, c3, rfl, _, _⟩ := ht.shape
  clear hk hn ht
  have HH := hide h'
  clear h'
  have HI := hide hI
  clear hI
  obtain ⟨nK, hnK⟩ : ∃ x, x = o.key.length := ⟨_, rfl⟩
  obtain ⟨nN, hnN⟩ : ∃ x, x = o.name.length := ⟨_, rfl⟩
  obtain ⟨nT, hnT⟩ : ∃ x, x = o.text.length := ⟨_, rfl⟩
  have HT := hide (fun w v h hs => toOp_own w v o h hs)
  have HZ := hide (fun w v left h h0 h1 => szOp_any w v o left h h0 h1)
  have HL := hide (fun w k n t base (h : OwOp w base o k n t) => unhide HI w o base k n t h)
  rw [← hnK, ← hnN, ← hnT] at HH HT HZ HL ⊢
  clear HI hnK hnN hnT
  have hA : Below w.heap.size w (w.alloc (.cells #[.int .i64 o.kind, .int .i64 o.atN, .int .i64 o.atR, .int .i64 o.nodeN, .int .i64 o.nodeR, .int .i64 o.parN, .int .i64 o.parR, .slice a1 nK c1, .int .i64 o.elem, .slice a2 nN c2, .slice a3 nT c3, .bool o.gone] 51)) := (Below.refl _ _).alloc (Nat.le_refl _) _
  have l0 := Loc.made w #[.int .i64 o.kind, .int .i64 o.atN, .int .i64 o.atR, .int .i64 o.nodeN, .int .i64 o.nodeR, .int .i64 o.parN, .int .i64 o.parR, .slice a1 nK c1, .int .i64 o.elem, .slice a2 nN c2, .slice a3 nT c3, .bool o.gone] 51
  unfold opVal
  by_cases hbig : ((nK + nN + nT : Nat) : Int) ≤ 1048576
  · have hr : left4 (nK + nN + nT) 1048576 = 1048576 - ((nK + nN + nT : Nat) : Int) := left4_in hbig
    have hsz : nK + nN + nT ≤ 2097152 := by omega
    have hr1 : ¬ 1048576 - ((nK + nN + nT : Nat) : Int) < 0 := by omega
    go_enter Try.func8, Try.ntmps8
    go_wp2_with fail
    refine (unhide HZ _ _ 1048576 ((unhide HH).keep hA) (by omega) (by omega)).mono ?_
    rintro e w1 ⟨rfl, hB1⟩
    rw [hr]
    generalize 1048576 - ((nK + nN + nT : Nat) : Int) = r at *
    have hA1 := bstep hA hB1
    have l1 := l0.all hB1
    obtain ⟨x0, x1, x2, x3, x4, x5, x6, x7, x8, x9, x10, x11⟩ := l1.twelve
    go_wp2_with fail
    refine (unhide HT w1 _ ((unhide HH).keep hA1) hsz).mono ?_
    rintro e w2 ⟨b1, d1, b2, d2, b3, d3, rfl, ho2, hB2⟩
    have hA2 := bstep hA1 hB2
    have l2 := l1.all hB2
    clear x0 x1 x2 x3 x4 x5 x6 x7 x8 x9 x10 x11
    obtain ⟨x0, x1, x2, x3, x4, x5, x6, x7, x8, x9, x10, x11⟩ := l2.twelve
    go_wp2_with fail
    refine (opS_any w2 _ o ho2.rd).mono ?_
    rintro e w3 ⟨rfl, hB3⟩
    have hA3 := bstep hA2 hB3
    have l3 := l2.all hB3
    clear x0 x1 x2 x3 x4 x5 x6 x7 x8 x9 x10 x11
    obtain ⟨x0, x1, x2, x3, x4, x5, x6, x7, x8, x9, x10, x11⟩ := l3.twelve
    generalize hok : opB o = ok at *
    have HO := hide hok
    clear hok
    go_wp2_with fail
    refine (unhide HT w3 _ ((unhide HH).keep hA3) hsz).mono ?_
    rintro e w4 ⟨a4, c4, a5, c5, a6, c6, rfl, ho4, hB4⟩
    have hA4 := bstep hA3 hB4
    have l4 := l3.all hB4
    clear x0 x1 x2 x3 x4 x5 x6 x7 x8 x9 x10 x11
    unfold opVal
    go_wp2_with fail
    have hB5 : Below w4.heap.size w4 (w4.alloc (.cells #[.int .i64 o.kind, .int .i64 o.atN, .int .i64 o.atR, .int .i64 o.nodeN, .int .i64 o.nodeR, .int .i64 o.parN, .int .i64 o.parR, .slice a4 nK c4, .int .i64 o.elem, .slice a5 nN c5, .slice a6 nT c6, .bool o.gone] 27)) := (Below.refl _ _).alloc (Nat.le_refl _) _
    have m5 := Loc.made w4 #[.int .i64 o.kind, .int .i64 o.atN, .int .i64 o.atR, .int .i64 o.nodeN, .int .i64 o.nodeR, .int .i64 o.parN, .int .i64 o.parR, .slice a4 nK c4, .int .i64 o.elem, .slice a5 nN c5, .slice a6 nT c6, .bool o.gone] 27
    generalize (w4.alloc (.cells #[.int .i64 o.kind, .int .i64 o.atN, .int .i64 o.atR, .int .i64 o.nodeN, .int .i64 o.nodeR, .int .i64 o.parN, .int .i64 o.parR, .slice a4 nK c4, .int .i64 o.elem, .slice a5 nN c5, .slice a6 nT c6, .bool o.gone] 27)) = w5 at *
    have hA5 := bstep hA4 hB5
    have l5 := l4.all hB5
    have ho5 := ho4.keep hB5
    clear hB5
    generalize w4.heap.size = S at *
    refine (unhide HL w5 _ _ _ _ ho5 hsz).mono ?_
    rintro e w6 ⟨rfl, hB6⟩
    have hA6 := bstep hA5 hB6
    have l6 := l5.all hB6
    have m6 := m5.all hB6
    have ho6 := ho5.keep hB6
    obtain ⟨x0, x1, x2, x3, x4, x5, x6, x7, x8, x9, x10, x11⟩ := l6.twelve
    obtain ⟨y0, y1, y2, y3, y4, y5, y6, y7, y8, y9, y10, y11⟩ := m6.twelve
    have hne : (ok != ok) = false := by simp
    have heq : (ok == ok) = true := by simp
    go_wp2_with fail
    go_region_held3 (fun w' => w'.cell? ⟨w.heap.size, 0, none⟩ = some (.int .i64 o.kind) ∧ w'.cell? ⟨w.heap.size, 1, none⟩ = some (.int .i64 o.atN) ∧ w'.cell? ⟨w.heap.size, 2, none⟩ = some (.int .i64 o.atR) ∧ w'.cell? ⟨w.heap.size, 3, none⟩ = some (.int .i64 o.nodeN) ∧ w'.cell? ⟨w.heap.size, 4, none⟩ = some (.int .i64 o.nodeR) ∧ w'.cell? ⟨w.heap.size, 5, none⟩ = some (.int .i64 o.parN) ∧ w'.cell? ⟨w.heap.size, 6, none⟩ = some (.int .i64 o.parR) ∧ w'.cell? ⟨w.heap.size, 7, none⟩ = some (.slice a1 nK c1) ∧ w'.cell? ⟨w.heap.size, 8, none⟩ = some (.int .i64 o.elem) ∧ w'.cell? ⟨w.heap.size, 9, none⟩ = some (.slice a2 nN c2) ∧ w'.cell? ⟨w.heap.size, 10, none⟩ = some (.slice a3 nT c3) ∧ w'.cell? ⟨w.heap.size, 11, none⟩ = some (.bool o.gone) ∧ w'.cell? ⟨S, 0, none⟩ = some (.int .i64 o.kind) ∧ w'.cell? ⟨S, 1, none⟩ = some (.int .i64 o.atN) ∧ w'.cell? ⟨S, 2, none⟩ = some (.int .i64 o.atR) ∧ w'.cell? ⟨S, 3, none⟩ = some (.int .i64 o.nodeN) ∧ w'.cell? ⟨S, 4, none⟩ = some (.int .i64 o.nodeR) ∧ w'.cell? ⟨S, 5, none⟩ = some (.int .i64 o.parN) ∧ w'.cell? ⟨S, 6, none⟩ = some (.int .i64 o.parR) ∧ w'.cell? ⟨S, 7, none⟩ = some (.slice a4 nK c4) ∧ w'.cell? ⟨S, 8, none⟩ = some (.int .i64 o.elem) ∧ w'.cell? ⟨S, 9, none⟩ = some (.slice a5 nN c5) ∧ w'.cell? ⟨S, 10, none⟩ = some (.slice a6 nT c6) ∧ w'.cell? ⟨S, 11, none⟩ = some (.bool o.gone))
      (first | exact ⟨by assumption, by assumption, by assumption, by assumption, by assumption, by assumption, by assumption, by assumption, by assumption, by assumption, by assumption, by assumption, by assumption, by assumption, by assumption, by assumption, by assumption, by assumption, by assumption, by assumption, by assumption, by assumption, by assumption, by assumption⟩ | simp [*])
      (first | (go_at_call 31; refine (unhide HT _ _ ((unhide HH).keep (hA6.drew)) hsz).mono ?_; rintro e w7 ⟨a7, c7, a8, c8, a9, c9, rfl, ho7, hB7⟩; obtain ⟨x0, x1, x2, x3, x4, x5, x6, x7, x8, x9, x10, x11⟩ := ((l6.all ((Below.refl _ _).drew)).all hB7).twelve; obtain ⟨y0, y1, y2, y3, y4, y5, y6, y7, y8, y9, y10, y11⟩ := ((m6.all ((Below.refl _ _).drew)).all hB7).twelve) | (go_at_call 32; refine (eqOp_same _ _ _ o ((ho6.keep ((Below.refl _ _).drew)).keep hB7).rd ho7.rd).mono ?_; rintro e w8 ⟨rfl, hB8⟩; obtain ⟨x0, x1, x2, x3, x4, x5, x6, x7, x8, x9, x10, x11⟩ := (((l6.all ((Below.refl _ _).drew)).all hB7).all hB8).twelve; obtain ⟨y0, y1, y2, y3, y4, y5, y6, y7, y8, y9, y10, y11⟩ := (((m6.all ((Below.refl _ _).drew)).all hB7).all hB8).twelve))
    all_goals
      go_wp2
      go_ret
      exact ⟨rfl, bstep (bstep (Below.drew hA6) hB7) hB8⟩
  · have hr : left4 (nK + nN + nT) 1048576 = -1 := left4_out hbig
    go_enter Try.func8, Try.ntmps8
    go_wp2_with fail
    refine (unhide HZ _ _ 1048576 ((unhide HH).keep hA) (by omega) (by omega)).mono ?_
    rintro e w1 ⟨rfl, hB1⟩
    rw [hr]
    go_wp2
    go_ret
    exact ⟨rfl, bstep hA hB1⟩

end Go.Proofs.Ytjannojebngoeaa
