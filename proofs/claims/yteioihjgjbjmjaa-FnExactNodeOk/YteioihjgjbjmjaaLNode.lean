/- The law on NodeOk, walked by its callees' contracts, impl's NodeOk's among them: it returns true and writes nothing that was there. -/
import Derived.Test.YteioihjgjbjmjaaSz
import Derived.Test.YteioihjgjbjmjaaEqT
import Derived.Test.YteioihjgjbjmjaaToT5
import Derived.Test.YteioihjgjbjmjaaNodeS
import Derived.Test.YteioihjgjbjmjaaTool
namespace Go.Proofs.Yteioihjgjbjmjaa
open Go.RowKit
set_option linter.unusedVariables false
set_option maxRecDepth 100000

/-- What the law asks of impl's NodeOk. -/
def NodeISaid : Prop := ∀ (n : Nat) (w : World) (a b c d e : Value) (t : Tr (n + 1)) (F : List Nat), OwNode (n + 1) w [a, b, c, d, e] t F → szT (n + 1) t ≤ 2097152 →
    Calls Try.prog 10 #[.agg #[a, b, c, d, e]] w fun e w' => e = .returned (.bool (okN n t)) ∧ Below w.heap.size w w'

set_option maxHeartbeats 3200000 in
theorem law_nodeok (hI : NodeISaid) (n : Nat) (w : World) (a b c d e : Value) (t : Tr (n + 1)) (h : RdNode (n + 1) w [a, b, c, d, e] t) :
    Calls Try.prog 3 #[.agg #[a, b, c, d, e]] w fun e w' => e = .returned (.bool true) ∧ Below w.heap.size w w' := by
  have h' := h
  obtain ⟨_, _, _, _, e0, k1, k2, hb, hc, hd, he⟩ := h
  simp only [List.cons.injEq, and_true] at e0
  obtain ⟨rfl, rfl, rfl, rfl, rfl⟩ := e0
  obtain ⟨ab, cb, rfl, _, _⟩ := hb.shape
  obtain ⟨ac, cc, rfl, _, _⟩ := hc.shape
  obtain ⟨ad, cd, rfl, _, _⟩ := Elems.shape hd
  obtain ⟨ae, ce, rfl, _, _⟩ := Elems.shape he
  generalize t.name.length = nb at *
  generalize t.text.length = nc at *
  generalize t.attrs.length = nd at *
  generalize t.kids.length = ne at *
  generalize hz : t.kind = z at *
  clear hb hc hd he
  have HH := hide h'
  clear h'
  have hA : Below w.heap.size w (w.alloc (.cells #[.int .i64 z, .slice ab nb cb, .slice ac nc cc, .slice ad nd cd, .slice ae ne ce] 26)) := (Below.refl _ _).alloc (Nat.le_refl _) _
  have l0 := Loc.made w #[.int .i64 z, .slice ab nb cb, .slice ac nc cc, .slice ad nd cd, .slice ae ne ce] 26
  by_cases hbig : (szT (n + 1) t : Int) ≤ 1048576
  · have hr : rest (szT (n + 1) t) 1048576 = 1048576 - (szT (n + 1) t : Int) := rest_in hbig
    have hsz : szT (n + 1) t ≤ 2097152 := by omega
    have hr0 : decide (1048576 - (szT (n + 1) t : Int) < 0) = false := by simp; omega
    have hr1 : ¬ 1048576 - (szT (n + 1) t : Int) < 0 := by omega
    go_enter Try.func3, Try.ntmps3
    go_wp2_with fail
    refine (szNode_any (n + 1) _ _ _ _ _ _ t 1048576 ((unhide HH).keep hA) (by omega) (by omega)).mono ?_
    rintro e w1 ⟨rfl, hB1⟩
    rw [hr]
    generalize 1048576 - (szT (n + 1) t : Int) = r at *
    have hA1 := bstep hA hB1
    have l1 := l0.all hB1
    obtain ⟨x0, x1, x2, x3, x4⟩ := l1.five
    go_wp2_with fail
    refine (toNode_any (n + 1) w1 _ _ _ _ _ t ((unhide HH).keep hA1) hsz).mono ?_
    rintro e w2 ⟨kd, a1, n1, c1, a2, n2, c2, a3, n3, c3, a4, n4, c4, rfl, F, ho2, hF, hR, hB2⟩
    have hA2 := bstep hA1 hB2
    have l2 := l1.all hB2
    clear x0 x1 x2 x3 x4
    obtain ⟨x0, x1, x2, x3, x4⟩ := l2.five
    go_wp2_with fail
    refine (nodeS_any n w2 _ _ _ _ _ t ho2.rd).mono ?_
    rintro e w3 ⟨rfl, hB3⟩
    have hA3 := bstep hA2 hB3
    have l3 := l2.all hB3
    clear x0 x1 x2 x3 x4
    obtain ⟨x0, x1, x2, x3, x4⟩ := l3.five
    generalize hok : okN n t = ok at *
    have HO := hide hok
    clear hok
    go_wp2_with fail
    refine (toNode_any (n + 1) w3 _ _ _ _ _ t ((unhide HH).keep hA3) hsz).mono ?_
    rintro e w4 ⟨kd', a1', n1', c1', a2', n2', c2', a3', n3', c3', a4', n4', c4', rfl, F', ho4, hF', hR', hB4⟩
    have hA4 := bstep hA3 hB4
    have l4 := l3.all hB4
    clear x0 x1 x2 x3 x4
    go_wp2_with fail
    have hB5 : Below w4.heap.size w4 (w4.alloc (.cells #[.int .i64 kd', .slice a1' n1' c1', .slice a2' n2' c2', .slice a3' n3' c3', .slice a4' n4' c4'] 32)) := (Below.refl _ _).alloc (Nat.le_refl _) _
    have m5 := Loc.made w4 #[.int .i64 kd', .slice a1' n1' c1', .slice a2' n2' c2', .slice a3' n3' c3', .slice a4' n4' c4'] 32
    generalize (w4.alloc (.cells #[.int .i64 kd', .slice a1' n1' c1', .slice a2' n2' c2', .slice a3' n3' c3', .slice a4' n4' c4'] 32)) = w5 at *
    have hA5 := bstep hA4 hB5
    have l5 := l4.all hB5
    have ho5 := ho4.keep hB5
    clear hB5
    generalize w4.heap.size = S at *
    refine (hI n w5 _ _ _ _ _ t F' ho5 hsz).mono ?_
    rintro e w6 ⟨rfl, hB6⟩
    rw [unhide HO]
    have hA6 := bstep hA5 hB6
    have l6 := l5.all hB6
    have m6 := m5.all hB6
    have ho6 := ho5.keep hB6
    obtain ⟨x0, x1, x2, x3, x4⟩ := l6.five
    obtain ⟨y0, y1, y2, y3, y4⟩ := m6.five
    have hne : (ok != ok) = false := by simp
    have heq : (ok == ok) = true := by simp
    go_wp2_with fail
    go_region_held3 (fun w' => w'.cell? ⟨w.heap.size, 0, none⟩ = some (.int .i64 z) ∧ w'.cell? ⟨w.heap.size, 1, none⟩ = some (.slice ab nb cb) ∧ w'.cell? ⟨w.heap.size, 2, none⟩ = some (.slice ac nc cc) ∧ w'.cell? ⟨w.heap.size, 3, none⟩ = some (.slice ad nd cd) ∧ w'.cell? ⟨w.heap.size, 4, none⟩ = some (.slice ae ne ce) ∧ w'.cell? ⟨S, 0, none⟩ = some (.int .i64 kd') ∧ w'.cell? ⟨S, 1, none⟩ = some (.slice a1' n1' c1') ∧ w'.cell? ⟨S, 2, none⟩ = some (.slice a2' n2' c2') ∧ w'.cell? ⟨S, 3, none⟩ = some (.slice a3' n3' c3') ∧ w'.cell? ⟨S, 4, none⟩ = some (.slice a4' n4' c4'))
      (first | exact ⟨by assumption, by assumption, by assumption, by assumption, by assumption, by assumption, by assumption, by assumption, by assumption, by assumption⟩ | simp [*])
      (first | (go_at_call 9; refine (toNode_any (n + 1) _ _ _ _ _ _ t ((unhide HH).keep (hA6.drew)) hsz).mono ?_; rintro e w7 ⟨kd7, a17, n17, c17, a27, n27, c27, a37, n37, c37, a47, n47, c47, rfl, F7, ho7, hF7, hR7, hB7⟩; obtain ⟨x0, x1, x2, x3, x4⟩ := ((l6.all ((Below.refl _ _).drew)).all hB7).five; obtain ⟨y0, y1, y2, y3, y4⟩ := ((m6.all ((Below.refl _ _).drew)).all hB7).five) | (go_at_call 11; refine (eqNode_any (n + 1) _ _ _ _ _ _ _ _ _ _ _ t ((ho6.keep ((Below.refl _ _).drew)).keep hB7).rd ho7.rd).mono ?_; rintro e w8 ⟨rfl, hB8⟩; obtain ⟨x0, x1, x2, x3, x4⟩ := (((l6.all ((Below.refl _ _).drew)).all hB7).all hB8).five; obtain ⟨y0, y1, y2, y3, y4⟩ := (((m6.all ((Below.refl _ _).drew)).all hB7).all hB8).five))
    all_goals
      go_wp2
      go_ret
      exact ⟨rfl, bstep (bstep (Below.drew hA6) hB7) hB8⟩
  · have hr : rest (szT (n + 1) t) 1048576 = -1 := rest_out hbig
    go_enter Try.func3, Try.ntmps3
    go_wp2_with fail
    refine (szNode_any (n + 1) _ _ _ _ _ _ t 1048576 ((unhide HH).keep hA) (by omega) (by omega)).mono ?_
    rintro e w1 ⟨rfl, hB1⟩
    rw [hr]
    go_wp2
    go_ret
    exact ⟨rfl, bstep hA hB1⟩
end Go.Proofs.Yteioihjgjbjmjaa
