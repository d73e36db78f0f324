/- spec.Less and impl.Less answer what the plain order says; the law on Less. -/
import Derived.Test.YtjannojebngoeaaEqO
import Derived.Test.YtjannojebngoeaaLocB
import Derived.Deep.RegionHeld3
namespace Go.Proofs.Ytjannojebngoeaa
open Go.RowKit
set_option linter.unusedVariables false
set_option maxRecDepth 100000

def lessB (n r n' r' : Int) : Bool := decide (n < n') || (n == n' && decide (r < r'))

theorem lessB_cases (n r n' r' : Int) :
    (lessB n r n' r' = true ∧ decide (n < n') = true ∧ (n == n') = false ∧ n ≠ n') ∨
    (lessB n r n' r' = false ∧ decide (n < n') = false ∧ (n == n') = false ∧ n ≠ n') ∨
    (n = n' ∧ lessB n r n' r' = true ∧ decide (n < n') = false ∧ decide (r < r') = true ∧ r ≠ r') ∨
    (n = n' ∧ lessB n r n' r' = false ∧ decide (n < n') = false ∧ decide (r < r') = false) := by
  unfold lessB
  simp only [Bool.or_eq_true, Bool.or_eq_false_iff, Bool.and_eq_true, Bool.and_eq_false_iff, beq_iff_eq, beq_eq_false_iff_ne, decide_eq_true_eq, decide_eq_false_iff_not]
  omega

set_option maxHeartbeats 1600000 in
theorem lessS_any (w : World) (n r n' r' : Int) :
    Calls Try.prog 21 #[.agg #[.int .i64 n, .int .i64 r], .agg #[.int .i64 n', .int .i64 r']] w fun e w' => e = .returned (.bool (lessB n r n' r')) ∧ Below w.heap.size w w' := by
  have HB := hide (((Below.refl w.heap.size w).alloc (Nat.le_refl _) (.cells #[.int .i64 n, .int .i64 r] 24)).alloc (by simp) (.cells #[.int .i64 n', .int .i64 r'] 24))
  rcases lessB_cases n r n' r' with ⟨h, q1, q2, q3⟩ | ⟨h, q1, q2, q3⟩ | ⟨rfl, h, q1, q2, q3⟩ | ⟨rfl, h, q1, q2⟩
  all_goals
    have HE := hide h
    clear h
    go_enter Try.func21, Try.ntmps21
    go_wp2
    go_ret
    exact ⟨by rw [unhide HE]; rfl, unhide HB⟩

theorem Loc.two {w : World} {g : Nat} {v0 v1 : Value} {T : TypeId} (h : Loc w g #[v0, v1] T) : w.cell? ⟨g, 0, none⟩ = some v0 ∧ w.cell? ⟨g, 1, none⟩ = some v1 := ⟨h.cell 0, h.cell 1⟩

/-- Below 0, 0 or above 0. -/
def ordI (n r n' r' : Int) : Int := if n = n' ∧ r = r' then 0 else if lessB n r n' r' then -1 else 1
theorem ordI_lt (n r n' r' : Int) : decide (ordI n r n' r' < 0) = lessB n r n' r' := by
  unfold ordI
  split
  · rename_i h
    obtain ⟨rfl, rfl⟩ := h
    unfold lessB
    simp
  · split <;> simp [*]

set_option maxHeartbeats 1600000 in
theorem orderI_any (w : World) (n r n' r' : Int) :
    Calls Try.prog 61 #[.agg #[.int .i64 n, .int .i64 r], .agg #[.int .i64 n', .int .i64 r']] w fun e w' => e = .returned (.int .i64 (ordI n r n' r')) ∧ Below w.heap.size w w' := by
  have HB := hide (((Below.refl w.heap.size w).alloc (Nat.le_refl _) (.cells #[.int .i64 n, .int .i64 r] 24)).alloc (by simp) (.cells #[.int .i64 n', .int .i64 r'] 24))
  rcases lessB_cases n r n' r' with ⟨h, q1, q2, q3⟩ | ⟨h, q1, q2, q3⟩ | ⟨rfl, h, q1, q2, q3⟩ | ⟨rfl, h, q1, q2⟩
  · have HE := hide (show ordI n r n' r' = -1 by unfold ordI; rw [if_neg (fun k => q3 k.1), h]; rfl)
    clear h
    go_enter Try.func61, Try.ntmps61
    go_wp2
    go_ret
    exact ⟨by rw [unhide HE]; rfl, unhide HB⟩
  · have HE := hide (show ordI n r n' r' = 1 by unfold ordI; rw [if_neg (fun k => q3 k.1), h]; rfl)
    clear h
    go_enter Try.func61, Try.ntmps61
    go_wp2
    go_ret
    exact ⟨by rw [unhide HE]; rfl, unhide HB⟩
  · have HE := hide (show ordI n r n r' = -1 by unfold ordI; rw [if_neg (fun k => q3 k.2), h]; rfl)
    have q4 : (r == r') = false := by simpa using q3
    clear h
    go_enter Try.func61, Try.ntmps61
    go_wp2
    go_ret
    exact ⟨by rw [unhide HE]; rfl, unhide HB⟩
  · by_cases h2 : r = r'
    · subst h2
      have HE := hide (show ordI n r n r = 0 by unfold ordI; rw [if_pos ⟨rfl, rfl⟩])
      clear h
      go_enter Try.func61, Try.ntmps61
      go_wp2
      go_ret
      exact ⟨by rw [unhide HE]; rfl, unhide HB⟩
    · have HE := hide (show ordI n r n r' = 1 by unfold ordI; rw [if_neg (fun k => h2 k.2), h]; rfl)
      have q4 : (r == r') = false := by simpa using h2
      clear h
      go_enter Try.func61, Try.ntmps61
      go_wp2
      go_ret
      exact ⟨by rw [unhide HE]; rfl, unhide HB⟩

set_option maxHeartbeats 1600000 in
theorem lessI_any (w : World) (n r n' r' : Int) :
    Calls Try.prog 19 #[.agg #[.int .i64 n, .int .i64 r], .agg #[.int .i64 n', .int .i64 r']] w fun e w' => e = .returned (.bool (lessB n r n' r')) ∧ Below w.heap.size w w' := by
  have hB := (((Below.refl w.heap.size w).alloc (Nat.le_refl _) (.cells #[.int .i64 n, .int .i64 r] 24)).alloc (by simp) (.cells #[.int .i64 n', .int .i64 r'] 24))
  go_enter Try.func19, Try.ntmps19
  go_wp2_with fail
  refine (orderI_any _ n r n' r').mono ?_
  rintro e w1 ⟨rfl, hB1⟩
  have hB2 := bstep hB hB1
  have hl := ordI_lt n r n' r'
  generalize ordI n r n' r' = z at *
  go_wp2
  go_ret
  exact ⟨by rw [← hl]; rfl, hB2⟩

set_option maxHeartbeats 3200000 in
theorem law_less (w : World) (n r n' r' : Int) :
    Calls Try.prog 5 #[.agg #[.int .i64 n, .int .i64 r], .agg #[.int .i64 n', .int .i64 r']] w fun e w' => e = .returned (.bool true) ∧ Below w.heap.size w w' := by
  have hA : Below w.heap.size w ((w.alloc (.cells #[.int .i64 n, .int .i64 r] 43)).alloc (.cells #[.int .i64 n', .int .i64 r'] 43)) := (((Below.refl w.heap.size w).alloc (Nat.le_refl _) _).alloc (by simp) _)
  have l0 := (Loc.made w #[.int .i64 n, .int .i64 r] 43).all ((Below.refl _ _).alloc (Nat.le_refl _) (.cells #[.int .i64 n', .int .i64 r'] 43))
  have l1 := Loc.made (w.alloc (.cells #[.int .i64 n, .int .i64 r] 43)) #[.int .i64 n', .int .i64 r'] 43
  go_enter Try.func5, Try.ntmps5
  go_wp2_with fail
  have hs1 : (w.alloc (.cells #[.int .i64 n, .int .i64 r] 43)).heap.size = w.heap.size + 1 := by simp
  rw [hs1] at l1
  clear hs1
  generalize ((w.alloc (.cells #[.int .i64 n, .int .i64 r] 43)).alloc (.cells #[.int .i64 n', .int .i64 r'] 43)) = w1 at *
  obtain ⟨x0, x1⟩ := l0.two
  obtain ⟨y0, y1⟩ := l1.two
  have m0 := l1
  have HT := hide (fun (W : World) (hW : Below w1.heap.size w1 W) => toId_any W n r)
  have HU := hide (fun (W : World) (hW : Below w1.heap.size w1 W) => toId_any W n' r')
  go_region_held3 (fun w' => w'.cell? ⟨w.heap.size, 0, none⟩ = some (.int .i64 n) ∧ w'.cell? ⟨w.heap.size, 1, none⟩ = some (.int .i64 r) ∧ w'.cell? ⟨w.heap.size + 1, 0, none⟩ = some (.int .i64 n') ∧ w'.cell? ⟨w.heap.size + 1, 1, none⟩ = some (.int .i64 r'))
    (first | exact ⟨by assumption, by assumption, by assumption, by assumption⟩ | simp [*])
    (first
      | (go_at_call 22; refine (unhide HT _ ((Below.refl _ _).drew)).mono ?_; clear HT; rintro e w2 ⟨rfl, hB2⟩; have hD4 := bstep ((Below.refl w1.heap.size w1).drew) hB2; obtain ⟨x0, x1⟩ := (l0.all hD4).two; obtain ⟨y0, y1⟩ := (m0.all hD4).two)
      | (go_at_call 22; refine (unhide HU _ hD4).mono ?_; clear HU; rintro e w3 ⟨rfl, hB3⟩; have hD5 := bstep hD4 hB3; obtain ⟨x0, x1⟩ := (l0.all hD5).two; obtain ⟨y0, y1⟩ := (m0.all hD5).two)
      | (go_at_call 21; refine (lessS_any _ n r n' r').mono ?_; rintro e w4 ⟨rfl, hB4⟩; have hD6 := bstep hD5 hB4; obtain ⟨x0, x1⟩ := (l0.all hD6).two; obtain ⟨y0, y1⟩ := (m0.all hD6).two))
  all_goals
    have hA4 := bstep hA hD6
    have l5 := l0.all hD6
    have m5 := l1.all hD6
    clear hB2 hB3 hB4 hD4 hD5 hD6 hA l0 l1 m0 x0 x1 y0 y1
    obtain ⟨x0, x1⟩ := l5.two
    obtain ⟨y0, y1⟩ := m5.two
    go_wp2_with fail
    have HT := hide (fun (W : World) (hW : Below w4.heap.size w4 W) => toId_any W n r)
    have HU := hide (fun (W : World) (hW : Below w4.heap.size w4 W) => toId_any W n' r')
    go_region_held3 (fun w' => w'.cell? ⟨w.heap.size, 0, none⟩ = some (.int .i64 n) ∧ w'.cell? ⟨w.heap.size, 1, none⟩ = some (.int .i64 r) ∧ w'.cell? ⟨w.heap.size + 1, 0, none⟩ = some (.int .i64 n') ∧ w'.cell? ⟨w.heap.size + 1, 1, none⟩ = some (.int .i64 r'))
      (first | exact ⟨by assumption, by assumption, by assumption, by assumption⟩ | simp [*])
      (first
        | (go_at_call 22; refine (unhide HT _ ((Below.refl _ _).drew)).mono ?_; clear HT; rintro e w5 ⟨rfl, hB5⟩; have hD4 := bstep ((Below.refl w4.heap.size w4).drew) hB5; obtain ⟨x0, x1⟩ := (l5.all hD4).two; obtain ⟨y0, y1⟩ := (m5.all hD4).two)
        | (go_at_call 22; refine (unhide HU _ hD4).mono ?_; clear HU; rintro e w6 ⟨rfl, hB6⟩; have hD5 := bstep hD4 hB6; obtain ⟨x0, x1⟩ := (l5.all hD5).two; obtain ⟨y0, y1⟩ := (m5.all hD5).two)
        | (go_at_call 19; refine (lessI_any _ n r n' r').mono ?_; rintro e w7 ⟨rfl, hB7⟩; have hD6 := bstep hD5 hB7; obtain ⟨x0, x1⟩ := (l5.all hD6).two; obtain ⟨y0, y1⟩ := (m5.all hD6).two))
    all_goals
      have hne : (lessB n r n' r' != lessB n r n' r') = false := by simp
      have heq : (lessB n r n' r' == lessB n r n' r') = true := by simp
      generalize lessB n r n' r' = z at *
      go_wp2
      go_ret
      exact ⟨rfl, bstep hA4 hD6⟩
end Go.Proofs.Ytjannojebngoeaa
