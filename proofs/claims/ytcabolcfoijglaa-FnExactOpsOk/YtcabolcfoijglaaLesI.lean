/- spec.Less and impl.Less answer what the plain order says; the law on Less. -/
import Derived.Test.YtcabolcfoijglaaEqO
import Derived.Test.YtcabolcfoijglaaLocB
import Derived.Deep.RegionHeld3
namespace Go.Proofs.Ytcabolcfoijglaa
open Go.RowKit
set_option linter.unusedVariables false
set_option maxRecDepth 100000

def lessB (n r n' r' : Int) : Bool := decide (n < n') || (n == n' && decide (r < r'))

theorem lessB_cases (n r n' r' : Int) :
    (lessB n r n' r' = true ∧ decide (n < n') = true ∧ (n == n') = false ∧ n ≠ n') ∨
    (lessB n r n' r' = false ∧ decide (n < n') = false ∧ (n == n') = false ∧ n ≠ n') ∨
    (n = n' ∧ lessB n r n' r' = true ∧ decide (n < n') = false ∧ decide (r < r') = true ∧ r ≠ r') ∨
    (n = n' ∧ lessB n r n' r' = false ∧ decide (n < n') = false ∧ decide (r < r') = false) := by
  unfold lessB
  simp only [Bool.or_eq_true, Bool.or_eq_false_iff, Bool.and_eq_true, Bool.and_eq_false_iff, beq_iff_eq, beq_eq_false_iff_ne, decide_eq_true_eq, decide_eq_false_iff_not]
  omega

set_option maxHeartbeats 1600000 in
theorem lessS_any (w : World) (n r n' r' : Int) :
    Calls Try.prog 62 #[.agg #[.int .i64 n, .int .i64 r], .agg #[.int .i64 n', .int .i64 r']] w fun e w' => e = .returned (.bool (lessB n r n' r')) ∧ Below w.heap.size w w' := by
  have HB := hide (((Below.refl w.heap.size w).alloc (Nat.le_refl _) (.cells #[.int .i64 n, .int .i64 r] 24)).alloc (by simp) (.cells #[.int .i64 n', .int .i64 r'] 24))
  rcases lessB_cases n r n' r' with ⟨h, q1, q2, q3⟩ | ⟨h, q1, q2, q3⟩ | ⟨rfl, h, q1, q2, q3⟩ | ⟨rfl, h, q1, q2⟩
  all_goals
    have HE := hide h
    clear h
    go_enter Try.func62, Try.ntmps62
    go_wp2
    go_ret
    exact ⟨by rw [unhide HE]; rfl, unhide HB⟩

theorem Loc.two {w : World} {g : Nat} {v0 v1 : Value} {T : TypeId} (h : Loc w g #[v0, v1] T) : w.cell? ⟨g, 0, none⟩ = some v0 ∧ w.cell? ⟨g, 1, none⟩ = some v1 := ⟨h.cell 0, h.cell 1⟩

/-- Below 0, 0 or above 0. -/
def ordI (n r n' r' : Int) : Int := if n = n' ∧ r = r' then 0 else if lessB n r n' r' then -1 else 1
theorem ordI_lt (n r n' r' : Int) : decide (ordI n r n' r' < 0) = lessB n r n' r' := by
  unfold ordI
  split
  · rename_i h
    obtain ⟨rfl, rfl⟩ := h
    unfold lessB
    simp
  · split <;> simp [*]

set_option maxHeartbeats 1600000 in
theorem orderI_any (w : World) (n r n' r' : Int) :
    Calls Try.prog 93 #[.agg #[.int .i64 n, .int .i64 r], .agg #[.int .i64 n', .int .i64 r']] w fun e w' => e = .returned (.int .i64 (ordI n r n' r')) ∧ Below w.heap.size w w' := by
  have HB := hide (((Below.refl w.heap.size w).alloc (Nat.le_refl _) (.cells #[.int .i64 n, .int .i64 r] 24)).alloc (by simp) (.cells #[.int .i64 n', .int .i64 r'] 24))
  rcases lessB_cases n r n' r' with ⟨h, q1, q2, q3⟩ | ⟨h, q1, q2, q3⟩ | ⟨rfl, h, q1, q2, q3⟩ | ⟨rfl, h, q1, q2⟩
  · have HE := hide (show ordI n r n' r' = -1 by unfold ordI; rw [if_neg (fun k => q3 k.1), h]; rfl)
    clear h
    go_enter Try.func93, Try.ntmps93
    go_wp2
    go_ret
    exact ⟨by rw [unhide HE]; rfl, unhide HB⟩
  · have HE := hide (show ordI n r n' r' = 1 by unfold ordI; rw [if_neg (fun k => q3 k.1), h]; rfl)
    clear h
    go_enter Try.func93, Try.ntmps93
    go_wp2
    go_ret
    exact ⟨by rw [unhide HE]; rfl, unhide HB⟩
  · have HE := hide (show ordI n r n r' = -1 by unfold ordI; rw [if_neg (fun k => q3 k.2), h]; rfl)
    have q4 : (r == r') = false := by simpa using q3
    clear h
    go_enter Try.func93, Try.ntmps93
    go_wp2
    go_ret
    exact ⟨by rw [unhide HE]; rfl, unhide HB⟩
  · by_cases h2 : r = r'
    · subst h2
      have HE := hide (show ordI n r n r = 0 by unfold ordI; rw [if_pos ⟨rfl, rfl⟩])
      clear h
      go_enter Try.func93, Try.ntmps93
      go_wp2
      go_ret
      exact ⟨by rw [unhide HE]; rfl, unhide HB⟩
    · have HE := hide (show ordI n r n r' = 1 by unfold ordI; rw [if_neg (fun k => h2 k.2), h]; rfl)
      have q4 : (r == r') = false := by simpa using h2
      clear h
      go_enter Try.func93, Try.ntmps93
      go_wp2
      go_ret
      exact ⟨by rw [unhide HE]; rfl, unhide HB⟩

set_option maxHeartbeats 1600000 in
theorem lessI_any (w : World) (n r n' r' : Int) :
    Calls Try.prog 64 #[.agg #[.int .i64 n, .int .i64 r], .agg #[.int .i64 n', .int .i64 r']] w fun e w' => e = .returned (.bool (lessB n r n' r')) ∧ Below w.heap.size w w' := by
  have hB := (((Below.refl w.heap.size w).alloc (Nat.le_refl _) (.cells #[.int .i64 n, .int .i64 r] 24)).alloc (by simp) (.cells #[.int .i64 n', .int .i64 r'] 24))
  go_enter Try.func64, Try.ntmps64
  go_wp2_with fail
  refine (orderI_any _ n r n' r').mono ?_
  rintro e w1 ⟨rfl, hB1⟩
  have hB2 := bstep hB hB1
  have hl := ordI_lt n r n' r'
  generalize ordI n r n' r' = z at *
  go_wp2
  go_ret
  exact ⟨by rw [← hl]; rfl, hB2⟩

end Go.Proofs.Ytcabolcfoijglaa
