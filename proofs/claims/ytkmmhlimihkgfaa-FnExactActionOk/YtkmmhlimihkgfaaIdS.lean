/- spec.l4id, spec.l4zero and spec.Less answer what the plain tests say. -/
import Derived.Test.YtkmmhlimihkgfaaChecked
import Derived.Test.YtkmmhlimihkgfaaBase
namespace Go.Proofs.Ytkmmhlimihkgfaa
open Go.RowKit
set_option linter.unusedVariables false

/-- An Id that may be a node's. -/
def idB (n r : Int) : Bool := decide (0 ≤ n) && (decide (n ≤ 1000000) && (decide (0 ≤ r) && (decide (r < 8) || (decide (n = 0) && decide (r < 122)))))
def zeroB (n r : Int) : Bool := decide (n = 0) && decide (r = 0)

/-- The cases of idB. -/
theorem idB_cases (n r : Int) :
    (idB n r = false ∧ decide (0 ≤ n) = false) ∨
    (idB n r = false ∧ decide (0 ≤ n) = true ∧ decide (n ≤ 1000000) = false) ∨
    (idB n r = false ∧ decide (0 ≤ n) = true ∧ decide (n ≤ 1000000) = true ∧ decide (0 ≤ r) = false) ∨
    (idB n r = true ∧ decide (0 ≤ n) = true ∧ decide (n ≤ 1000000) = true ∧ decide (0 ≤ r) = true ∧ decide (r < 8) = true) ∨
    (idB n r = false ∧ decide (0 ≤ n) = true ∧ decide (n ≤ 1000000) = true ∧ decide (0 ≤ r) = true ∧ decide (r < 8) = false ∧ (n == 0) = false) ∨
    (idB n r = true ∧ decide (0 ≤ n) = true ∧ decide (n ≤ 1000000) = true ∧ decide (0 ≤ r) = true ∧ decide (r < 8) = false ∧ (n == 0) = true ∧ decide (r < 122) = true) ∨
    (idB n r = false ∧ decide (0 ≤ n) = true ∧ decide (n ≤ 1000000) = true ∧ decide (0 ≤ r) = true ∧ decide (r < 8) = false ∧ (n == 0) = true ∧ decide (r < 122) = false) := by
  unfold idB
  cases a : decide (0 ≤ n) <;> cases b : decide (n ≤ 1000000) <;> cases c : decide (0 ≤ r) <;> cases d : decide (r < 8) <;> by_cases e : n = 0 <;> cases f : decide (r < 122) <;> simp [e]

set_option maxHeartbeats 1600000 in
theorem idS_any (w : World) (n r : Int) :
    Calls Try.prog 19 #[.agg #[.int .i64 n, .int .i64 r]] w fun e w' => e = .returned (.bool (idB n r)) ∧ w' = w.alloc (.cells #[.int .i64 n, .int .i64 r] 31) := by
  rcases idB_cases n r with ⟨h, q1⟩ | ⟨h, q1, q2⟩ | ⟨h, q1, q2, q3⟩ | ⟨h, q1, q2, q3, q4⟩ | ⟨h, q1, q2, q3, q4, q5⟩ | ⟨h, q1, q2, q3, q4, q5, q6⟩ | ⟨h, q1, q2, q3, q4, q5, q6⟩
  all_goals
    have HE := hide h
    clear h
    go_enter Try.func19, Try.ntmps19
    go_wp2
    go_ret
    exact ⟨by rw [unhide HE]; rfl, rfl⟩

set_option maxHeartbeats 1600000 in
theorem zeroS_any (w : World) (n r : Int) :
    Calls Try.prog 11 #[.agg #[.int .i64 n, .int .i64 r]] w fun e w' => e = .returned (.bool (zeroB n r)) ∧ w' = w.alloc (.cells #[.int .i64 n, .int .i64 r] 31) := by
  go_enter Try.func11, Try.ntmps11
  go_wp2
  · have e0 : n = 0 := by assumption
    have e1 : r = 0 := by assumption
    go_ret
    exact ⟨by unfold zeroB; simp [e0, e1], by rw [e0, e1]⟩
  · have e0 : n = 0 := by assumption
    have e1 : ¬ r = 0 := by assumption
    go_ret
    exact ⟨by unfold zeroB; simp [e0, e1], by rw [e0]⟩
  · have e0 : ¬ n = 0 := by assumption
    go_ret
    exact ⟨by unfold zeroB; simp [e0], rfl⟩

end Go.Proofs.Ytkmmhlimihkgfaa
