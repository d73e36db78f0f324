/- The order of keys, in plain mathematics. -/
import Derived.Test.YtjannojebngoeaaBaseZ
namespace Go.Proofs.Ytjannojebngoeaa
set_option linter.unusedVariables false

/-- By the first number in which they differ; the one that begins the other one is less. -/
def klB : List Int → List Int → Bool
  | [], [] => false
  | [], _ :: _ => true
  | _ :: _, [] => false
  | x :: a, y :: b => if x = y then klB a b else decide (x < y)

theorem klB_end {a b : List Int} (h : a = [] ∨ b = []) : klB a b = decide (a.length < b.length) := by
  cases a <;> cases b <;> simp [klB] at *
theorem drop_cons {l : List Int} {k : Nat} (h : k < l.length) : l.drop k = l.getD k 0 :: l.drop (k + 1) := by
  rw [List.drop_eq_getElem_cons h, getD_at h]
theorem klB_same {a b : List Int} {k : Nat} (ha : k < a.length) (hb : k < b.length) (e : a.getD k 0 = b.getD k 0) : klB (a.drop k) (b.drop k) = klB (a.drop (k + 1)) (b.drop (k + 1)) := by
  rw [drop_cons ha, drop_cons hb, klB, if_pos e]
theorem klB_diff {a b : List Int} {k : Nat} (ha : k < a.length) (hb : k < b.length) (e : a.getD k 0 ≠ b.getD k 0) : klB (a.drop k) (b.drop k) = decide (a.getD k 0 < b.getD k 0) := by
  rw [drop_cons ha, drop_cons hb, klB, if_neg e]
theorem klB_over {a b : List Int} {k : Nat} (ha : k ≤ a.length) (hb : k ≤ b.length) (h : k = a.length ∨ k = b.length) : klB (a.drop k) (b.drop k) = decide (a.length < b.length) := by
  rw [klB_end (by rcases h with rfl | rfl <;> simp)]
  simp only [List.length_drop]
  rw [Bool.eq_iff_iff]
  simp only [decide_eq_true_eq]
  omega
theorem klB_irr (a : List Int) : klB a a = false := by
  induction a with
  | nil => rfl
  | cons x a ih => rw [klB, if_pos rfl, ih]
theorem klB_anti (a b : List Int) : (klB a b && klB b a) = false := by
  induction a generalizing b with
  | nil => cases b <;> rfl
  | cons x a ih =>
    cases b with
    | nil => rfl
    | cons y b =>
      by_cases e : x = y
      · rw [klB, if_pos e, klB, if_pos e.symm]; exact ih b
      · rw [klB, if_neg e, klB, if_neg (fun h => e h.symm)]
        by_cases h : x < y
        · have : ¬ y < x := by omega
          simp [this]
        · simp [h]
theorem klB_tri (a b : List Int) : (klB a b || klB b a) = !decide (a = b) := by
  induction a generalizing b with
  | nil => cases b <;> simp [klB]
  | cons x a ih =>
    cases b with
    | nil => simp [klB]
    | cons y b =>
      by_cases e : x = y
      · rw [klB, if_pos e, klB, if_pos e.symm, ih b]; simp [e]
      · rw [klB, if_neg e, klB, if_neg (fun h => e h.symm)]
        have : x < y ∨ y < x := by omega
        simp [e, this]
end Go.Proofs.Ytjannojebngoeaa
