/- What marks count of a tree is no more than its size. -/
import Derived.Test.YteioihjgjbjmjaaMarkM
namespace Go.Proofs.Yteioihjgjbjmjaa
open Go.RowKit
set_option linter.unusedVariables false

theorem cntL_sum {α : Type} (f g : α → Nat) (H : ∀ x, f x ≤ g x) : ∀ l : List α, cntL f l ≤ l.length + (l.map g).sum
  | [] => by simp [cntL]
  | x :: l => by
    have h1 := cntL_sum f g H l
    have h2 := H x
    simp only [cntL, List.map_cons, List.length_cons, List.sum_cons]
    omega
theorem cntA_sum : ∀ l : List (List Int × List Int), cntA l ≤ szA l
  | [] => by simp [cntA, szA]
  | x :: l => by
    have h1 := cntA_sum l
    unfold szA at h1 ⊢
    simp only [cntA, List.map_cons, List.length_cons, List.sum_cons]
    omega
theorem cntT_sz : ∀ (n : Nat) (t : Tr n), cntT n t ≤ szT n t
  | 0, t => t.elim
  | n + 1, t => by
    have h1 := cntA_sum t.attrs
    have h2 := cntL_sum (cntT n) (szT n) (cntT_sz n) t.kids
    have h4 : szT (n + 1) t = t.name.length + t.text.length + szA t.attrs + (t.kids.length + (t.kids.map (szT n)).sum) := rfl
    rw [cntT_succ, h4]
    omega

end Go.Proofs.Yteioihjgjbjmjaa
