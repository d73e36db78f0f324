/- spec.NameOk and spec.l2text answer the plain tests' Booleans. -/
import Derived.Test.YtkmmhlimihkgfaaNameS
namespace Go.Proofs.Ytkmmhlimihkgfaa
open Go.RowKit
set_option linter.unusedVariables false

theorem nameS_b (w : World) (v : Value) (l : List Int) (h : Byt w v l) : Calls Try.prog 20 #[v] w fun e w' => e = .returned (.bool (nameB l)) ∧ w' = w := by
  by_cases hn : NameOk l
  · rw [(nameB_iff l).2 hn]; exact nameS_yes w v l h hn
  · rw [Bool.eq_false_iff.2 (fun k => hn ((nameB_iff l).1 k))]; exact nameS_no w v l h hn
theorem textS_b (w : World) (v : Value) (l : List Int) (h : Byt w v l) : Calls Try.prog 18 #[v] w fun e w' => e = .returned (.bool (textB l)) ∧ w' = w := by
  by_cases hn : TextOk l
  · rw [(textB_iff l).2 hn]; exact textS_yes w v l h hn
  · rw [Bool.eq_false_iff.2 (fun k => hn ((textB_iff l).1 k))]; exact textS_no w v l h hn

end Go.Proofs.Ytkmmhlimihkgfaa
