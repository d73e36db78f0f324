/- laws.eqByteS, laws.eqId of two that read the same. -/
import Derived.Test.YtkmmhlimihkgfaaEqI
import Derived.Test.YtkmmhlimihkgfaaEq
namespace Go.Proofs.Ytkmmhlimihkgfaa
open Go.RowKit
set_option linter.unusedVariables false
set_option maxRecDepth 100000

theorem eqB4_true (w : World) (u v : Value) (a : List Int) (hu : Byt w u a) (hv : Byt w v a) : Calls Try.prog 29 #[u, v] w fun e w' => e = .returned (.bool true) ∧ Below w.heap.size w w' := by
  refine (eqB_any w u v a a hu hv).mono ?_
  rintro e w' ⟨rfl, h⟩
  exact ⟨by simp, h⟩
theorem eqId_true (w : World) (n r : Int) : Calls Try.prog 28 #[.agg #[.int .i64 n, .int .i64 r], .agg #[.int .i64 n, .int .i64 r]] w fun e w' => e = .returned (.bool true) ∧ Below w.heap.size w w' := by
  refine (eqId_any w n r n r).mono ?_
  rintro e w' ⟨rfl, h⟩
  exact ⟨by simp [idEqB], h⟩

end Go.Proofs.Ytkmmhlimihkgfaa
