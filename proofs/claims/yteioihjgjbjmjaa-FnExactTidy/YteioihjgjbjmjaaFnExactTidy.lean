/- For every tree of elements, attributes and texts the law on Tidy returns true: impl.Tidy tells the tree that the specification's Tidy tells, writes into no argument, and what it tells is its own. No condition. -/
import Derived.Test.YteioihjgjbjmjaaRows
import Derived.Test.YteioihjgjbjmjaaJa
import Derived.Test.YteioihjgjbjmjaaJb
import Derived.Test.YteioihjgjbjmjaaJc
import Derived.Test.YteioihjgjbjmjaaJd
import Derived.Test.YteioihjgjbjmjaaJe
import Derived.Test.YteioihjgjbjmjaaJf
import Derived.Test.YteioihjgjbjmjaaJg
import Derived.Test.YteioihjgjbjmjaaJh
import Derived.WalkKit
import Derived.ProofKit
import Derived.OpenShut
import Derived.ShutString
import Derived.ChangeOld
import Derived.Below
import Derived.Carry
namespace Go.Proofs.Yteioihjgjbjmjaa.fnExactTidy
open Go.ChangeShapes Go.WideShapes Go.ChangeAt Go.RowKit
set_option linter.unusedVariables false

theorem own : ownKnob Try.prog.godebug = none := by kernel_rfl
theorem laidOut : laidOutB Try.prog = true := by kernel_rfl

set_option maxRecDepth 100000 in
theorem lifted (os : Os) (started : os.Started) (H : Type) (enc : TypeId × Value → H) :
    ReturnsInHanded {} Try.checked os 5 .any (Rows.fnExactTidySpec.pre6 enc Try.prog Try.f5 Rows.fnExactTidyRow.domain false) (Rows.fnExactTidySpec.post enc Try.prog Try.f5 false true false false) := by
  refine returnsInHanded_of_change (C := Try.checked) own started (by kernel_rfl) Try.func5
    (ChangeSpec.witness6 (enc := enc) (C := Try.checked) false ⟨#[], #[.agg #[.int .i64 0, .slice none 0 0, .slice none 0 0, .slice none 0 0, .slice none 0 0]], []⟩ 8 (by kernel_rfl) (by kernel_rfl) (by kernel_rfl) (by kernel_rfl)) ?_
  intro W base args ds gs before hval0 hW hcnd _
  have hval : ∀ (j : Nat) t v, Try.f5.params[j]? = some t → args[j]? = some v → Value.okWide Try.prog W .any base t v := hval0
  have hW' := hW
  obtain ⟨p, q, hA0, hV, rfl, hfz, hnd⟩ := hW
  have hA : DataW.TrodAll enc Try.prog W 0 (fun _ => true) true Try.f5.params.toList args.toList ds p := hA0
  rw [Try.params5] at hA hval
  obtain ⟨v0, vs0, d0, ds0, p0, q0, hargs, rfl, rfl, h0, r0⟩ := trodAll_cons hA
  obtain ⟨rfl, rfl, rfl⟩ := trodAll_nil r0
  obtain rfl : args = #[v0] := by cases args; simp_all
  obtain ⟨rfl, rfl⟩ := trodVars_none hV
  have k0 := h0
  have lt0 : ∀ x ∈ p0, x.block < W.heap.size := by obtain ⟨m, hm⟩ := k0; exact DataW.trod_lt m _ _ _ hm
  obtain ⟨a0, b0, c0, e0, g0, m0, t0, rfl, o0⟩ := arg_node (hval 0 26 v0 rfl rfl) h0
  clear hA0 hval0
  refine (law_tidy tidyOf tidyS_any tidyI_any tidyOf_sz m0 W _ _ _ _ _ t0 o0).mono fun e W' ⟨he, bel⟩ => ?_
  subst he
  exact ⟨_, rfl, _, _, _, [], _, [], hW', trodAll_mk1 (shut_bool Try.underlying4 _), (trodAll_cons_mk (Below.trod laidOut (by kernel_rfl) (of_decide_eq_true (by kernel_rfl)) k0 bel lt0) trodAll_mk0), rfl, bel.frame _, fun h => by cases h⟩

theorem over : Rows.fnExactTidyRow.holds Try.pinned (OpenSpec.ofChange Rows.fnExactTidySpec) :=
  OpenClaim.holds_of_wide 5 Try.f5 rfl rfl rfl rfl rfl rfl rfl ⟨rfl, rfl, rfl, rfl, rfl⟩ rfl rfl rfl rfl rfl (by kernel_rfl) Try.func5 (by kernel_rfl)
    (of_decide_eq_true (by kernel_rfl)) (by unfold Func.isWrapper; first | (rw [if_pos (by decide +kernel)]; kernel_rfl) | (rw [if_neg (by decide +kernel)]; exact ⟨rfl, rfl⟩))
    (fun os started H enc _ => lifted os started H enc)

theorem proved : Rows.FnExactTidySaid := over
end Go.Proofs.Yteioihjgjbjmjaa.fnExactTidy

namespace Go.Proofs.Yteioihjgjbjmjaa
theorem fnExactTidy_holds : Rows.FnExactTidySaid := fnExactTidy.proved
#print axioms fnExactTidy_holds
end Go.Proofs.Yteioihjgjbjmjaa
