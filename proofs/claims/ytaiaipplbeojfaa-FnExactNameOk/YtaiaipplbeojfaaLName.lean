/- The law on NameOk, walked by its callees' contracts: it returns true and writes nothing that was there. -/
import Derived.Test.YtaiaipplbeojfaaTo
import Derived.Test.YtaiaipplbeojfaaEq
import Derived.Test.YtaiaipplbeojfaaNameS
import Derived.Test.YtaiaipplbeojfaaNameI
namespace Go.Proofs.Ytaiaipplbeojfaa
open Go.RowKit
set_option linter.unusedVariables false

open Classical in
set_option maxHeartbeats 1600000 in
theorem law_nameok (w : World) (v : Value) (l : List Int) (h : Byt w v l) :
    Calls Try.prog 3 #[v] w fun e w' => e = .returned (.bool true) ∧ Below w.heap.size w w' := by
  obtain ⟨a, cap, rfl, hlc, hcm⟩ := h.shape
  have hm := h.2.1
  unfold maxLen at hm
  by_cases hbig : 1048576 < l.length
  · have hb' : (1048576 : Int) < (l.length : Int) := by omega
    go_enter Try.func3, Try.ntmps3
    go_wp2
    go_ret
    exact ⟨rfl, Below.refl _ _⟩
  · have hb' : ¬ (1048576 : Int) < (l.length : Int) := by omega
    go_enter Try.func3, Try.ntmps3
    go_wp2_with fail
    refine (toB_any w _ l h (by omega)).mono ?_
    rintro e w1 ⟨v1, rfl, ho1, _, hB1⟩
    go_wp2_with fail
    refine (nameS_any w1 v1 l ho1.byt).mono ?_
    rintro e w2 ⟨rfl, rfl⟩
    go_wp2_with fail
    refine (toB_any w2 _ l (h.keep hB1) (by omega)).mono ?_
    rintro e w3 ⟨v3, rfl, ho3, _, hB3⟩
    go_wp2_with fail
    refine (nameI_any w3 v3 l ho3.byt).mono ?_
    rintro e w4 ⟨rfl, rfl⟩
    generalize decide (NameOk l) = ok at *
    have hne : (ok != ok) = false := by simp
    go_wp2_with fail
    refine (toB_any w4 _ l ((h.keep hB1).keep hB3) (by omega)).mono ?_
    rintro e w5 ⟨v5, rfl, ho5, _, hB5⟩
    go_wp2_with fail
    refine (eqB_any w5 _ _ l l (ho3.keep hB5).byt ho5.byt).mono ?_
    rintro e w6 ⟨rfl, hB6⟩
    have hd : decide (l = l) = true := by simp
    rw [hd]
    go_wp2
    go_ret
    exact ⟨rfl, bstep (bstep (bstep hB1 hB3) hB5) hB6⟩
end Go.Proofs.Ytaiaipplbeojfaa
