/- The law on KeyLess, walked by its callees' contracts: it returns true and writes nothing that was there. -/
import Derived.Test.YtjannojebngoeaaKlS
import Derived.Test.YtjannojebngoeaaKlI
import Derived.Test.YtjannojebngoeaaToZ
import Derived.Test.YtjannojebngoeaaEqZ
namespace Go.Proofs.Ytjannojebngoeaa
open Go.RowKit
set_option linter.unusedVariables false
set_option maxRecDepth 100000

theorem toZ_own (w : World) (v : Value) (l : List Int) (h : Ints w v l) (hs : l.length ≤ 2097152) :
    Calls Try.prog 24 #[v] w fun e w' => ∃ a c, e = .returned (.slice a l.length c) ∧ OwnZ w' w.heap.size (.slice a l.length c) l ∧ Below w.heap.size w w' := by
  refine (toZ_any w v l h hs).mono ?_
  rintro e w' ⟨v', rfl, ho, _, hB⟩
  obtain ⟨a, c, rfl, _, _⟩ := ho.ints.shape
  exact ⟨a, c, rfl, ho, hB⟩

set_option maxHeartbeats 3200000 in
theorem law_keyless (w : World) (v u : Value) (l t : List Int) (h : Ints w v l) (hu : Ints w u t) :
    Calls Try.prog 6 #[v, u] w fun e w' => e = .returned (.bool true) ∧ Below w.heap.size w w' := by
  have HV := hide h
  have HU := hide hu
  obtain ⟨a, cap, rfl, hlc, hcm⟩ := h.shape
  obtain ⟨a', cap', rfl, hlc', hcm'⟩ := hu.shape
  have hm := h.2.1
  have hm' := hu.2.1
  unfold maxLen at hm hm'
  clear h hu
  by_cases hbig : 1048576 < l.length
  · have hb' : (1048576 : Int) < (l.length : Int) := by omega
    go_enter Try.func6, Try.ntmps6
    go_wp2
    go_ret
    exact ⟨rfl, Below.refl _ _⟩
  have hb' : ¬ (1048576 : Int) < (l.length : Int) := by omega
  by_cases hbig2 : 1048576 < t.length
  · have hb2 : (1048576 : Int) < (t.length : Int) := by omega
    go_enter Try.func6, Try.ntmps6
    go_wp2
    go_ret
    exact ⟨rfl, Below.refl _ _⟩
  have hb2 : ¬ (1048576 : Int) < (t.length : Int) := by omega
  go_enter Try.func6, Try.ntmps6
  go_wp2_with fail
  refine (toZ_own w _ l (unhide HV) (by omega)).mono ?_
  rintro e w1 ⟨a1, c1, rfl, ho1, hB1⟩
  go_wp2_with fail
  refine (toZ_own w1 _ t ((unhide HU).keep hB1) (by omega)).mono ?_
  rintro e w2 ⟨a2, c2, rfl, ho2, hB2⟩
  have hA2 := bstep hB1 hB2
  go_wp2_with fail
  refine (klS_any w2 _ _ l t (ho1.keep hB2).ints ho2.ints).mono ?_
  rintro e w3 ⟨rfl, hB3⟩
  have hA3 := bstep hA2 hB3
  clear ho1 ho2
  go_wp2_with fail
  refine (toZ_own w3 _ l ((unhide HV).keep hA3) (by omega)).mono ?_
  rintro e w4 ⟨a4, c4, rfl, ho4, hB4⟩
  have hA4 := bstep hA3 hB4
  go_wp2_with fail
  refine (toZ_own w4 _ t ((unhide HU).keep hA4) (by omega)).mono ?_
  rintro e w5 ⟨a5, c5, rfl, ho5, hB5⟩
  have hA5 := bstep hA4 hB5
  go_wp2_with fail
  refine (klI_any w5 _ _ l t (ho4.keep hB5).ints ho5.ints).mono ?_
  rintro e w6 ⟨rfl, hB6⟩
  have hA6 := bstep hA5 hB6
  have hne : (klB l t != klB l t) = false := by simp
  have heq : (klB l t == klB l t) = true := by simp
  generalize klB l t = z at *
  go_wp2_with fail
  refine (toZ_own w6 _ l ((unhide HV).keep hA6) (by omega)).mono ?_
  rintro e w7 ⟨a7, c7, rfl, ho7, hB7⟩
  have hA7 := bstep hA6 hB7
  have ho47 := ((ho4.keep hB5).keep hB6).keep hB7
  go_wp2_with fail
  refine (eqZ_any w7 _ _ l l ho47.ints ho7.ints).mono ?_
  rintro e w8 ⟨rfl, hB8⟩
  have hA8 := bstep hA7 hB8
  have hd : decide (l = l) = true := by simp
  rw [hd]
  clear hd
  go_wp2_with fail
  refine (toZ_own w8 _ t ((unhide HU).keep hA8) (by omega)).mono ?_
  rintro e w9 ⟨a9, c9, rfl, ho9, hB9⟩
  have hA9 := bstep hA8 hB9
  have ho59 := (((ho5.keep hB6).keep hB7).keep hB8).keep hB9
  go_wp2_with fail
  refine (eqZ_any w9 _ _ t t ho59.ints ho9.ints).mono ?_
  rintro e w10 ⟨rfl, hB10⟩
  have hA10 := bstep hA9 hB10
  have hd : decide (t = t) = true := by simp
  rw [hd]
  clear hd
  go_wp2
  go_ret
  exact ⟨rfl, hA10⟩
end Go.Proofs.Ytjannojebngoeaa
