/- The law on OpsOk, walked by its callees' contracts. -/
import Derived.Test.YtcabolcfoijglaaSzOs
import Derived.Test.YtcabolcfoijglaaToOs
import Derived.Test.YtcabolcfoijglaaEqOs
import Derived.Test.YtcabolcfoijglaaOpsS
import Derived.Test.YtcabolcfoijglaaOpsI
namespace Go.Proofs.Ytcabolcfoijglaa
open Go.RowKit
set_option linter.unusedVariables false
set_option maxRecDepth 100000

set_option maxHeartbeats 3200000 in
theorem law_opsok (w : World) (v : Value) (l : List OpV) (h : RdOps w v l) :
    Calls Try.prog 5 #[v] w fun e w' => e = .returned (.bool true) ∧ Below w.heap.size w w' := by
  have HZ := hide (szOps_any w v l 1048576 h (by omega) (by omega))
  have HT := hide (fun W (hW : Below w.heap.size w W) hs => toOps_any W v l (h.keep hW) hs)
  obtain ⟨a, cap, rfl, _, _⟩ := Elems.shape h
  clear h
  by_cases hbig : ((szOs l : Nat) : Int) ≤ 1048576
  · rw [rest_in hbig] at HZ
    have hsz : szOs l ≤ 2097152 := by omega
    have hd : ¬ 1048576 - ((szOs l : Nat) : Int) < 0 := by omega
    have HT' := hide (fun W hW => unhide HT W hW hsz)
    clear HT hsz
    have hne : ∀ b : Bool, (b != b) = false := by intro b; simp
    have HS := hide (fun W u (hu : RdOps W u l) => opsS_any W u l hu)
    have HI := hide (fun W u (hu : RdOps W u l) => opsI_any W u l hu)
    generalize opsB l = ok at *
    replace hne := hne ok
    have heq : (ok == ok) = true := by simp
    go_enter Try.func5, Try.ntmps5
    go_wp2_with fail
    refine (unhide HZ).mono ?_
    rintro e w1 ⟨rfl, hA1⟩
    go_wp2_with fail
    refine (unhide HT' w1 hA1).mono ?_
    rintro e w2 ⟨a2, c2, rfl, F2, hO2, _, _, hB2⟩
    have hA2 := bstep hA1 hB2
    go_wp2_with fail
    refine (unhide HS w2 _ hO2.rd).mono ?_
    rintro e w3 ⟨rfl, hB3⟩
    have hA3 := bstep hA2 hB3
    go_wp2_with fail
    refine (unhide HT' w3 hA3).mono ?_
    rintro e w4 ⟨a4, c4, rfl, F4, hO4, _, _, hB4⟩
    have hA4 := bstep hA3 hB4
    have hR4 := hO4.rd
    clear hO2 hO4
    go_wp2_with fail
    refine (unhide HI w4 _ hR4).mono ?_
    rintro e w5 ⟨rfl, hB5⟩
    have hA5 := bstep hA4 hB5
    have hR5 := hR4.keep hB5
    go_wp2_with fail
    refine (unhide HT' w5 hA5).mono ?_
    rintro e w6 ⟨a6, c6, rfl, F6, hO6, _, _, hB6⟩
    have hA6 := bstep hA5 hB6
    have hR6 := hR5.keep hB6
    go_wp2_with fail
    refine (eqOps_same w6 _ _ l hR6 hO6.rd).mono ?_
    rintro e w7 ⟨rfl, hB7⟩
    have hA7 := bstep hA6 hB7
    go_wp2_with fail
    go_ret
    exact ⟨rfl, hA7⟩
  · rw [rest_out hbig] at HZ
    go_enter Try.func5, Try.ntmps5
    go_wp2_with fail
    refine (unhide HZ).mono ?_
    rintro e w1 ⟨rfl, hA1⟩
    go_wp2_with fail
    go_ret
    exact ⟨rfl, hA1⟩
end Go.Proofs.Ytcabolcfoijglaa
