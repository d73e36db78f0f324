/- The laws' own count of how great a row of operations is. -/
import Derived.Test.YtcabolcfoijglaaOpsT
import Derived.Test.YtcabolcfoijglaaSzO
namespace Go.Proofs.Ytcabolcfoijglaa
open Go.RowKit
set_option linter.unusedVariables false
set_option maxRecDepth 100000

theorem ret_i64O {a b : Int} (h : a = b) : Ending.returned (.int .i64 a) = .returned (.int .i64 b) := by rw [h]

set_option maxHeartbeats 1600000 in
theorem szOps_any (w : World) (v : Value) (l : List OpV) (left : Int) (h : RdOps w v l) (h0 : 0 ≤ left) (h1 : left ≤ 1000000000) :
    Calls Try.prog 21 #[v, .int .i64 left] w fun e w' => e = .returned (.int .i64 (rest (szOs l) left)) ∧ Below w.heap.size w w' := by
  have hm := h.1
  unfold maxLen at hm
  by_cases h2 : (l.length : Int) ≤ left
  · have hd : ¬ left - (l.length : Int) < 0 := by omega
    obtain ⟨_, ⟨rfl, rfl⟩ | ⟨x, cap, rfl, hc, rfl⟩ | ⟨b, off, cap, rfl, g1, g2, g3, g4, g5⟩⟩ := h
    · go_enter Try.func21, Try.ntmps21
      go_wp2_with fail
      refine wp_loop_rounds 1 ?_
      rw [rounds_succ]
      go_wp2_with fail
      go_ret
      exact ⟨ret_i64O (by rw [rest_in (by simpa [szOs] using h0)]; simp [szOs]), Below.refl _ _⟩
    · go_enter Try.func21, Try.ntmps21
      go_wp2_with fail
      refine wp_loop_rounds 1 ?_
      rw [rounds_succ]
      go_wp2_with fail
      go_ret
      exact ⟨ret_i64O (by rw [rest_in (by simpa [szOs] using h0)]; simp [szOs]), Below.refl _ _⟩
    · have HE := hide (rest_rest (b := (l.map szO).sum) h2)
      go_enter Try.func21, Try.ntmps21
      go_wp2_with fail
      go_loopw [1, 5] (fun q i wr => ∃ k : Nat, k ≤ l.length ∧ i = .int .i64 k ∧ ((sumO l k : Nat) : Int) ≤ left - (l.length : Int) ∧ q = .int .i64 (left - (l.length : Int) - (sumO l k : Nat)) ∧ Below w.heap.size w wr) (fun _ i _ => l.length - (intOf i).toNat)
      case atStart => exact ⟨0, Nat.zero_le _, rfl, by simp [sumO]; omega, by simp [sumO], Below.refl _ _⟩
      case round =>
        obtain ⟨k, hk, rfl, hs, rfl, hB⟩ := hrel
        by_cases hlt : k < l.length
        · obtain ⟨a1, c1, a2, c2, a3, c3, e0, e1, e2, e3, e4, e5, e6, e7, e8, e9, e10, e11, hr⟩ := opc_at hB g4 (g5 k hlt)
          have hlt' : (k : Int) < (l.length : Int) := by omega
          have hst := sumO_step l k hlt
          have hle := sumO_le l (k + 1)
          rw [hst] at hle
          have HR := hide (szOp_any wr _ l[k] (left - (l.length : Int) - (sumO l k : Nat)) hr (by omega) (by omega))
          change Hid (Calls _ _ _ _ fun e w' => e = .returned (.int .i64 (left4 (szO l[k]) _)) ∧ _) at HR
          unfold opVal at HR
          generalize l[k] = o at *
          generalize o.key.length = nK at *
          generalize o.name.length = nN at *
          generalize o.text.length = nT at *
          generalize hq : sumO l k = q at *
          have HQ := hide hq
          have HST := hide hst
          clear g5 hq hst hr
          go_wp2_with fail
          refine (unhide HR).mono ?_
          rintro e w2 ⟨rfl, hB2⟩
          have hB3 := hB.trans (hB2.mono hB.size)
          clear e0 e1 e2 e3 e4 e5 e6 e7 e8 e9 e10 e11 HR
          generalize szO o = m at *
          by_cases h3 : (m : Int) ≤ left - (l.length : Int) - (q : Int)
          · rw [left4_in h3]
            have hd3 : ¬ left - (l.length : Int) - (q : Int) - (m : Int) < 0 := by omega
            go_wp2_with fail
            go_roundw
            case rel => exact ⟨k + 1, by omega, by go_num, by rw [unhide HST]; omega, by rw [unhide HST]; exact congrArg (Value.int .i64) (by omega), hB3⟩
            case measure => simp [intOf]; omega
          · rw [left4_out h3]
            have HF := hide (show rest (szOs l) left = -1 by unfold szOs; rw [unhide HE, rest_out (by omega)])
            go_wp2_with fail
            go_ret
            exact ⟨by rw [unhide HF]; rfl, hB3⟩
        · have e : k = l.length := by omega
          subst e
          rw [sumO_all] at hs ⊢
          have HF := hide (show rest (szOs l) left = left - (l.length : Int) - ((l.map szO).sum : Nat) by unfold szOs; rw [unhide HE, rest_in hs])
          go_wp2_with fail
          go_ret
          exact ⟨by rw [unhide HF]; rfl, hB⟩
  · have HF := hide (show rest (szOs l) left = -1 from rest_bad h2)
    obtain ⟨a, cap, rfl, _, _⟩ := Elems.shape h
    have hd : left - (l.length : Int) < 0 := by omega
    go_enter Try.func21, Try.ntmps21
    go_wp2_with fail
    go_ret
    exact ⟨by rw [unhide HF]; rfl, Below.refl _ _⟩
end Go.Proofs.Ytcabolcfoijglaa
