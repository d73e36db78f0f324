/- impl.keyOk answers what the plain test says. -/
import Derived.Test.YtcabolcfoijglaaChecked
import Derived.Test.YtcabolcfoijglaaKeyS
namespace Go.Proofs.Ytcabolcfoijglaa
open Go.RowKit
set_option linter.unusedVariables false
set_option maxRecDepth 100000

theorem keyI_short (w : World) (a : Option Addr) (n cap : Nat) (h : n < 1 ∨ 12 < n) :
    Calls Try.prog 39 #[.slice a n cap] w fun e w' => e = .returned (.bool false) ∧ w' = w := by
  by_cases h1 : n < 1
  · have h1' : (n : Int) < 1 := by omega
    go_enter Try.func39, Try.ntmps39
    go_wp2
    go_ret
    exact ⟨rfl, rfl⟩
  · have h1' : decide ((n : Int) < 1) = false := by simp; omega
    have h2 : (12 : Int) < (n : Int) := by omega
    go_enter Try.func39, Try.ntmps39
    go_wp2
    go_ret
    exact ⟨rfl, rfl⟩

open Classical in
set_option maxHeartbeats 1600000 in
theorem keyI_row (w : World) (b off cap : Nat) (l : List Int) (hok : okZ l) (h1 : 1 ≤ l.length) (h8 : l.length ≤ 12)
    (hc : ∀ i, i < l.length → w.cell? ⟨b, off + i, none⟩ = some (.int .i64 (l.getD i 0))) :
    Calls Try.prog 39 #[.slice (some ⟨b, off, none⟩) l.length cap] w fun e w' => e = .returned (.bool (decide (KeyOk l))) ∧ w' = w := by
  have d1 : decide ((l.length : Int) < 1) = false := by simp; omega
  have d2 : decide ((12 : Int) < (l.length : Int)) = false := by simp; omega
  obtain ⟨n, hn⟩ : ∃ n, l.length = n + 1 := ⟨l.length - 1, by omega⟩
  obtain ⟨z, hz⟩ : ∃ z, z = l.getD n 0 := ⟨_, rfl⟩
  have hcz : w.cell? ⟨b, off + n, none⟩ = some (.int .i64 z) := by rw [hz]; exact hc _ (by omega)
  have HZ := hide hz
  have HC := hide hc
  have HN := hide hn
  have e1 : (l.length : Int) - 1 = (n : Int) := by omega
  have hlt0 : n < l.length := by omega
  clear hc hz hn
  go_enter Try.func39, Try.ntmps39
  go_wp2
  go_loop [15] (fun i => ∃ k : Nat, k ≤ l.length ∧ i = .int .i64 k ∧ allTo keyCh l k) (fun i => l.length - (intOf i).toNat)
  case atStart => exact ⟨0, Nat.zero_le _, rfl, fun i hi => by omega⟩
  case round =>
    obtain ⟨k, hk, rfl, ha⟩ := hrel
    have HA := hide ha
    clear ha
    by_cases hlt : k < l.length
    · obtain ⟨x, hx⟩ : ∃ x, x = l.getD k 0 := ⟨_, rfl⟩
      have hcx : w.cell? ⟨b, off + k, none⟩ = some (.int .i64 x) := by rw [hx]; exact unhide HC _ hlt
      have HX := hide hx
      have hlt' : (k : Int) < (l.length : Int) := by omega
      clear hx hcz
      by_cases hn : keyCh k x
      · have HN := hide hn
        have q1 : decide (x < 0) = false := by unfold keyCh at hn; simp; omega
        have q2 : decide (999 < x) = false := by unfold keyCh at hn; simp; omega
        clear hn
        go_wp2
        go_round
        case rel => exact ⟨k + 1, by omega, by go_num, allTo_step (unhide HA) (by rw [← unhide HX]; exact unhide HN)⟩
        case measure => simp [intOf]; omega
      · have HF := hide (show decide (KeyOk l) = false by
          simp only [decide_eq_false_iff_not]
          rintro ⟨_, _, _, h⟩
          exact hn (by rw [unhide HX]; exact h k hlt))
        have hcase : decide (x < 0) = true ∨ (decide (x < 0) = false ∧ decide (999 < x) = true) := by
          unfold keyCh at hn; simp; omega
        clear hn
        rcases hcase with q1 | ⟨q1, q2⟩
        all_goals
          go_wp2
          go_ret
          exact ⟨by rw [unhide HF]; rfl, rfl⟩
    · have e : k = l.length := by omega
      subst e
      by_cases hz0 : z = 0
      · have HF := hide (show decide (KeyOk l) = false by
          simp only [decide_eq_false_iff_not]
          rintro ⟨_, _, h, _⟩
          rw [unhide HN, Nat.add_sub_cancel, ← unhide HZ] at h
          exact h hz0)
        have dz : (z != 0) = false := by simp [hz0]
        clear hz0
        go_wp2
        go_ret
        exact ⟨by rw [unhide HF]; rfl, rfl⟩
      · have HF := hide (show decide (KeyOk l) = true by
          simp only [decide_eq_true_eq]
          exact ⟨h1, h8, by rw [unhide HN, Nat.add_sub_cancel, ← unhide HZ]; exact hz0, unhide HA⟩)
        have dz : (z != 0) = true := by simp [hz0]
        clear hz0
        go_wp2
        go_ret
        exact ⟨by rw [unhide HF]; rfl, rfl⟩

open Classical in
theorem keyI_any (w : World) (v : Value) (l : List Int) (h : Ints w v l) :
    Calls Try.prog 39 #[v] w fun e w' => e = .returned (.bool (decide (KeyOk l))) ∧ w' = w := by
  by_cases hl : l.length < 1 ∨ 12 < l.length
  · obtain ⟨a, cap, rfl, _⟩ := h.shape
    have hd : decide (KeyOk l) = false := by simp only [decide_eq_false_iff_not]; rintro ⟨_, _, _⟩; omega
    rw [hd]
    exact keyI_short w a _ cap hl
  · obtain ⟨hok, hm, ⟨rfl, rfl⟩ | ⟨x, cap, rfl, hc, rfl⟩ | ⟨b, off, cap, rfl, _, _, _, _, h5⟩⟩ := h
    · simp at hl
    · simp at hl
    · exact keyI_row w b off cap l hok (by omega) (by omega) h5
theorem keyI_b (w : World) (v : Value) (l : List Int) (h : Ints w v l) : Calls Try.prog 39 #[v] w fun e w' => e = .returned (.bool (keyB l)) ∧ w' = w := by
  refine (keyI_any w v l h).mono ?_
  rintro e w' ⟨rfl, h⟩
  refine ⟨?_, h⟩
  by_cases hn : KeyOk l
  · rw [(keyB_iff l).2 hn]; simp [hn]
  · rw [Bool.eq_false_iff.2 (fun k => hn ((keyB_iff l).1 k))]; simp [hn]
end Go.Proofs.Ytcabolcfoijglaa
