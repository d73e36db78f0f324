/- spec.l4key answers what the plain test says. -/
import Derived.Test.YtcabolcfoijglaaChecked
import Derived.Test.YtcabolcfoijglaaBaseZ
import Derived.Test.YtcabolcfoijglaaNameS
namespace Go.Proofs.Ytcabolcfoijglaa
open Go.RowKit
set_option linter.unusedVariables false

/-- A number that may stand in a key. -/
def keyCh (_ : Nat) (x : Int) : Prop := 0 ≤ x ∧ x ≤ 999
def KeyOk (l : List Int) : Prop := 1 ≤ l.length ∧ l.length ≤ 12 ∧ l.getD (l.length - 1) 0 ≠ 0 ∧ allTo keyCh l l.length

theorem keyS_short (w : World) (a : Option Addr) (n cap : Nat) (h : n < 1 ∨ 12 < n) :
    Calls Try.prog 36 #[.slice a n cap] w fun e w' => e = .returned (.bool false) ∧ w' = w := by
  by_cases h1 : n < 1
  · have h1' : (n : Int) < 1 := by omega
    go_enter Try.func36, Try.ntmps36
    go_wp2
    go_ret
    exact ⟨rfl, rfl⟩
  · have h1' : decide ((n : Int) < 1) = false := by simp; omega
    have h2 : (12 : Int) < (n : Int) := by omega
    go_enter Try.func36, Try.ntmps36
    go_wp2
    go_ret
    exact ⟨rfl, rfl⟩

open Classical in
set_option maxHeartbeats 1600000 in
theorem keyS_row (w : World) (b off cap : Nat) (l : List Int) (hok : okZ l) (h1 : 1 ≤ l.length) (h8 : l.length ≤ 12)
    (hc : ∀ i, i < l.length → w.cell? ⟨b, off + i, none⟩ = some (.int .i64 (l.getD i 0))) :
    Calls Try.prog 36 #[.slice (some ⟨b, off, none⟩) l.length cap] w fun e w' => e = .returned (.bool (decide (KeyOk l))) ∧ w' = w := by
  have d1 : decide ((l.length : Int) < 1) = false := by simp; omega
  have d2 : decide ((12 : Int) < (l.length : Int)) = false := by simp; omega
  obtain ⟨n, hn⟩ : ∃ n, l.length = n + 1 := ⟨l.length - 1, by omega⟩
  obtain ⟨z, hz⟩ : ∃ z, z = l.getD n 0 := ⟨_, rfl⟩
  have hcz : w.cell? ⟨b, off + n, none⟩ = some (.int .i64 z) := by rw [hz]; exact hc _ (by omega)
  have HZ := hide hz
  have HC := hide hc
  have HN := hide hn
  have e1 : (l.length : Int) - 1 = (n : Int) := by omega
  have hlt0 : n < l.length := by omega
  clear hc hz
  by_cases hz0 : z = 0
  · have HF := hide (show decide (KeyOk l) = false by
      simp only [decide_eq_false_iff_not]
      rintro ⟨_, _, h, _⟩
      rw [unhide HN, Nat.add_sub_cancel, ← unhide HZ] at h
      exact h hz0)
    subst hz0
    clear hn
    go_enter Try.func36, Try.ntmps36
    go_wp2
    go_ret
    exact ⟨by rw [unhide HF]; rfl, rfl⟩
  have HZ0 := hide hz0
  have dz : (z == 0) = false := by simpa using hz0
  clear hn
  go_enter Try.func36, Try.ntmps36
  go_wp2
  go_loop [3] (fun i => ∃ k : Nat, k ≤ l.length ∧ i = .int .i64 k ∧ allTo keyCh l k) (fun i => l.length - (intOf i).toNat)
  case atStart => exact ⟨0, Nat.zero_le _, rfl, fun i hi => by omega⟩
  case round =>
    obtain ⟨k, hk, rfl, ha⟩ := hrel
    have HA := hide ha
    clear ha hcz
    by_cases hlt : k < l.length
    · obtain ⟨x, hx⟩ : ∃ x, x = l.getD k 0 := ⟨_, rfl⟩
      have hcx : w.cell? ⟨b, off + k, none⟩ = some (.int .i64 x) := by rw [hx]; exact unhide HC _ hlt
      have HX := hide hx
      have hlt' : (k : Int) < (l.length : Int) := by omega
      clear hx
      by_cases hn : keyCh k x
      · have HN := hide hn
        have q1 : decide (x < 0) = false := by unfold keyCh at hn; simp; omega
        have q2 : decide (999 < x) = false := by unfold keyCh at hn; simp; omega
        clear hn
        go_wp2
        go_round
        case rel => exact ⟨k + 1, by omega, by go_num, allTo_step (unhide HA) (by rw [← unhide HX]; exact unhide HN)⟩
        case measure => simp [intOf]; omega
      · have HF := hide (show decide (KeyOk l) = false by
          simp only [decide_eq_false_iff_not]
          rintro ⟨_, _, _, h⟩
          exact hn (by rw [unhide HX]; exact h k hlt))
        have hcase : decide (x < 0) = true ∨ (decide (x < 0) = false ∧ decide (999 < x) = true) := by
          unfold keyCh at hn; simp; omega
        clear hn
        rcases hcase with q1 | ⟨q1, q2⟩
        all_goals
          go_wp2
          go_ret
          exact ⟨by rw [unhide HF]; rfl, rfl⟩
    · have e : k = l.length := by omega
      subst e
      have HF := hide (show decide (KeyOk l) = true by
        simp only [decide_eq_true_eq]
        exact ⟨h1, h8, by rw [unhide HN, Nat.add_sub_cancel, ← unhide HZ]; exact unhide HZ0, unhide HA⟩)
      go_wp2
      go_ret
      exact ⟨by rw [unhide HF]; rfl, rfl⟩

open Classical in
theorem keyS_any (w : World) (v : Value) (l : List Int) (h : Ints w v l) :
    Calls Try.prog 36 #[v] w fun e w' => e = .returned (.bool (decide (KeyOk l))) ∧ w' = w := by
  by_cases hl : l.length < 1 ∨ 12 < l.length
  · obtain ⟨a, cap, rfl, _⟩ := h.shape
    have hd : decide (KeyOk l) = false := by simp only [decide_eq_false_iff_not]; rintro ⟨_, _, _⟩; omega
    rw [hd]
    exact keyS_short w a _ cap hl
  · obtain ⟨hok, hm, ⟨rfl, rfl⟩ | ⟨x, cap, rfl, hc, rfl⟩ | ⟨b, off, cap, rfl, _, _, _, _, h5⟩⟩ := h
    · simp at hl
    · simp at hl
    · exact keyS_row w b off cap l hok (by omega) (by omega) h5

theorem keyS_yes (w : World) (v : Value) (l : List Int) (h : Ints w v l) (hn : KeyOk l) : Calls Try.prog 36 #[v] w fun e w' => e = .returned (.bool true) ∧ w' = w := by
  refine (keyS_any w v l h).mono ?_
  rintro e w' ⟨rfl, h⟩
  exact ⟨by simp [hn], h⟩
theorem keyS_no (w : World) (v : Value) (l : List Int) (h : Ints w v l) (hn : ¬ KeyOk l) : Calls Try.prog 36 #[v] w fun e w' => e = .returned (.bool false) ∧ w' = w := by
  refine (keyS_any w v l h).mono ?_
  rintro e w' ⟨rfl, h⟩
  exact ⟨by simp [hn], h⟩

def keyB (l : List Int) : Bool := decide (1 ≤ l.length) && (decide (l.length ≤ 12) && (decide (l.getD (l.length - 1) 0 ≠ 0) && allB (fun _ x => decide (0 ≤ x ∧ x ≤ 999)) l))
theorem keyB_iff (l : List Int) : keyB l = true ↔ KeyOk l := by
  unfold keyB KeyOk
  rw [Bool.and_eq_true, Bool.and_eq_true, Bool.and_eq_true, decide_eq_true_eq, decide_eq_true_eq, decide_eq_true_eq, allB_iff (p := keyCh) (fun i x => by unfold keyCh; rw [decide_eq_true_eq])]
/-- The three tests by their truth values. -/
theorem keyS_b (w : World) (v : Value) (l : List Int) (h : Ints w v l) : Calls Try.prog 36 #[v] w fun e w' => e = .returned (.bool (keyB l)) ∧ w' = w := by
  by_cases hn : KeyOk l
  · rw [(keyB_iff l).2 hn]; exact keyS_yes w v l h hn
  · rw [Bool.eq_false_iff.2 (fun k => hn ((keyB_iff l).1 k))]; exact keyS_no w v l h hn
theorem nameS_b (w : World) (v : Value) (l : List Int) (h : Byt w v l) : Calls Try.prog 37 #[v] w fun e w' => e = .returned (.bool (nameB l)) ∧ w' = w := by
  by_cases hn : NameOk l
  · rw [(nameB_iff l).2 hn]; exact nameS_yes w v l h hn
  · rw [Bool.eq_false_iff.2 (fun k => hn ((nameB_iff l).1 k))]; exact nameS_no w v l h hn
theorem textS_b (w : World) (v : Value) (l : List Int) (h : Byt w v l) : Calls Try.prog 33 #[v] w fun e w' => e = .returned (.bool (textB l)) ∧ w' = w := by
  by_cases hn : TextOk l
  · rw [(textB_iff l).2 hn]; exact textS_yes w v l h hn
  · rw [Bool.eq_false_iff.2 (fun k => hn ((textB_iff l).1 k))]; exact textS_no w v l h hn

end Go.Proofs.Ytcabolcfoijglaa
