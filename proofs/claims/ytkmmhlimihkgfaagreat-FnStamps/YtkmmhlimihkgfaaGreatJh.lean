/- Own texts joined: NameI, IdJ, IdI, OpN, KeyI, OpI, BytI, BytSO, Same, SameO, AtB. -/
import Derived.Test.YtkmmhlimihkgfaaGreatJa
import Derived.Test.YtkmmhlimihkgfaaGreatJb
import Derived.Test.YtkmmhlimihkgfaaGreatJc
import Derived.Test.YtkmmhlimihkgfaaGreatJd
import Derived.Test.YtkmmhlimihkgfaaGreatJe
import Derived.Test.YtkmmhlimihkgfaaGreatJf
import Derived.Test.YtkmmhlimihkgfaaGreatJg
import Derived.Test.YtkmmhlimihkgfaaGreatChecked

/- impl.isSmall, impl.isDigit, impl.NameOk and impl.textOk answer what the plain tests say. -/
namespace Go.Proofs.YtkmmhlimihkgfaaGreat
open Go.RowKit
set_option linter.unusedVariables false

def smallB (x : Int) : Bool := decide (97 ≤ x ∧ x ≤ 122)
def digB (x : Int) : Bool := decide (48 ≤ x ∧ x ≤ 57)
theorem smallB_yes {x : Int} (h : 97 ≤ x ∧ x ≤ 122) : smallB x = true := by unfold smallB; simpa using h
theorem smallB_no {x : Int} (h : ¬ (97 ≤ x ∧ x ≤ 122)) : smallB x = false := by unfold smallB; simpa using h
theorem digB_yes {x : Int} (h : 48 ≤ x ∧ x ≤ 57) : digB x = true := by unfold digB; simpa using h
theorem digB_no {x : Int} (h : ¬ (48 ≤ x ∧ x ≤ 57)) : digB x = false := by unfold digB; simpa using h

theorem small_any (x : Int) (w : World) : Calls Tryz.prog 119 #[.int .u8 x] w fun e w' => e = .returned (.bool (smallB x)) ∧ w' = w := by
  by_cases h1 : 97 ≤ x
  · by_cases h2 : x ≤ 122
    · have HD := hide (smallB_yes ⟨h1, h2⟩)
      go_enter Tryz.func119, Tryz.ntmps119
      go_wp2
      go_ret
      exact ⟨by rw [unhide HD]; rfl, rfl⟩
    · have HD := hide (smallB_no (x := x) (by omega))
      go_enter Tryz.func119, Tryz.ntmps119
      go_wp2
      go_ret
      exact ⟨by rw [unhide HD]; rfl, rfl⟩
  · have HD := hide (smallB_no (x := x) (by omega))
    have d1 : decide (97 ≤ x) = false := by simpa using h1
    go_enter Tryz.func119, Tryz.ntmps119
    go_wp2
    go_ret
    exact ⟨by rw [unhide HD]; rfl, rfl⟩
theorem dig_any (x : Int) (w : World) : Calls Tryz.prog 120 #[.int .u8 x] w fun e w' => e = .returned (.bool (digB x)) ∧ w' = w := by
  by_cases h1 : 48 ≤ x
  · by_cases h2 : x ≤ 57
    · have HD := hide (digB_yes ⟨h1, h2⟩)
      go_enter Tryz.func120, Tryz.ntmps120
      go_wp2
      go_ret
      exact ⟨by rw [unhide HD]; rfl, rfl⟩
    · have HD := hide (digB_no (x := x) (by omega))
      go_enter Tryz.func120, Tryz.ntmps120
      go_wp2
      go_ret
      exact ⟨by rw [unhide HD]; rfl, rfl⟩
  · have HD := hide (digB_no (x := x) (by omega))
    have d1 : decide (48 ≤ x) = false := by simpa using h1
    go_enter Tryz.func120, Tryz.ntmps120
    go_wp2
    go_ret
    exact ⟨by rw [unhide HD]; rfl, rfl⟩

def standB (x : Int) : Bool := decide (32 ≤ x ∧ x ≤ 126)
theorem standB_yes {x : Int} (h : 32 ≤ x ∧ x ≤ 126) : standB x = true := by unfold standB; simpa using h
theorem standB_no {x : Int} (h : ¬ (32 ≤ x ∧ x ≤ 126)) : standB x = false := by unfold standB; simpa using h
theorem stand_any (x : Int) (w : World) : Calls Tryz.prog 118 #[.int .u8 x] w fun e w' => e = .returned (.bool (standB x)) ∧ w' = w := by
  by_cases h1 : 32 ≤ x
  · by_cases h2 : x ≤ 126
    · have HD := hide (standB_yes ⟨h1, h2⟩)
      go_enter Tryz.func118, Tryz.ntmps118
      go_wp2
      go_ret
      exact ⟨by rw [unhide HD]; rfl, rfl⟩
    · have HD := hide (standB_no (x := x) (by omega))
      go_enter Tryz.func118, Tryz.ntmps118
      go_wp2
      go_ret
      exact ⟨by rw [unhide HD]; rfl, rfl⟩
  · have HD := hide (standB_no (x := x) (by omega))
    have d1 : decide (32 ≤ x) = false := by simpa using h1
    go_enter Tryz.func118, Tryz.ntmps118
    go_wp2
    go_ret
    exact ⟨by rw [unhide HD]; rfl, rfl⟩

theorem nameI_short (w : World) (a : Option Addr) (n cap : Nat) (h : n < 1 ∨ 8 < n) :
    Calls Tryz.prog 83 #[.slice a n cap] w fun e w' => e = .returned (.bool false) ∧ w' = w := by
  by_cases h1 : n < 1
  · have h1' : (n : Int) < 1 := by omega
    go_enter Tryz.func83, Tryz.ntmps83
    go_wp2_with fail
    go_ret
    exact ⟨rfl, rfl⟩
  · have h1' : decide ((n : Int) < 1) = false := by simp; omega
    have h2 : (8 : Int) < (n : Int) := by omega
    go_enter Tryz.func83, Tryz.ntmps83
    go_wp2_with fail
    go_ret
    exact ⟨rfl, rfl⟩

open Classical in
set_option maxHeartbeats 1600000 in
theorem nameI_row (w : World) (b off cap : Nat) (l : List Int) (hok : okB l) (h1 : 1 ≤ l.length) (h8 : l.length ≤ 8)
    (hc : ∀ i, i < l.length → w.cell? ⟨b, off + i, none⟩ = some (.int .u8 (l.getD i 0))) :
    Calls Tryz.prog 83 #[.slice (some ⟨b, off, none⟩) l.length cap] w fun e w' => e = .returned (.bool (decide (NameOk l))) ∧ w' = w := by
  have d1 : decide ((l.length : Int) < 1) = false := by simp; omega
  have d2 : decide ((8 : Int) < (l.length : Int)) = false := by simp; omega
  have hl0 : (0 : Int) < (l.length : Int) := by omega
  obtain ⟨y, hy⟩ : ∃ y, y = l.getD 0 0 := ⟨_, rfl⟩
  have hcy : w.cell? ⟨b, off, none⟩ = some (.int .u8 y) := by rw [hy]; exact hc 0 (by omega)
  have HY := hide hy
  clear hy
  by_cases hs : 97 ≤ y ∧ y ≤ 122
  · have sy := smallB_yes hs
    go_enter Tryz.func83, Tryz.ntmps83
    go_wp2_with (go_at_call 119; refine (small_any y w).mono ?_; rintro e w' ⟨rfl, rfl⟩)
    go_loop [22] (fun i => ∃ k : Nat, k ≤ l.length ∧ i = .int .i64 k ∧ allTo nameCh l k) (fun i => l.length - (intOf i).toNat)
    case atStart => exact ⟨0, Nat.zero_le _, rfl, fun i hi => by omega⟩
    case round =>
      obtain ⟨k, hk, rfl, ha⟩ := hrel
      have HA := hide ha
      clear ha
      by_cases hlt : k < l.length
      · obtain ⟨x, hx⟩ : ∃ x, x = l.getD k 0 := ⟨_, rfl⟩
        have hcx : w'.cell? ⟨b, off + k, none⟩ = some (.int .u8 x) := by rw [hx]; exact hc _ hlt
        have HX := hide hx
        have hlt' : (k : Int) < (l.length : Int) := by omega
        clear hc hcy sy hx
        by_cases hn : 97 ≤ x ∧ x ≤ 122
        · have HN := hide (show nameCh k x from .inl hn)
          have sx := smallB_yes hn
          clear hn
          go_wp2_with (go_at_call 119; refine (small_any x _).mono ?_; rintro e w' ⟨rfl, rfl⟩)
          go_round
          case rel => exact ⟨k + 1, by omega, by go_num, allTo_step (unhide HA) (by rw [← unhide HX]; exact unhide HN)⟩
          case measure => simp [intOf]; omega
        · have sx := smallB_no hn
          by_cases hd : 48 ≤ x ∧ x ≤ 57
          · have hk0 : 0 < k := by
              by_cases e : k = 0
              · subst e; exact absurd hs (by rw [unhide HY, ← unhide HX]; exact hn)
              · omega
            have HN := hide (show nameCh k x from .inr ⟨hk0, hd⟩)
            have sd := digB_yes hd
            clear hn hd
            go_wp2_with (first | (go_at_call 119; refine (small_any x _).mono ?_; rintro e w' ⟨rfl, rfl⟩) | (go_at_call 120; refine (dig_any x _).mono ?_; rintro e w' ⟨rfl, rfl⟩))
            go_round
            case rel => exact ⟨k + 1, by omega, by go_num, allTo_step (unhide HA) (by rw [← unhide HX]; exact unhide HN)⟩
            case measure => simp [intOf]; omega
          · have sd := digB_no hd
            have HF := hide (show decide (NameOk l) = false by
              simp only [decide_eq_false_iff_not]
              rintro ⟨_, _, h⟩
              have := h k hlt
              rw [← unhide HX] at this
              rcases this with h | ⟨_, h⟩
              · exact hn h
              · exact hd h)
            clear hn hd
            go_wp2_with (first | (go_at_call 119; refine (small_any x _).mono ?_; rintro e w' ⟨rfl, rfl⟩) | (go_at_call 120; refine (dig_any x _).mono ?_; rintro e w' ⟨rfl, rfl⟩))
            go_ret
            exact ⟨by rw [unhide HF]; rfl, rfl⟩
      · have e : k = l.length := by omega
        subst e
        have HF := hide (show decide (NameOk l) = true by simp only [decide_eq_true_eq]; exact ⟨h1, h8, unhide HA⟩)
        clear hc
        go_wp2_with fail
        go_ret
        exact ⟨by rw [unhide HF]; rfl, rfl⟩
  · have sy := smallB_no hs
    have HF := hide (show decide (NameOk l) = false by
      simp only [decide_eq_false_iff_not]
      rintro ⟨_, _, h⟩
      have := h 0 (by omega)
      rw [← unhide HY] at this
      rcases this with h | ⟨h, _⟩
      · exact hs h
      · omega)
    clear hc hs
    go_enter Tryz.func83, Tryz.ntmps83
    go_wp2_with (go_at_call 119; refine (small_any y w).mono ?_; rintro e w' ⟨rfl, rfl⟩)
    go_ret
    exact ⟨by rw [unhide HF]; rfl, rfl⟩

open Classical in
theorem nameI_any (w : World) (v : Value) (l : List Int) (h : Byt w v l) :
    Calls Tryz.prog 83 #[v] w fun e w' => e = .returned (.bool (decide (NameOk l))) ∧ w' = w := by
  by_cases hl : l.length < 1 ∨ 8 < l.length
  · obtain ⟨a, cap, rfl, _⟩ := h.shape
    have hd : decide (NameOk l) = false := by simp only [decide_eq_false_iff_not]; rintro ⟨_, _, _⟩; omega
    rw [hd]
    exact nameI_short w a _ cap hl
  · obtain ⟨hok, hm, ⟨rfl, rfl⟩ | ⟨x, cap, rfl, hc, rfl⟩ | ⟨b, off, cap, rfl, _, _, _, _, h5⟩⟩ := h
    · simp at hl
    · simp at hl
    · exact nameI_row w b off cap l hok (by omega) (by omega) h5

theorem nameI_yes (w : World) (v : Value) (l : List Int) (h : Byt w v l) (hn : NameOk l) : Calls Tryz.prog 83 #[v] w fun e w' => e = .returned (.bool true) ∧ w' = w := by
  refine (nameI_any w v l h).mono ?_
  rintro e w' ⟨rfl, h⟩
  exact ⟨by simp [hn], h⟩
theorem nameI_no (w : World) (v : Value) (l : List Int) (h : Byt w v l) (hn : ¬ NameOk l) : Calls Tryz.prog 83 #[v] w fun e w' => e = .returned (.bool false) ∧ w' = w := by
  refine (nameI_any w v l h).mono ?_
  rintro e w' ⟨rfl, h⟩
  exact ⟨by simp [hn], h⟩
open Classical in
set_option maxHeartbeats 1600000 in
theorem textI_any (w : World) (v : Value) (l : List Int) (h : Byt w v l) :
    Calls Tryz.prog 82 #[v] w fun e w' => e = .returned (.bool (decide (TextOk l))) ∧ w' = w := by
  by_cases hl : 30 < l.length
  · obtain ⟨a, cap, rfl, _⟩ := h.shape
    have HD := hide (show decide (TextOk l) = false by simp only [decide_eq_false_iff_not]; rintro ⟨_, _⟩; omega)
    have d2 : (30 : Int) < (l.length : Int) := by omega
    go_enter Tryz.func82, Tryz.ntmps82
    go_wp2
    go_ret
    exact ⟨by rw [unhide HD]; rfl, rfl⟩
  have d2 : ¬ (30 : Int) < (l.length : Int) := by omega
  by_cases h0 : l = []
  · obtain ⟨a, cap, rfl, _⟩ := h.shape
    subst h0
    have HD := hide (show decide (TextOk []) = true by simp only [decide_eq_true_eq]; exact ⟨by simp, fun i hi => by simp at hi⟩)
    go_enter Tryz.func82, Tryz.ntmps82
    go_wp2
    refine wp_loop_rounds 1 ?_
    rw [rounds_succ]
    go_wp2
    go_ret
    exact ⟨by rw [unhide HD]; rfl, rfl⟩
  obtain ⟨hok, hm, ⟨_, e⟩ | ⟨_, _, _, _, e⟩ | ⟨b, off, cap, rfl, _, _, _, _, hc⟩⟩ := h
  · exact absurd e h0
  · exact absurd e h0
  go_enter Tryz.func82, Tryz.ntmps82
  go_wp2
  go_loop [10] (fun i => ∃ k : Nat, k ≤ l.length ∧ i = .int .i64 k ∧ allTo textCh l k) (fun i => l.length - (intOf i).toNat)
  case atStart => exact ⟨0, Nat.zero_le _, rfl, fun i hi => by omega⟩
  case round =>
    obtain ⟨k, hk, rfl, ha⟩ := hrel
    have HA := hide ha
    clear ha
    by_cases hlt : k < l.length
    · obtain ⟨x, hx⟩ : ∃ x, x = l.getD k 0 := ⟨_, rfl⟩
      have hcx : w.cell? ⟨b, off + k, none⟩ = some (.int .u8 x) := by rw [hx]; exact hc _ hlt
      have HX := hide hx
      have hlt' : (k : Int) < (l.length : Int) := by omega
      clear hc hx
      by_cases hn : textCh k x
      · have HN := hide hn
        have sx := standB_yes (x := x) (by unfold textCh at hn; omega)
        clear hn
        go_wp2_with (go_at_call 118; refine (stand_any x _).mono ?_; rintro e w' ⟨rfl, rfl⟩)
        go_round
        case rel => exact ⟨k + 1, by omega, by go_num, allTo_step (unhide HA) (by rw [← unhide HX]; exact unhide HN)⟩
        case measure => simp [intOf]; omega
      · have HF := hide (show decide (TextOk l) = false by
          simp only [decide_eq_false_iff_not]
          rintro ⟨_, h⟩
          exact hn (by rw [unhide HX]; exact h k hlt))
        have sx := standB_no (x := x) (by unfold textCh at hn; omega)
        clear hn
        go_wp2_with (go_at_call 118; refine (stand_any x _).mono ?_; rintro e w' ⟨rfl, rfl⟩)
        go_ret
        exact ⟨by rw [unhide HF]; rfl, rfl⟩
    · have e : k = l.length := by omega
      subst e
      have HF := hide (show decide (TextOk l) = true by simp only [decide_eq_true_eq]; exact ⟨by omega, unhide HA⟩)
      clear hc
      go_wp2
      go_ret
      exact ⟨by rw [unhide HF]; rfl, rfl⟩

theorem textI_yes (w : World) (v : Value) (l : List Int) (h : Byt w v l) (hn : TextOk l) : Calls Tryz.prog 82 #[v] w fun e w' => e = .returned (.bool true) ∧ w' = w := by
  refine (textI_any w v l h).mono ?_
  rintro e w' ⟨rfl, h⟩
  exact ⟨by simp [hn], h⟩
theorem textI_no (w : World) (v : Value) (l : List Int) (h : Byt w v l) (hn : ¬ TextOk l) : Calls Tryz.prog 82 #[v] w fun e w' => e = .returned (.bool false) ∧ w' = w := by
  refine (textI_any w v l h).mono ?_
  rintro e w' ⟨rfl, h⟩
  exact ⟨by simp [hn], h⟩

end Go.Proofs.YtkmmhlimihkgfaaGreat

/- impl.stampOk, impl.idOk, impl.NameOk, impl.textOk, impl.valueOk, impl.loneOk answer what the plain tests say. -/
namespace Go.Proofs.YtkmmhlimihkgfaaGreat
open Go.RowKit
set_option linter.unusedVariables false
set_option maxRecDepth 100000

def stampB (n r : Int) : Bool := decide (1 ≤ n) && (decide (n ≤ 1000000) && (decide (0 ≤ r) && decide (r < 8)))
theorem stampB_cases (n r : Int) :
    (stampB n r = false ∧ decide (1 ≤ n) = false) ∨
    (stampB n r = false ∧ decide (1 ≤ n) = true ∧ decide (n ≤ 1000000) = false) ∨
    (stampB n r = false ∧ decide (1 ≤ n) = true ∧ decide (n ≤ 1000000) = true ∧ decide (0 ≤ r) = false) ∨
    (stampB n r = true ∧ decide (1 ≤ n) = true ∧ decide (n ≤ 1000000) = true ∧ decide (0 ≤ r) = true ∧ decide (r < 8) = true) ∨
    (stampB n r = false ∧ decide (1 ≤ n) = true ∧ decide (n ≤ 1000000) = true ∧ decide (0 ≤ r) = true ∧ decide (r < 8) = false) := by
  unfold stampB
  cases decide (1 ≤ n) <;> cases decide (n ≤ 1000000) <;> cases decide (0 ≤ r) <;> cases decide (r < 8) <;> simp

set_option maxHeartbeats 1600000 in
theorem stampI_any (w : World) (n r : Int) :
    Calls Tryz.prog 85 #[.agg #[.int .i64 n, .int .i64 r]] w fun e w' => e = .returned (.bool (stampB n r)) ∧ w' = w.alloc (.cells #[.int .i64 n, .int .i64 r] 25) := by
  rcases stampB_cases n r with ⟨h, q1⟩ | ⟨h, q1, q2⟩ | ⟨h, q1, q2, q3⟩ | ⟨h, q1, q2, q3, q4⟩ | ⟨h, q1, q2, q3, q4⟩
  all_goals
    have HE := hide h
    clear h
    go_enter Tryz.func85, Tryz.ntmps85
    go_wp2
    go_ret
    exact ⟨by rw [unhide HE]; rfl, rfl⟩

theorem idB_stamp (n r : Int) :
    (stampB n r = true ∧ idB n r = true) ∨
    (stampB n r = false ∧ idB n r = false ∧ (n == 0) = false) ∨
    (stampB n r = false ∧ idB n r = false ∧ n = 0 ∧ (n == 0) = true ∧ decide (0 ≤ r) = false) ∨
    (stampB n r = false ∧ idB n r = decide (r ≤ 121) ∧ n = 0 ∧ (n == 0) = true ∧ decide (0 ≤ r) = true) := by
  unfold stampB idB
  by_cases a : n = 0
  · subst a
    by_cases b : 0 ≤ r
    · right; right; right
      refine ⟨by simp, ?_, rfl, rfl, by simpa using b⟩
      rw [Bool.eq_iff_iff]
      simp
      omega
    · right; right; left
      refine ⟨by simp, ?_, rfl, rfl, by simpa using b⟩
      rw [Bool.eq_false_iff]
      simp only [ne_eq, Bool.and_eq_true, Bool.or_eq_true, decide_eq_true_eq]
      omega
  · by_cases c : 1 ≤ n ∧ n ≤ 1000000 ∧ 0 ≤ r ∧ r < 8
    · left
      simp only [Bool.and_eq_true, Bool.or_eq_true, decide_eq_true_eq]
      omega
    · right; left
      refine ⟨?_, ?_, by simpa using a⟩
      · rw [Bool.eq_false_iff]
        simp only [ne_eq, Bool.and_eq_true, decide_eq_true_eq]
        omega
      · rw [Bool.eq_false_iff]
        simp only [ne_eq, Bool.and_eq_true, Bool.or_eq_true, decide_eq_true_eq]
        omega

set_option maxHeartbeats 1600000 in
theorem idI_any (w : World) (n r : Int) :
    Calls Tryz.prog 79 #[.agg #[.int .i64 n, .int .i64 r]] w fun e w' => e = .returned (.bool (idB n r)) ∧ w' = (w.alloc (.cells #[.int .i64 n, .int .i64 r] 25)).alloc (.cells #[.int .i64 n, .int .i64 r] 25) := by
  have HS := hide (stampI_any (w.alloc (.cells #[.int .i64 n, .int .i64 r] 25)) n r)
  rcases idB_stamp n r with ⟨h, k⟩ | ⟨h, k, q1⟩ | ⟨h, k, rfl, q1, q2⟩ | ⟨h, k, rfl, q1, q2⟩
  all_goals
    rw [h] at HS
    have HE := hide k
    clear h k
    go_enter Tryz.func79, Tryz.ntmps79
    go_wp2_with fail
    refine (unhide HS).mono ?_
    rintro e w1 ⟨rfl, rfl⟩
    go_wp2
    go_ret
    exact ⟨by rw [unhide HE]; rfl, rfl⟩

theorem nameI_b (w : World) (v : Value) (l : List Int) (h : Byt w v l) : Calls Tryz.prog 83 #[v] w fun e w' => e = .returned (.bool (nameB l)) ∧ w' = w := by
  by_cases hn : NameOk l
  · rw [(nameB_iff l).2 hn]; exact nameI_yes w v l h hn
  · rw [Bool.eq_false_iff.2 (fun k => hn ((nameB_iff l).1 k))]; exact nameI_no w v l h hn
theorem textI_b (w : World) (v : Value) (l : List Int) (h : Byt w v l) : Calls Tryz.prog 82 #[v] w fun e w' => e = .returned (.bool (textB l)) ∧ w' = w := by
  by_cases hn : TextOk l
  · rw [(textB_iff l).2 hn]; exact textI_yes w v l h hn
  · rw [Bool.eq_false_iff.2 (fun k => hn ((textB_iff l).1 k))]; exact textI_no w v l h hn

def valB (t : List Int) (gone : Bool) : Bool := if gone then (t.length : Int) == 0 else textB t
set_option maxHeartbeats 1600000 in
theorem valI_any (w : World) (v : Value) (t : List Int) (gone : Bool) (h : Byt w v t) :
    Calls Tryz.prog 84 #[v, .bool gone] w fun e w' => e = .returned (.bool (valB t gone)) ∧ w' = w := by
  have HT := hide (textI_b w v t h)
  obtain ⟨a, c, rfl, _, _⟩ := h.shape
  clear h
  cases gone
  · go_enter Tryz.func84, Tryz.ntmps84
    go_wp2_with fail
    refine (unhide HT).mono ?_
    rintro e w1 ⟨rfl, rfl⟩
    go_wp2
    go_ret
    exact ⟨rfl, rfl⟩
  · go_enter Tryz.func84, Tryz.ntmps84
    go_wp2_with fail
    go_ret
    exact ⟨rfl, rfl⟩

/-- Elem, Name and Text of a node without Kids. -/
def loneB (k : Int) (n t : List Int) : Bool := if k = 0 then nameB n && (t.length : Int) == 0 else if k = 1 then (n.length : Int) == 0 && textB t else false

theorem attrsI_none (w : World) : Calls Tryz.prog 138 #[.slice none 0 0] w fun e w' => e = .returned (.bool true) ∧ w' = w := by
  go_enter Tryz.func138, Tryz.ntmps138
  go_wp2
  refine wp_loop_rounds 1 ?_
  rw [rounds_succ]
  go_wp2
  go_ret
  exact ⟨rfl, rfl⟩

set_option maxHeartbeats 3200000 in
theorem partI_lone (w : World) (k : Int) (vn vt : Value) (n t : List Int) (g : Nat) (hn : Byt w vn n) (ht : Byt w vt t) :
    Calls Tryz.prog 117 #[.agg #[.int .i64 k, vn, vt, .slice none 0 0, .slice none 0 0], .pointer (some ⟨g, 0, none⟩)] w fun e w' => e = .returned (.bool (loneB k n t)) ∧ w' = w.alloc (.cells #[.int .i64 k, vn, vt, .slice none 0 0, .slice none 0 0] 61) := by
  have HA := hide ((Below.refl w.heap.size w).alloc (Nat.le_refl _) (.cells #[.int .i64 k, vn, vt, .slice none 0 0, .slice none 0 0] 61))
  have HN := hide (nameI_b _ vn n (hn.keep (unhide HA)))
  have HT := hide (textI_b _ vt t (ht.keep (unhide HA)))
  obtain ⟨a1, c1, rfl, _, _⟩ := hn.shape
  obtain ⟨a2, c2, rfl, _, _⟩ := ht.shape
  clear hn ht
  by_cases k0 : k = 0
  · subst k0
    have HE := hide (show loneB 0 n t = (nameB n && (t.length : Int) == 0) from rfl)
    generalize nameB n = x at *
    generalize n.length = ln at *
    generalize t.length = lt at *
    cases x
    · go_enter Tryz.func117, Tryz.ntmps117
      go_wp2_with fail
      refine (unhide HN).mono ?_
      rintro e w1 ⟨rfl, rfl⟩
      go_wp2_with fail
      go_ret
      exact ⟨by rw [unhide HE]; rfl, rfl⟩
    · by_cases h0 : lt = 0
      · subst h0
        go_enter Tryz.func117, Tryz.ntmps117
        go_wp2_with fail
        refine (unhide HN).mono ?_
        rintro e w1 ⟨rfl, rfl⟩
        go_wp2_with fail
        refine (attrsI_none _).mono ?_
        rintro e w1 ⟨rfl, rfl⟩
        go_wp2_with fail
        go_ret
        exact ⟨by rw [unhide HE]; rfl, rfl⟩
      · have h0' : ((lt : Int) == 0) = false := by simpa using h0
        go_enter Tryz.func117, Tryz.ntmps117
        go_wp2_with fail
        refine (unhide HN).mono ?_
        rintro e w1 ⟨rfl, rfl⟩
        go_wp2_with fail
        go_ret
        exact ⟨by rw [unhide HE, h0']; rfl, rfl⟩
  · by_cases k1 : k = 1
    · subst k1
      have HE := hide (show loneB 1 n t = ((n.length : Int) == 0 && textB t) from rfl)
      generalize textB t = x at *
      generalize n.length = ln at *
      generalize t.length = lt at *
      by_cases h0 : ln = 0
      · subst h0
        cases x
        · go_enter Tryz.func117, Tryz.ntmps117
          go_wp2_with fail
          refine (unhide HT).mono ?_
          rintro e w1 ⟨rfl, rfl⟩
          go_wp2_with fail
          go_ret
          exact ⟨by rw [unhide HE]; rfl, rfl⟩
        · go_enter Tryz.func117, Tryz.ntmps117
          go_wp2_with fail
          refine (unhide HT).mono ?_
          rintro e w1 ⟨rfl, rfl⟩
          go_wp2_with fail
          go_ret
          exact ⟨by rw [unhide HE]; rfl, rfl⟩
      · have h0' : ((ln : Int) == 0) = false := by simpa using h0
        go_enter Tryz.func117, Tryz.ntmps117
        go_wp2_with fail
        go_ret
        exact ⟨by rw [unhide HE, h0']; rfl, rfl⟩
    · have HE := hide (show loneB k n t = false by unfold loneB; rw [if_neg k0, if_neg k1])
      have q0 : (k == 0) = false := by simpa using k0
      have q1 : (k == 1) = false := by simpa using k1
      go_enter Tryz.func117, Tryz.ntmps117
      go_wp2_with fail
      go_ret
      exact ⟨by rw [unhide HE]; rfl, rfl⟩

set_option maxHeartbeats 3200000 in
theorem loneI_any (w : World) (k : Int) (vn vt : Value) (n t : List Int) (hn : Byt w vn n) (ht : Byt w vt t) :
    Calls Tryz.prog 81 #[.agg #[.int .i64 k, vn, vt, .slice none 0 0, .slice none 0 0]] w fun e w' => e = .returned (.bool (loneB k n t)) ∧ w' = ((w.alloc (.cells #[.int .i64 k, vn, vt, .slice none 0 0, .slice none 0 0] 61)).alloc (.cells #[.int .u32 0, .int .i32 0, .int .u32 0, .map none] 141)).alloc (.cells #[.int .i64 k, vn, vt, .slice none 0 0, .slice none 0 0] 61) := by
  have HN := hide (fun W (h : Below w.heap.size w W) => hn.keep h)
  have HT := hide (fun W (h : Below w.heap.size w W) => ht.keep h)
  obtain ⟨a1, c1, rfl, _, _⟩ := hn.shape
  obtain ⟨a2, c2, rfl, _, _⟩ := ht.shape
  clear hn ht
  go_enter Tryz.func81, Tryz.ntmps81
  go_wp2_with fail
  have HB := hide (((Below.refl w.heap.size w).alloc (Nat.le_refl _) (.cells #[.int .i64 k, .slice a1 n.length c1, .slice a2 t.length c2, .slice none 0 0, .slice none 0 0] 61)).alloc (by simp) (.cells #[.int .u32 0, .int .i32 0, .int .u32 0, .map none] 141))
  refine (partI_lone _ k _ _ n t _ (unhide HN _ (unhide HB)) (unhide HT _ (unhide HB))).mono ?_
  rintro e w1 ⟨rfl, rfl⟩
  go_wp2
  go_ret
  exact ⟨rfl, rfl⟩

end Go.Proofs.YtkmmhlimihkgfaaGreat

/- impl.isZeroOp answers what the plain test says. -/
namespace Go.Proofs.YtkmmhlimihkgfaaGreat
open Go.RowKit
set_option linter.unusedVariables false
set_option maxRecDepth 100000

def zeroOpB (o : OpV) : Bool := (o.kind == 0) && (zeroB o.atN o.atR && (zeroB o.nodeN o.nodeR && (zeroB o.parN o.parR && ((o.key.length : Int) == 0 && ((o.elem == 0) && ((o.name.length : Int) == 0 && ((o.text.length : Int) == 0 && !o.gone)))))))

set_option maxHeartbeats 3200000 in
theorem zeroI_any (w : World) (o : OpV) (a1 a2 a3 : Option Addr) (c1 c2 c3 : Nat) :
    Calls Tryz.prog 86 #[opVal o (.slice a1 o.key.length c1) (.slice a2 o.name.length c2) (.slice a3 o.text.length c3)] w fun e w' => e = .returned (.bool (zeroOpB o)) ∧ Below w.heap.size w w' := by
  unfold opVal
  go_enter Tryz.func86, Tryz.ntmps86
  go_wp2_with fail
  all_goals
    go_ret
    exact ⟨by simp [zeroOpB, zeroB, *], (Below.refl w.heap.size w).alloc (Nat.le_refl _) _⟩
end Go.Proofs.YtkmmhlimihkgfaaGreat

/- The test of an operation, the two ways round, in plain mathematics. -/
namespace Go.Proofs.YtkmmhlimihkgfaaGreat
set_option linter.unusedVariables false

theorem headB_eq (o : OpV) : opHeadB o = (decide (o.kind < 0) || (decide (3 < o.kind) || (!stampB o.atN o.atR || !textB o.text))) := by
  unfold opHeadB stampB
  have e1 : decide (1 ≤ o.atN) = !decide (o.atN < 1) := by rw [Bool.eq_iff_iff]; simp
  have e2 : decide (o.atN ≤ 1000000) = !decide (1000000 < o.atN) := by rw [Bool.eq_iff_iff]; simp
  have e3 : decide (0 ≤ o.atR) = !decide (o.atR < 0) := by rw [Bool.eq_iff_iff]; simp
  have e4 : decide (o.atR < 8) = !decide (8 ≤ o.atR) := by rw [Bool.eq_iff_iff]; simp
  rw [e1, e2, e3, e4]
  cases decide (o.kind < 0) <;> cases decide (3 < o.kind) <;> cases decide (o.atN < 1) <;> cases decide (1000000 < o.atN) <;> cases decide (o.atR < 0) <;> cases decide (8 ≤ o.atR) <;> rfl
theorem text_none {t : List Int} (h : ((t.length : Int) == 0) = true) : textB t = true := by
  have : t = [] := by simpa using h
  subst this
  rfl
theorem len_nil : ((([] : List Int).length : Int) == 0) = true := rfl
theorem zero_zero : zeroB 0 0 = true := rfl

def rest0 (o : OpV) : OpV := ⟨0, 0, 0, o.nodeN, o.nodeR, 0, 0, [], 0, [], [], o.gone⟩
def rest1 (o : OpV) : OpV := ⟨0, 0, 0, 0, 0, 0, 0, [], o.elem, o.name, o.text, o.gone⟩
def rest2 (o : OpV) : OpV := ⟨0, 0, 0, 0, 0, o.parN, o.parR, o.key, o.elem, o.name, [], o.gone⟩
def rest3 (o : OpV) : OpV := ⟨0, 0, 0, 0, 0, o.parN, o.parR, o.key, o.elem, [], [], false⟩

theorem opB_0 {o : OpV} (h : o.kind = 0) : opB o = (stampB o.atN o.atR && ((idB o.parN o.parR && (keyB o.key && loneB o.elem o.name o.text)) && zeroOpB (rest0 o))) := by
  unfold opB
  rw [headB_eq, h]
  simp only [Int.lt_irrefl, decide_false, Bool.false_or, beq_self_eq_true, if_true, show decide ((3 : Int) < 0) = false from rfl]
  unfold opNewB zeroOpB rest0
  simp only [zero_zero, len_nil, beq_self_eq_true, Bool.true_and]
  unfold loneB
  cases hs : stampB o.atN o.atR
  · simp
  cases idB o.parN o.parR
  · simp
  cases keyB o.key
  · simp
  cases zeroB o.nodeN o.nodeR
  · simp
  cases o.gone
  · by_cases e1 : o.elem = 1
    · rw [e1]
      cases textB o.text <;> simp
    · by_cases e0 : o.elem = 0
      · rw [e0]
        cases ht : textB o.text
        · cases hl : ((o.text.length : Int) == 0)
          · simp
          · rw [text_none hl] at ht; cases ht
        · simp
      · simp [e0, e1]
  · simp

theorem opB_1 {o : OpV} (h : o.kind = 1) : opB o = (stampB o.atN o.atR && ((idB o.nodeN o.nodeR && (idB o.parN o.parR && keyB o.key)) && zeroOpB (rest1 o))) := by
  unfold opB
  rw [headB_eq, h]
  simp only [show decide ((1 : Int) < 0) = false from rfl, Bool.false_or, show ((1 : Int) == 0) = false from rfl, show ((1 : Int) == 1) = true from rfl, show decide ((3 : Int) < 1) = false from rfl, if_true]
  unfold opMoveB zeroOpB rest1
  simp only [zero_zero, len_nil, beq_self_eq_true, Bool.true_and]
  cases hs : stampB o.atN o.atR
  · simp
  cases idB o.nodeN o.nodeR
  · simp
  cases idB o.parN o.parR
  · simp
  cases keyB o.key
  · simp
  cases hl : ((o.text.length : Int) == 0)
  · simp
  · rw [text_none hl]; simp

theorem opB_2 {o : OpV} (h : o.kind = 2) : opB o = (stampB o.atN o.atR && ((idB o.nodeN o.nodeR && textB o.text) && zeroOpB (rest2 o))) := by
  unfold opB
  rw [headB_eq, h]
  simp only [show decide ((2 : Int) < 0) = false from rfl, Bool.false_or, show ((2 : Int) == 0) = false from rfl, show ((2 : Int) == 1) = false from rfl, show decide ((3 : Int) < 2) = false from rfl]
  unfold opRestB zeroOpB rest2
  rw [h]
  simp only [zero_zero, len_nil, beq_self_eq_true, Bool.true_and, if_true]
  have ek : decide (0 < (o.key.length : Int)) = !((o.key.length : Int) == 0) := by rw [Bool.eq_iff_iff]; simp [Nat.pos_iff_ne_zero]
  rw [ek]
  cases hs : stampB o.atN o.atR
  · simp
  cases idB o.nodeN o.nodeR
  · simp
  cases textB o.text
  · simp
  cases zeroB o.parN o.parR
  · simp
  cases ((o.key.length : Int) == 0)
  · simp
  cases (o.elem == 0)
  · simp
  simp

theorem opB_3 {o : OpV} (h : o.kind = 3) : opB o = (stampB o.atN o.atR && ((idB o.nodeN o.nodeR && (nameB o.name && valB o.text o.gone)) && zeroOpB (rest3 o))) := by
  unfold opB
  rw [headB_eq, h]
  simp only [show decide ((3 : Int) < 0) = false from rfl, Bool.false_or, show ((3 : Int) == 0) = false from rfl, show ((3 : Int) == 1) = false from rfl, show decide ((3 : Int) < 3) = false from rfl]
  unfold opRestB zeroOpB rest3 valB
  rw [h]
  simp only [zero_zero, len_nil, beq_self_eq_true, Bool.true_and, show ((3 : Int) == 2) = false from rfl]
  have ek : decide (0 < (o.key.length : Int)) = !((o.key.length : Int) == 0) := by rw [Bool.eq_iff_iff]; simp [Nat.pos_iff_ne_zero]
  rw [ek]
  cases hs : stampB o.atN o.atR
  · simp
  cases idB o.nodeN o.nodeR
  · simp
  cases zeroB o.parN o.parR
  · simp
  cases ((o.key.length : Int) == 0)
  · simp
  cases (o.elem == 0)
  · simp
  cases nameB o.name
  · simp
  cases o.gone
  · cases textB o.text <;> simp
  · cases hl : ((o.text.length : Int) == 0)
    · simp
    · rw [text_none hl]; simp

theorem opB_4 {o : OpV} (h0 : o.kind ≠ 0) (h1 : o.kind ≠ 1) (h2 : o.kind ≠ 2) (h3 : o.kind ≠ 3) : opB o = false := by
  have : (decide (o.kind < 0) || decide (3 < o.kind)) = true := by
    simp only [Bool.or_eq_true, decide_eq_true_eq]
    omega
  unfold opB
  rw [headB_eq, ← Bool.or_assoc, this]
  rfl
end Go.Proofs.YtkmmhlimihkgfaaGreat

/- impl.keyOk answers what the plain test says. -/
namespace Go.Proofs.YtkmmhlimihkgfaaGreat
open Go.RowKit
set_option linter.unusedVariables false
set_option maxRecDepth 100000

theorem keyI_short (w : World) (a : Option Addr) (n cap : Nat) (h : n < 1 ∨ 12 < n) :
    Calls Tryz.prog 80 #[.slice a n cap] w fun e w' => e = .returned (.bool false) ∧ w' = w := by
  by_cases h1 : n < 1
  · have h1' : (n : Int) < 1 := by omega
    go_enter Tryz.func80, Tryz.ntmps80
    go_wp2
    go_ret
    exact ⟨rfl, rfl⟩
  · have h1' : decide ((n : Int) < 1) = false := by simp; omega
    have h2 : (12 : Int) < (n : Int) := by omega
    go_enter Tryz.func80, Tryz.ntmps80
    go_wp2
    go_ret
    exact ⟨rfl, rfl⟩

open Classical in
set_option maxHeartbeats 1600000 in
theorem keyI_row (w : World) (b off cap : Nat) (l : List Int) (hok : okZ l) (h1 : 1 ≤ l.length) (h8 : l.length ≤ 12)
    (hc : ∀ i, i < l.length → w.cell? ⟨b, off + i, none⟩ = some (.int .i64 (l.getD i 0))) :
    Calls Tryz.prog 80 #[.slice (some ⟨b, off, none⟩) l.length cap] w fun e w' => e = .returned (.bool (decide (KeyOk l))) ∧ w' = w := by
  have d1 : decide ((l.length : Int) < 1) = false := by simp; omega
  have d2 : decide ((12 : Int) < (l.length : Int)) = false := by simp; omega
  obtain ⟨n, hn⟩ : ∃ n, l.length = n + 1 := ⟨l.length - 1, by omega⟩
  obtain ⟨z, hz⟩ : ∃ z, z = l.getD n 0 := ⟨_, rfl⟩
  have hcz : w.cell? ⟨b, off + n, none⟩ = some (.int .i64 z) := by rw [hz]; exact hc _ (by omega)
  have HZ := hide hz
  have HC := hide hc
  have HN := hide hn
  have e1 : (l.length : Int) - 1 = (n : Int) := by omega
  have hlt0 : n < l.length := by omega
  clear hc hz hn
  go_enter Tryz.func80, Tryz.ntmps80
  go_wp2
  go_loop [15] (fun i => ∃ k : Nat, k ≤ l.length ∧ i = .int .i64 k ∧ allTo keyCh l k) (fun i => l.length - (intOf i).toNat)
  case atStart => exact ⟨0, Nat.zero_le _, rfl, fun i hi => by omega⟩
  case round =>
    obtain ⟨k, hk, rfl, ha⟩ := hrel
    have HA := hide ha
    clear ha
    by_cases hlt : k < l.length
    · obtain ⟨x, hx⟩ : ∃ x, x = l.getD k 0 := ⟨_, rfl⟩
      have hcx : w.cell? ⟨b, off + k, none⟩ = some (.int .i64 x) := by rw [hx]; exact unhide HC _ hlt
      have HX := hide hx
      have hlt' : (k : Int) < (l.length : Int) := by omega
      clear hx hcz
      by_cases hn : keyCh k x
      · have HN := hide hn
        have q1 : decide (x < 0) = false := by unfold keyCh at hn; simp; omega
        have q2 : decide (999 < x) = false := by unfold keyCh at hn; simp; omega
        clear hn
        go_wp2
        go_round
        case rel => exact ⟨k + 1, by omega, by go_num, allTo_step (unhide HA) (by rw [← unhide HX]; exact unhide HN)⟩
        case measure => simp [intOf]; omega
      · have HF := hide (show decide (KeyOk l) = false by
          simp only [decide_eq_false_iff_not]
          rintro ⟨_, _, _, h⟩
          exact hn (by rw [unhide HX]; exact h k hlt))
        have hcase : decide (x < 0) = true ∨ (decide (x < 0) = false ∧ decide (999 < x) = true) := by
          unfold keyCh at hn; simp; omega
        clear hn
        rcases hcase with q1 | ⟨q1, q2⟩
        all_goals
          go_wp2
          go_ret
          exact ⟨by rw [unhide HF]; rfl, rfl⟩
    · have e : k = l.length := by omega
      subst e
      by_cases hz0 : z = 0
      · have HF := hide (show decide (KeyOk l) = false by
          simp only [decide_eq_false_iff_not]
          rintro ⟨_, _, h, _⟩
          rw [unhide HN, Nat.add_sub_cancel, ← unhide HZ] at h
          exact h hz0)
        have dz : (z != 0) = false := by simp [hz0]
        clear hz0
        go_wp2
        go_ret
        exact ⟨by rw [unhide HF]; rfl, rfl⟩
      · have HF := hide (show decide (KeyOk l) = true by
          simp only [decide_eq_true_eq]
          exact ⟨h1, h8, by rw [unhide HN, Nat.add_sub_cancel, ← unhide HZ]; exact hz0, unhide HA⟩)
        have dz : (z != 0) = true := by simp [hz0]
        clear hz0
        go_wp2
        go_ret
        exact ⟨by rw [unhide HF]; rfl, rfl⟩

open Classical in
theorem keyI_any (w : World) (v : Value) (l : List Int) (h : Ints w v l) :
    Calls Tryz.prog 80 #[v] w fun e w' => e = .returned (.bool (decide (KeyOk l))) ∧ w' = w := by
  by_cases hl : l.length < 1 ∨ 12 < l.length
  · obtain ⟨a, cap, rfl, _⟩ := h.shape
    have hd : decide (KeyOk l) = false := by simp only [decide_eq_false_iff_not]; rintro ⟨_, _, _⟩; omega
    rw [hd]
    exact keyI_short w a _ cap hl
  · obtain ⟨hok, hm, ⟨rfl, rfl⟩ | ⟨x, cap, rfl, hc, rfl⟩ | ⟨b, off, cap, rfl, _, _, _, _, h5⟩⟩ := h
    · simp at hl
    · simp at hl
    · exact keyI_row w b off cap l hok (by omega) (by omega) h5
theorem keyI_b (w : World) (v : Value) (l : List Int) (h : Ints w v l) : Calls Tryz.prog 80 #[v] w fun e w' => e = .returned (.bool (keyB l)) ∧ w' = w := by
  refine (keyI_any w v l h).mono ?_
  rintro e w' ⟨rfl, h⟩
  refine ⟨?_, h⟩
  by_cases hn : KeyOk l
  · rw [(keyB_iff l).2 hn]; simp [hn]
  · rw [Bool.eq_false_iff.2 (fun k => hn ((keyB_iff l).1 k))]; simp [hn]
end Go.Proofs.YtkmmhlimihkgfaaGreat

/- impl.OpOk answers what the plain test says. -/
namespace Go.Proofs.YtkmmhlimihkgfaaGreat
open Go.RowKit
set_option linter.unusedVariables false
set_option maxRecDepth 100000

theorem balloc {w w' : World} {o : Obj} (h : Below w.heap.size w w') : Below w.heap.size w (w'.alloc o) := h.alloc h.size o

set_option maxHeartbeats 6400000 in
theorem opI_0 (w : World) (o : OpV) (a1 a2 a3 : Option Addr) (c1 c2 c3 : Nat) (hk : Ints w (.slice a1 o.key.length c1) o.key) (hn : Byt w (.slice a2 o.name.length c2) o.name) (ht : Byt w (.slice a3 o.text.length c3) o.text) (k0 : o.kind = 0) :
    Calls Tryz.prog 38 #[opVal o (.slice a1 o.key.length c1) (.slice a2 o.name.length c2) (.slice a3 o.text.length c3)] w fun e w' => e = .returned (.bool (opB o)) ∧ Below w.heap.size w w' := by
  have hE := opB_0 k0
  have HK := hide hk
  have HM := hide hn
  have HX := hide ht
  clear hk hn ht
  unfold opVal
  rw [k0]
  go_enter Tryz.func38, Tryz.ntmps38
  go_wp2_with fail
  refine (idI_any _ o.parN o.parR).mono ?_
  rintro e w1 ⟨rfl, ew⟩
  obtain rfl := ew
  cases hx : idB o.parN o.parR
  · rw [hx] at hE
    clear hx
    go_wp2_with fail
    refine (stampI_any _ o.atN o.atR).mono ?_
    rintro e w1 ⟨rfl, rfl⟩
    cases hs : stampB o.atN o.atR
    · have HF := hide (show opB o = false by rw [hE, hs]; rfl)
      clear hE hs
      go_wp2_with fail
      go_ret
      exact ⟨by rw [unhide HF]; rfl, (by repeat (first | exact Below.refl _ _ | refine balloc ?_))⟩
    · have HF := hide (show opB o = false by rw [hE, hs]; rfl)
      clear hE hs
      go_wp2_with fail
      go_ret
      exact ⟨by rw [unhide HF]; rfl, (by repeat (first | exact Below.refl _ _ | refine balloc ?_))⟩
  rw [hx] at hE
  clear hx
  go_wp2_with fail
  refine (keyI_b _ _ o.key ((unhide HK).keep (by repeat (first | exact Below.refl _ _ | refine balloc ?_)))).mono ?_
  rintro e w1 ⟨rfl, ew⟩
  obtain rfl := ew
  cases hx : keyB o.key
  · rw [hx] at hE
    clear hx
    go_wp2_with fail
    refine (stampI_any _ o.atN o.atR).mono ?_
    rintro e w1 ⟨rfl, rfl⟩
    cases hs : stampB o.atN o.atR
    · have HF := hide (show opB o = false by rw [hE, hs]; rfl)
      clear hE hs
      go_wp2_with fail
      go_ret
      exact ⟨by rw [unhide HF]; rfl, (by repeat (first | exact Below.refl _ _ | refine balloc ?_))⟩
    · have HF := hide (show opB o = false by rw [hE, hs]; rfl)
      clear hE hs
      go_wp2_with fail
      go_ret
      exact ⟨by rw [unhide HF]; rfl, (by repeat (first | exact Below.refl _ _ | refine balloc ?_))⟩
  rw [hx] at hE
  clear hx
  go_wp2_with fail
  refine (loneI_any _ o.elem _ _ o.name o.text ((unhide HM).keep (by repeat (first | exact Below.refl _ _ | refine balloc ?_))) ((unhide HX).keep (by repeat (first | exact Below.refl _ _ | refine balloc ?_)))).mono ?_
  rintro e w1 ⟨rfl, ew⟩
  obtain rfl := ew
  cases hx : loneB o.elem o.name o.text
  · rw [hx] at hE
    clear hx
    go_wp2_with fail
    refine (stampI_any _ o.atN o.atR).mono ?_
    rintro e w1 ⟨rfl, rfl⟩
    cases hs : stampB o.atN o.atR
    · have HF := hide (show opB o = false by rw [hE, hs]; rfl)
      clear hE hs
      go_wp2_with fail
      go_ret
      exact ⟨by rw [unhide HF]; rfl, (by repeat (first | exact Below.refl _ _ | refine balloc ?_))⟩
    · have HF := hide (show opB o = false by rw [hE, hs]; rfl)
      clear hE hs
      go_wp2_with fail
      go_ret
      exact ⟨by rw [unhide HF]; rfl, (by repeat (first | exact Below.refl _ _ | refine balloc ?_))⟩
  rw [hx] at hE
  clear hx
  go_wp2_with fail
  refine (stampI_any _ o.atN o.atR).mono ?_
  rintro e w1 ⟨rfl, rfl⟩
  cases hs : stampB o.atN o.atR
  · have HF := hide (show opB o = false by rw [hE, hs]; rfl)
    clear hE hs
    go_wp2_with fail
    go_ret
    exact ⟨by rw [unhide HF]; rfl, (by repeat (first | exact Below.refl _ _ | refine balloc ?_))⟩
  · rw [hs] at hE
    have HF := hide (show opB o = zeroOpB (rest0 o) by rw [hE]; rfl)
    clear hE hs
    go_wp2_with fail
    refine (zeroI_any _ (rest0 o) none none none 0 0 0).mono ?_
    rintro e w1 ⟨rfl, hB1⟩
    have hA := bstep (a := w) (by repeat (first | exact Below.refl _ _ | refine balloc ?_)) hB1
    clear hB1
    go_wp2_with fail
    go_ret
    exact ⟨by rw [unhide HF]; rfl, hA⟩

set_option maxHeartbeats 6400000 in
theorem opI_1 (w : World) (o : OpV) (a1 a2 a3 : Option Addr) (c1 c2 c3 : Nat) (hk : Ints w (.slice a1 o.key.length c1) o.key) (hn : Byt w (.slice a2 o.name.length c2) o.name) (ht : Byt w (.slice a3 o.text.length c3) o.text) (k0 : o.kind = 1) :
    Calls Tryz.prog 38 #[opVal o (.slice a1 o.key.length c1) (.slice a2 o.name.length c2) (.slice a3 o.text.length c3)] w fun e w' => e = .returned (.bool (opB o)) ∧ Below w.heap.size w w' := by
  have hE := opB_1 k0
  have HK := hide hk
  have HM := hide hn
  have HX := hide ht
  clear hk hn ht
  unfold opVal
  rw [k0]
  go_enter Tryz.func38, Tryz.ntmps38
  go_wp2_with fail
  refine (idI_any _ o.nodeN o.nodeR).mono ?_
  rintro e w1 ⟨rfl, ew⟩
  obtain rfl := ew
  cases hx : idB o.nodeN o.nodeR
  · rw [hx] at hE
    clear hx
    go_wp2_with fail
    refine (stampI_any _ o.atN o.atR).mono ?_
    rintro e w1 ⟨rfl, rfl⟩
    cases hs : stampB o.atN o.atR
    · have HF := hide (show opB o = false by rw [hE, hs]; rfl)
      clear hE hs
      go_wp2_with fail
      go_ret
      exact ⟨by rw [unhide HF]; rfl, (by repeat (first | exact Below.refl _ _ | refine balloc ?_))⟩
    · have HF := hide (show opB o = false by rw [hE, hs]; rfl)
      clear hE hs
      go_wp2_with fail
      go_ret
      exact ⟨by rw [unhide HF]; rfl, (by repeat (first | exact Below.refl _ _ | refine balloc ?_))⟩
  rw [hx] at hE
  clear hx
  go_wp2_with fail
  refine (idI_any _ o.parN o.parR).mono ?_
  rintro e w1 ⟨rfl, ew⟩
  obtain rfl := ew
  cases hx : idB o.parN o.parR
  · rw [hx] at hE
    clear hx
    go_wp2_with fail
    refine (stampI_any _ o.atN o.atR).mono ?_
    rintro e w1 ⟨rfl, rfl⟩
    cases hs : stampB o.atN o.atR
    · have HF := hide (show opB o = false by rw [hE, hs]; rfl)
      clear hE hs
      go_wp2_with fail
      go_ret
      exact ⟨by rw [unhide HF]; rfl, (by repeat (first | exact Below.refl _ _ | refine balloc ?_))⟩
    · have HF := hide (show opB o = false by rw [hE, hs]; rfl)
      clear hE hs
      go_wp2_with fail
      go_ret
      exact ⟨by rw [unhide HF]; rfl, (by repeat (first | exact Below.refl _ _ | refine balloc ?_))⟩
  rw [hx] at hE
  clear hx
  go_wp2_with fail
  refine (keyI_b _ _ o.key ((unhide HK).keep (by repeat (first | exact Below.refl _ _ | refine balloc ?_)))).mono ?_
  rintro e w1 ⟨rfl, ew⟩
  obtain rfl := ew
  cases hx : keyB o.key
  · rw [hx] at hE
    clear hx
    go_wp2_with fail
    refine (stampI_any _ o.atN o.atR).mono ?_
    rintro e w1 ⟨rfl, rfl⟩
    cases hs : stampB o.atN o.atR
    · have HF := hide (show opB o = false by rw [hE, hs]; rfl)
      clear hE hs
      go_wp2_with fail
      go_ret
      exact ⟨by rw [unhide HF]; rfl, (by repeat (first | exact Below.refl _ _ | refine balloc ?_))⟩
    · have HF := hide (show opB o = false by rw [hE, hs]; rfl)
      clear hE hs
      go_wp2_with fail
      go_ret
      exact ⟨by rw [unhide HF]; rfl, (by repeat (first | exact Below.refl _ _ | refine balloc ?_))⟩
  rw [hx] at hE
  clear hx
  go_wp2_with fail
  refine (stampI_any _ o.atN o.atR).mono ?_
  rintro e w1 ⟨rfl, rfl⟩
  cases hs : stampB o.atN o.atR
  · have HF := hide (show opB o = false by rw [hE, hs]; rfl)
    clear hE hs
    go_wp2_with fail
    go_ret
    exact ⟨by rw [unhide HF]; rfl, (by repeat (first | exact Below.refl _ _ | refine balloc ?_))⟩
  · rw [hs] at hE
    have HF := hide (show opB o = zeroOpB (rest1 o) by rw [hE]; rfl)
    clear hE hs
    go_wp2_with fail
    refine (zeroI_any _ (rest1 o) none a2 a3 0 c2 c3).mono ?_
    rintro e w1 ⟨rfl, hB1⟩
    have hA := bstep (a := w) (by repeat (first | exact Below.refl _ _ | refine balloc ?_)) hB1
    clear hB1
    go_wp2_with fail
    go_ret
    exact ⟨by rw [unhide HF]; rfl, hA⟩

set_option maxHeartbeats 6400000 in
theorem opI_2 (w : World) (o : OpV) (a1 a2 a3 : Option Addr) (c1 c2 c3 : Nat) (hk : Ints w (.slice a1 o.key.length c1) o.key) (hn : Byt w (.slice a2 o.name.length c2) o.name) (ht : Byt w (.slice a3 o.text.length c3) o.text) (k0 : o.kind = 2) :
    Calls Tryz.prog 38 #[opVal o (.slice a1 o.key.length c1) (.slice a2 o.name.length c2) (.slice a3 o.text.length c3)] w fun e w' => e = .returned (.bool (opB o)) ∧ Below w.heap.size w w' := by
  have hE := opB_2 k0
  have HK := hide hk
  have HM := hide hn
  have HX := hide ht
  clear hk hn ht
  unfold opVal
  rw [k0]
  go_enter Tryz.func38, Tryz.ntmps38
  go_wp2_with fail
  refine (idI_any _ o.nodeN o.nodeR).mono ?_
  rintro e w1 ⟨rfl, ew⟩
  obtain rfl := ew
  cases hx : idB o.nodeN o.nodeR
  · rw [hx] at hE
    clear hx
    go_wp2_with fail
    refine (stampI_any _ o.atN o.atR).mono ?_
    rintro e w1 ⟨rfl, rfl⟩
    cases hs : stampB o.atN o.atR
    · have HF := hide (show opB o = false by rw [hE, hs]; rfl)
      clear hE hs
      go_wp2_with fail
      go_ret
      exact ⟨by rw [unhide HF]; rfl, (by repeat (first | exact Below.refl _ _ | refine balloc ?_))⟩
    · have HF := hide (show opB o = false by rw [hE, hs]; rfl)
      clear hE hs
      go_wp2_with fail
      go_ret
      exact ⟨by rw [unhide HF]; rfl, (by repeat (first | exact Below.refl _ _ | refine balloc ?_))⟩
  rw [hx] at hE
  clear hx
  go_wp2_with fail
  refine (textI_b _ _ o.text ((unhide HX).keep (by repeat (first | exact Below.refl _ _ | refine balloc ?_)))).mono ?_
  rintro e w1 ⟨rfl, ew⟩
  obtain rfl := ew
  cases hx : textB o.text
  · rw [hx] at hE
    clear hx
    go_wp2_with fail
    refine (stampI_any _ o.atN o.atR).mono ?_
    rintro e w1 ⟨rfl, rfl⟩
    cases hs : stampB o.atN o.atR
    · have HF := hide (show opB o = false by rw [hE, hs]; rfl)
      clear hE hs
      go_wp2_with fail
      go_ret
      exact ⟨by rw [unhide HF]; rfl, (by repeat (first | exact Below.refl _ _ | refine balloc ?_))⟩
    · have HF := hide (show opB o = false by rw [hE, hs]; rfl)
      clear hE hs
      go_wp2_with fail
      go_ret
      exact ⟨by rw [unhide HF]; rfl, (by repeat (first | exact Below.refl _ _ | refine balloc ?_))⟩
  rw [hx] at hE
  clear hx
  go_wp2_with fail
  refine (stampI_any _ o.atN o.atR).mono ?_
  rintro e w1 ⟨rfl, rfl⟩
  cases hs : stampB o.atN o.atR
  · have HF := hide (show opB o = false by rw [hE, hs]; rfl)
    clear hE hs
    go_wp2_with fail
    go_ret
    exact ⟨by rw [unhide HF]; rfl, (by repeat (first | exact Below.refl _ _ | refine balloc ?_))⟩
  · rw [hs] at hE
    have HF := hide (show opB o = zeroOpB (rest2 o) by rw [hE]; rfl)
    clear hE hs
    go_wp2_with fail
    refine (zeroI_any _ (rest2 o) a1 a2 none c1 c2 0).mono ?_
    rintro e w1 ⟨rfl, hB1⟩
    have hA := bstep (a := w) (by repeat (first | exact Below.refl _ _ | refine balloc ?_)) hB1
    clear hB1
    go_wp2_with fail
    go_ret
    exact ⟨by rw [unhide HF]; rfl, hA⟩

set_option maxHeartbeats 6400000 in
theorem opI_3 (w : World) (o : OpV) (a1 a2 a3 : Option Addr) (c1 c2 c3 : Nat) (hk : Ints w (.slice a1 o.key.length c1) o.key) (hn : Byt w (.slice a2 o.name.length c2) o.name) (ht : Byt w (.slice a3 o.text.length c3) o.text) (k0 : o.kind = 3) :
    Calls Tryz.prog 38 #[opVal o (.slice a1 o.key.length c1) (.slice a2 o.name.length c2) (.slice a3 o.text.length c3)] w fun e w' => e = .returned (.bool (opB o)) ∧ Below w.heap.size w w' := by
  have hE := opB_3 k0
  have HK := hide hk
  have HM := hide hn
  have HX := hide ht
  clear hk hn ht
  unfold opVal
  rw [k0]
  go_enter Tryz.func38, Tryz.ntmps38
  go_wp2_with fail
  refine (idI_any _ o.nodeN o.nodeR).mono ?_
  rintro e w1 ⟨rfl, ew⟩
  obtain rfl := ew
  cases hx : idB o.nodeN o.nodeR
  · rw [hx] at hE
    clear hx
    go_wp2_with fail
    refine (stampI_any _ o.atN o.atR).mono ?_
    rintro e w1 ⟨rfl, rfl⟩
    cases hs : stampB o.atN o.atR
    · have HF := hide (show opB o = false by rw [hE, hs]; rfl)
      clear hE hs
      go_wp2_with fail
      go_ret
      exact ⟨by rw [unhide HF]; rfl, (by repeat (first | exact Below.refl _ _ | refine balloc ?_))⟩
    · have HF := hide (show opB o = false by rw [hE, hs]; rfl)
      clear hE hs
      go_wp2_with fail
      go_ret
      exact ⟨by rw [unhide HF]; rfl, (by repeat (first | exact Below.refl _ _ | refine balloc ?_))⟩
  rw [hx] at hE
  clear hx
  go_wp2_with fail
  refine (nameI_b _ _ o.name ((unhide HM).keep (by repeat (first | exact Below.refl _ _ | refine balloc ?_)))).mono ?_
  rintro e w1 ⟨rfl, ew⟩
  obtain rfl := ew
  cases hx : nameB o.name
  · rw [hx] at hE
    clear hx
    go_wp2_with fail
    refine (stampI_any _ o.atN o.atR).mono ?_
    rintro e w1 ⟨rfl, rfl⟩
    cases hs : stampB o.atN o.atR
    · have HF := hide (show opB o = false by rw [hE, hs]; rfl)
      clear hE hs
      go_wp2_with fail
      go_ret
      exact ⟨by rw [unhide HF]; rfl, (by repeat (first | exact Below.refl _ _ | refine balloc ?_))⟩
    · have HF := hide (show opB o = false by rw [hE, hs]; rfl)
      clear hE hs
      go_wp2_with fail
      go_ret
      exact ⟨by rw [unhide HF]; rfl, (by repeat (first | exact Below.refl _ _ | refine balloc ?_))⟩
  rw [hx] at hE
  clear hx
  go_wp2_with fail
  refine (valI_any _ _ o.text o.gone ((unhide HX).keep (by repeat (first | exact Below.refl _ _ | refine balloc ?_)))).mono ?_
  rintro e w1 ⟨rfl, ew⟩
  obtain rfl := ew
  cases hx : valB o.text o.gone
  · rw [hx] at hE
    clear hx
    go_wp2_with fail
    refine (stampI_any _ o.atN o.atR).mono ?_
    rintro e w1 ⟨rfl, rfl⟩
    cases hs : stampB o.atN o.atR
    · have HF := hide (show opB o = false by rw [hE, hs]; rfl)
      clear hE hs
      go_wp2_with fail
      go_ret
      exact ⟨by rw [unhide HF]; rfl, (by repeat (first | exact Below.refl _ _ | refine balloc ?_))⟩
    · have HF := hide (show opB o = false by rw [hE, hs]; rfl)
      clear hE hs
      go_wp2_with fail
      go_ret
      exact ⟨by rw [unhide HF]; rfl, (by repeat (first | exact Below.refl _ _ | refine balloc ?_))⟩
  rw [hx] at hE
  clear hx
  go_wp2_with fail
  refine (stampI_any _ o.atN o.atR).mono ?_
  rintro e w1 ⟨rfl, rfl⟩
  cases hs : stampB o.atN o.atR
  · have HF := hide (show opB o = false by rw [hE, hs]; rfl)
    clear hE hs
    go_wp2_with fail
    go_ret
    exact ⟨by rw [unhide HF]; rfl, (by repeat (first | exact Below.refl _ _ | refine balloc ?_))⟩
  · rw [hs] at hE
    have HF := hide (show opB o = zeroOpB (rest3 o) by rw [hE]; rfl)
    clear hE hs
    go_wp2_with fail
    refine (zeroI_any _ (rest3 o) a1 none none c1 0 0).mono ?_
    rintro e w1 ⟨rfl, hB1⟩
    have hA := bstep (a := w) (by repeat (first | exact Below.refl _ _ | refine balloc ?_)) hB1
    clear hB1
    go_wp2_with fail
    go_ret
    exact ⟨by rw [unhide HF]; rfl, hA⟩

set_option maxHeartbeats 6400000 in
theorem opI_4 (w : World) (o : OpV) (a1 a2 a3 : Option Addr) (c1 c2 c3 : Nat) (h0 : o.kind ≠ 0) (h1 : o.kind ≠ 1) (h2 : o.kind ≠ 2) (h3 : o.kind ≠ 3) :
    Calls Tryz.prog 38 #[opVal o (.slice a1 o.key.length c1) (.slice a2 o.name.length c2) (.slice a3 o.text.length c3)] w fun e w' => e = .returned (.bool (opB o)) ∧ Below w.heap.size w w' := by
  have HF := hide (opB_4 h0 h1 h2 h3)
  have q0 : (o.kind == 0) = false := by simpa using h0
  have q1 : (o.kind == 1) = false := by simpa using h1
  have q2 : (o.kind == 2) = false := by simpa using h2
  have q3 : (o.kind == 3) = false := by simpa using h3
  clear h0 h1 h2 h3
  unfold opVal
  go_enter Tryz.func38, Tryz.ntmps38
  go_wp2_with fail
  refine (stampI_any _ o.atN o.atR).mono ?_
  rintro e w1 ⟨rfl, rfl⟩
  cases hs : stampB o.atN o.atR
  all_goals
    clear hs
    go_wp2_with fail
    go_ret
    exact ⟨by rw [unhide HF]; rfl, (by repeat (first | exact Below.refl _ _ | refine balloc ?_))⟩

/-- impl.OpOk, whatever it is asked. -/
theorem opI_any (w : World) (v : Value) (o : OpV) (h : RdOp w v o) :
    Calls Tryz.prog 38 #[v] w fun e w' => e = .returned (.bool (opB o)) ∧ Below w.heap.size w w' := by
  obtain ⟨k, n, t, rfl, hk, hn, ht⟩ := h
  obtain ⟨a1, c1, rfl, _, _⟩ := hk.shape
  obtain ⟨a2, c2, rfl, _, _⟩ := hn.shape
  obtain ⟨a3, c3, rfl, _, _⟩ := ht.shape
  by_cases k0 : o.kind = 0
  · exact opI_0 w o a1 a2 a3 c1 c2 c3 hk hn ht k0
  by_cases k1 : o.kind = 1
  · exact opI_1 w o a1 a2 a3 c1 c2 c3 hk hn ht k1
  by_cases k2 : o.kind = 2
  · exact opI_2 w o a1 a2 a3 c1 c2 c3 hk hn ht k2
  by_cases k3 : o.kind = 3
  · exact opI_3 w o a1 a2 a3 c1 c2 c3 hk hn ht k3
  exact opI_4 w o a1 a2 a3 c1 c2 c3 k0 k1 k2 k3
theorem opI_said : OpISaid := fun w o base k n t h _ => opI_any w _ o h.rd
end Go.Proofs.YtkmmhlimihkgfaaGreat

/- impl.OpBytes tells the bytes of an operation that may be. -/
namespace Go.Proofs.YtkmmhlimihkgfaaGreat
open Go.RowKit
set_option linter.unusedVariables false
set_option maxRecDepth 100000

theorem ints_at1 {W : World} {g : Nat} {n : Int} (h : W.cell? ⟨g, 0, none⟩ = some (.int .i64 n)) (hn : inR n) : Ints W (.slice (some ⟨g, 0, none⟩) 1 1) [n] := by
  refine ⟨okZ_in hn, by simp [maxLen], .inr (.inr ⟨g, 0, 1, rfl, by simp, by simp [maxLen], by simp, lt_of_cell h, fun i hi => ?_⟩)⟩
  have : i = 0 := by simpa using hi
  subst this
  exact h
theorem putNum_at (w : World) (base : Nat) (v : Value) (l : List Int) (n : Int) (g : Nat) (h : Own w base v l) (hb : base ≤ w.heap.size) (hn : inR n) (c0 : w.cell? ⟨g, 0, none⟩ = some (.int .i64 n)) (hl : l.length ≤ 20000000) :
    Calls Tryz.prog 141 #[v, .slice (some ⟨g, 0, none⟩) 1 1] w fun e w' => ∃ a c, e = .returned (.slice a (putAll l n).length c) ∧ Own w' base (.slice a (putAll l n).length c) (putAll l n) ∧ Below w.heap.size w w' :=
  putNums_any w base v _ l [n] h hb (ints_at1 c0 hn) hl (by simp)
theorem putId_at (w : World) (base : Nat) (v : Value) (l : List Int) (n r : Int) (g : Nat) (h : Own w base v l) (hb : base ≤ w.heap.size) (hn : inR n) (hr : inR r) (c0 : w.cell? ⟨g, 0, none⟩ = some (.int .i64 n)) (c1 : w.cell? ⟨g, 1, none⟩ = some (.int .i64 r)) (hl : l.length ≤ 10000000) :
    Calls Tryz.prog 140 #[v, .slice (some ⟨g, 0, none⟩) 1 1] w fun e w' => ∃ a c, e = .returned (.slice a (putId l n r).length c) ∧ Own w' base (.slice a (putId l n r).length c) (putId l n r) ∧ Below w.heap.size w w' :=
  putIds_any w base v l [(n, r)] g 0 1 h hb hl (by simp) (lt_of_cell c0) (fun x hx => by simp at hx; subst hx; exact okZ_in2 hn hr)
    (fun j hj => by have : j = 0 := by simpa using hj
                    subst this; exact c0)
    (fun j hj => by have : j = 0 := by simpa using hj
                    subst this; exact c1)
theorem putId_at2 (w : World) (base : Nat) (v : Value) (l : List Int) (n r n' r' : Int) (g : Nat) (h : Own w base v l) (hb : base ≤ w.heap.size) (hn : inR n) (hr : inR r) (hn' : inR n') (hr' : inR r') (c0 : w.cell? ⟨g, 0, none⟩ = some (.int .i64 n)) (c1 : w.cell? ⟨g, 1, none⟩ = some (.int .i64 r)) (c2 : w.cell? ⟨g, 2, none⟩ = some (.int .i64 n')) (c3 : w.cell? ⟨g, 3, none⟩ = some (.int .i64 r')) (hl : l.length ≤ 10000000) :
    Calls Tryz.prog 140 #[v, .slice (some ⟨g, 0, none⟩) 2 2] w fun e w' => ∃ a c, e = .returned (.slice a (putId (putId l n r) n' r').length c) ∧ Own w' base (.slice a (putId (putId l n r) n' r').length c) (putId (putId l n r) n' r') ∧ Below w.heap.size w w' :=
  putIds_any w base v l [(n, r), (n', r')] g 0 2 h hb hl (by simp) (lt_of_cell c0) (fun x hx => by
      simp at hx
      rcases hx with rfl | rfl
      · exact okZ_in2 hn hr
      · exact okZ_in2 hn' hr')
    (fun j hj => by have : j = 0 ∨ j = 1 := by simp at hj; omega
                    rcases this with rfl | rfl
                    · exact c0
                    · exact c2)
    (fun j hj => by have : j = 0 ∨ j = 1 := by simp at hj; omega
                    rcases this with rfl | rfl
                    · exact c1
                    · exact c3)
theorem putId_len2 (l : List Int) (n r n' r' : Int) : (putId (putId l n r) n' r').length ≤ l.length + 20 := by
  have := putId_len (putId l n r) n' r'
  have := putId_len l n r
  omega
theorem putVal_len (l t : List Int) (g : Bool) : (putVal l t g).length ≤ l.length + 50 := by
  unfold putVal
  split
  · have := putAll_len l 1; omega
  · have := putT_len (putAll l 0) t
    have := putAll_len l 0
    omega

set_option maxHeartbeats 12800000 in
theorem bytesI_0 (w : World) (o : OpV) (a1 a2 a3 : Option Addr) (c1 c2 c3 : Nat) (hk : Ints w (.slice a1 o.key.length c1) o.key) (hn : Byt w (.slice a2 o.name.length c2) o.name) (ht : Byt w (.slice a3 o.text.length c3) o.text) (hs : o.key.length ≤ 2097152) (hb : opB o = true) (F1 : inR o.atN) (F2 : inR o.atR) (F5 : inR o.parN) (F6 : inR o.parR) (F8 : inR o.elem) (k0 : o.kind = 0) :
    Calls Tryz.prog 122 #[opVal o (.slice a1 o.key.length c1) (.slice a2 o.name.length c2) (.slice a3 o.text.length c3)] w fun e w' => ∃ a c, e = .returned (.tuple #[.slice a (opBytes o).length c, .bool true]) ∧ Own w' w.heap.size (.slice a (opBytes o).length c) (opBytes o) ∧ Below w.heap.size w w' := by
  have HK := hide hk
  have HM := hide hn
  have HX := hide ht
  clear hk hn ht
  have Ln : ([] : List Int).length = 0 := rfl
  have HO := hide (fun (W : World) (hW : Below w.heap.size w W) => opI_any W _ o ⟨_, _, _, rfl, (unhide HK).keep hW, (unhide HM).keep hW, (unhide HX).keep hW⟩)
  rw [hb] at HO
  clear hb
  unfold opVal at HO
  rw [k0] at HO
  obtain ⟨r1, e1⟩ : ∃ r, r = putAll ([] : List Int) 0 := ⟨_, rfl⟩
  have L1 := putAll_len ([] : List Int) 0
  have H1 := hide (fun (W : World) (hW : Below w.heap.size w W) (v : Value) (h : Own W w.heap.size v ([] : List Int)) (g : Nat) (c0 : W.cell? ⟨g, 0, none⟩ = some (.int .i64 (0))) => putNum_at W w.heap.size v ([] : List Int) 0 g h hW.size ⟨by decide, by decide⟩ c0 (by omega))
  rw [← e1] at L1 H1
  obtain ⟨r2, e2⟩ : ∃ r, r = putId r1 o.atN o.atR := ⟨_, rfl⟩
  have L2 := putId_len r1 o.atN o.atR
  have H2 := hide (fun (W : World) (hW : Below w.heap.size w W) (v : Value) (h : Own W w.heap.size v r1) (g : Nat) (c0 : W.cell? ⟨g, 0, none⟩ = some (.int .i64 o.atN)) (c1 : W.cell? ⟨g, 1, none⟩ = some (.int .i64 o.atR)) => putId_at W w.heap.size v r1 o.atN o.atR g h hW.size F1 F2 c0 c1 (by omega))
  rw [← e2] at L2 H2
  obtain ⟨r3, e3⟩ : ∃ r, r = putId r2 o.parN o.parR := ⟨_, rfl⟩
  have L3 := putId_len r2 o.parN o.parR
  have H3 := hide (fun (W : World) (hW : Below w.heap.size w W) (v : Value) (h : Own W w.heap.size v r2) (g : Nat) (c0 : W.cell? ⟨g, 0, none⟩ = some (.int .i64 o.parN)) (c1 : W.cell? ⟨g, 1, none⟩ = some (.int .i64 o.parR)) => putId_at W w.heap.size v r2 o.parN o.parR g h hW.size F5 F6 c0 c1 (by omega))
  rw [← e3] at L3 H3
  obtain ⟨r4, e4⟩ : ∃ r, r = putKey r3 o.key := ⟨_, rfl⟩
  have L4 := putKey_len r3 o.key
  have H4 := hide (fun (W : World) (hW : Below w.heap.size w W) (v : Value) (h : Own W w.heap.size v r3) => putKey_any W w.heap.size v _ r3 o.key h hW.size ((unhide HK).keep hW) (by omega) (by omega))
  rw [← e4] at L4 H4
  obtain ⟨r5, e5⟩ : ∃ r, r = putAll r4 o.elem := ⟨_, rfl⟩
  have L5 := putAll_len r4 o.elem
  have H5 := hide (fun (W : World) (hW : Below w.heap.size w W) (v : Value) (h : Own W w.heap.size v r4) (g : Nat) (c0 : W.cell? ⟨g, 0, none⟩ = some (.int .i64 (o.elem))) => putNum_at W w.heap.size v r4 o.elem g h hW.size F8 c0 (by omega))
  rw [← e5] at L5 H5
  obtain ⟨r6, e6⟩ : ∃ r, r = putT r5 o.name := ⟨_, rfl⟩
  have L6 := putT_len r5 o.name
  have H6 := hide (fun (W : World) (hW : Below w.heap.size w W) (v : Value) (h : Own W w.heap.size v r5) => rw_base (putTI_own W v _ r5 o.name h.byt ((unhide HM).keep hW) (by omega)) hW.size)
  rw [← e6] at L6 H6
  obtain ⟨r7, e7⟩ : ∃ r, r = putT r6 o.text := ⟨_, rfl⟩
  have L7 := putT_len r6 o.text
  have H7 := hide (fun (W : World) (hW : Below w.heap.size w W) (v : Value) (h : Own W w.heap.size v r6) => rw_base (putTI_own W v _ r6 o.text h.byt ((unhide HX).keep hW) (by omega)) hW.size)
  rw [← e7] at L7 H7
  have HE := hide (show opBytes o = r7 by unfold opBytes opHd; rw [k0, if_pos rfl]; rw [e7, e6, e5, e4, e3, e2, e1])
  clear e7 L7 e6 L6 e5 L5 e4 L4 e3 L3 e2 L2 e1 L1
  have hA0 : Below w.heap.size w (w.alloc (.cells #[.int .i64 0, .int .i64 o.atN, .int .i64 o.atR, .int .i64 o.nodeN, .int .i64 o.nodeR, .int .i64 o.parN, .int .i64 o.parR, .slice a1 o.key.length c1, .int .i64 o.elem, .slice a2 o.name.length c2, .slice a3 o.text.length c3, .bool o.gone] 28)) := (Below.refl w.heap.size w).alloc (Nat.le_refl _) _
  have l0 := Loc.made w #[.int .i64 0, .int .i64 o.atN, .int .i64 o.atR, .int .i64 o.nodeN, .int .i64 o.nodeR, .int .i64 o.parN, .int .i64 o.parR, .slice a1 o.key.length c1, .int .i64 o.elem, .slice a2 o.name.length c2, .slice a3 o.text.length c3, .bool o.gone] 28
  rw [unhide HE]
  clear HE
  unfold opVal
  rw [k0]
  go_enter Tryz.func122, Tryz.ntmps122
  go_wp2_with fail
  generalize (w.alloc (.cells #[.int .i64 0, .int .i64 o.atN, .int .i64 o.atR, .int .i64 o.nodeN, .int .i64 o.nodeR, .int .i64 o.parN, .int .i64 o.parR, .slice a1 o.key.length c1, .int .i64 o.elem, .slice a2 o.name.length c2, .slice a3 o.text.length c3, .bool o.gone] 28)) = w0 at *
  refine (unhide HO w0 hA0).mono ?_
  clear HO
  rintro e w1 ⟨rfl, hB0⟩
  have hA1 := bstep hA0 hB0
  have l1 := l0.all hB0
  clear hA0 l0 hB0
  obtain ⟨x0, x1, x2, x3, x4, x5, x6, x7, x8, x9, x10, x11⟩ := l1.twelve
  go_wp2_with fail
  clear x0 x1 x2 x3 x4 x5 x6 x7 x8 x9 x10 x11
  obtain ⟨x0, x1, x2, x3, x4, x5, x6, x7, x8, x9, x10, x11⟩ := l1.twelve
  go_region_held3 (fun w' => w'.cell? ⟨w.heap.size, 0, none⟩ = some (.int .i64 0) ∧ w'.cell? ⟨w.heap.size, 1, none⟩ = some (.int .i64 o.atN) ∧ w'.cell? ⟨w.heap.size, 2, none⟩ = some (.int .i64 o.atR))
    (first | exact ⟨by assumption, by assumption, by assumption⟩ | go_keep)
    (first
      | (go_at_call 141; refine (unhide H1 _ (by repeat (first | exact hA1 | exact Below.refl _ _ | refine balloc2 ?_ | refine Below.drew ?_)) _ (own_nil2 _ _) _ (by first | (simp; done))).mono ?_; clear H1; rintro e w11 ⟨b1, d1, rfl, ho1, hB1⟩; have hA11 := bstep (a := w) (by repeat (first | exact hA1 | exact Below.refl _ _ | refine balloc2 ?_ | refine Below.drew ?_)) hB1; have hD11 := bstep (a := w1) (by repeat (first | exact Below.refl _ _ | exact Below.refl _ _ | refine balloc2 ?_ | refine Below.drew ?_)) hB1; have hY1 := fun p v h => cell_later hB1 (p := p) (v := v) h; obtain ⟨x0, x1, x2, x3, x4, x5, x6, x7, x8, x9, x10, x11⟩ := (l1.all hD11).twelve)
      | (go_at_call 140; refine (unhide H2 _ (by repeat (first | exact hA11 | exact Below.refl _ _ | refine balloc2 ?_ | refine Below.drew ?_)) _ (ho1.keep (by repeat (first | exact Below.refl _ _ | exact Below.refl _ _ | refine balloc2 ?_ | refine Below.drew ?_))) _ (by first | (simp; done) | exact (hY1 _ _ (by simp))) (by first | (simp; done) | exact (hY1 _ _ (by simp)))).mono ?_; clear H2; rintro e w12 ⟨b2, d2, rfl, ho2, hB2⟩; have hA12 := bstep (a := w) (by repeat (first | exact hA11 | exact Below.refl _ _ | refine balloc2 ?_ | refine Below.drew ?_)) hB2; have hD12 := bstep (a := w1) (by repeat (first | exact hD11 | exact Below.refl _ _ | refine balloc2 ?_ | refine Below.drew ?_)) hB2; have hY2 := fun p v h => cell_later hB2 (p := p) (v := v) h; obtain ⟨x0, x1, x2, x3, x4, x5, x6, x7, x8, x9, x10, x11⟩ := (l1.all hD12).twelve))
  all_goals
    have l12 := l1.all hD12
    clear x0 x1 x2 x3 x4 x5 x6 x7 x8 x9 x10 x11 hY1 hB1 hD11 hY2 hB2 hD12 ho1 hA11
    obtain ⟨x0, x1, x2, x3, x4, x5, x6, x7, x8, x9, x10, x11⟩ := l12.twelve
    go_wp2_with fail
    clear x0 x1 x2 x3 x4 x5 x6 x7 x8 x9 x10 x11
    obtain ⟨x0, x1, x2, x3, x4, x5, x6, x7, x8, x9, x10, x11⟩ := l12.twelve
    go_region_held3 (fun w' => w'.cell? ⟨w.heap.size, 5, none⟩ = some (.int .i64 o.parN) ∧ w'.cell? ⟨w.heap.size, 6, none⟩ = some (.int .i64 o.parR) ∧ w'.cell? ⟨w.heap.size, 7, none⟩ = some (.slice a1 o.key.length c1) ∧ w'.cell? ⟨w.heap.size, 8, none⟩ = some (.int .i64 o.elem))
      (first | exact ⟨by assumption, by assumption, by assumption, by assumption⟩ | go_keep)
      (first
        | (go_at_call 140; refine (unhide H3 _ (by repeat (first | exact hA12 | exact Below.refl _ _ | refine balloc2 ?_ | refine Below.drew ?_)) _ (ho2.keep (by repeat (first | exact Below.refl _ _ | exact Below.refl _ _ | refine balloc2 ?_ | refine Below.drew ?_))) _ (by first | (simp; done)) (by first | (simp; done))).mono ?_; clear H3; rintro e w13 ⟨b3, d3, rfl, ho3, hB3⟩; have hA13 := bstep (a := w) (by repeat (first | exact hA12 | exact Below.refl _ _ | refine balloc2 ?_ | refine Below.drew ?_)) hB3; have hD13 := bstep (a := w12) (by repeat (first | exact Below.refl _ _ | exact Below.refl _ _ | refine balloc2 ?_ | refine Below.drew ?_)) hB3; have hY3 := fun p v h => cell_later hB3 (p := p) (v := v) h; obtain ⟨x0, x1, x2, x3, x4, x5, x6, x7, x8, x9, x10, x11⟩ := (l12.all hD13).twelve)
        | (go_at_call 142; refine (unhide H4 _ (by repeat (first | exact hA13 | exact Below.refl _ _ | refine balloc2 ?_ | refine Below.drew ?_)) _ (ho3.keep (by repeat (first | exact Below.refl _ _ | exact Below.refl _ _ | refine balloc2 ?_ | refine Below.drew ?_)))).mono ?_; clear H4; rintro e w14 ⟨b4, d4, rfl, ho4, hB4⟩; have hA14 := bstep (a := w) (by repeat (first | exact hA13 | exact Below.refl _ _ | refine balloc2 ?_ | refine Below.drew ?_)) hB4; have hD14 := bstep (a := w12) (by repeat (first | exact hD13 | exact Below.refl _ _ | refine balloc2 ?_ | refine Below.drew ?_)) hB4; have hY4 := fun p v h => cell_later hB4 (p := p) (v := v) h; obtain ⟨x0, x1, x2, x3, x4, x5, x6, x7, x8, x9, x10, x11⟩ := (l12.all hD14).twelve)
        | (go_at_call 141; refine (unhide H5 _ (by repeat (first | exact hA14 | exact Below.refl _ _ | refine balloc2 ?_ | refine Below.drew ?_)) _ (ho4.keep (by repeat (first | exact Below.refl _ _ | exact Below.refl _ _ | refine balloc2 ?_ | refine Below.drew ?_))) _ (by first | (simp; done) | exact (hY4 _ _ (by simp)) | exact (hY4 _ _ (hY3 _ _ (by simp))))).mono ?_; clear H5; rintro e w15 ⟨b5, d5, rfl, ho5, hB5⟩; have hA15 := bstep (a := w) (by repeat (first | exact hA14 | exact Below.refl _ _ | refine balloc2 ?_ | refine Below.drew ?_)) hB5; have hD15 := bstep (a := w12) (by repeat (first | exact hD14 | exact Below.refl _ _ | refine balloc2 ?_ | refine Below.drew ?_)) hB5; have hY5 := fun p v h => cell_later hB5 (p := p) (v := v) h; obtain ⟨x0, x1, x2, x3, x4, x5, x6, x7, x8, x9, x10, x11⟩ := (l12.all hD15).twelve))
    all_goals
      have l15 := l12.all hD15
      clear x0 x1 x2 x3 x4 x5 x6 x7 x8 x9 x10 x11 hY3 hB3 hD13 hY4 hB4 hD14 hY5 hB5 hD15 ho3 ho4 hA13 hA14
      obtain ⟨x0, x1, x2, x3, x4, x5, x6, x7, x8, x9, x10, x11⟩ := l15.twelve
      go_wp2_with fail
      clear x0 x1 x2 x3 x4 x5 x6 x7 x8 x9 x10 x11
      obtain ⟨x0, x1, x2, x3, x4, x5, x6, x7, x8, x9, x10, x11⟩ := l15.twelve
      go_region_held3 (fun w' => w'.cell? ⟨w.heap.size, 9, none⟩ = some (.slice a2 o.name.length c2) ∧ w'.cell? ⟨w.heap.size, 10, none⟩ = some (.slice a3 o.text.length c3))
        (first | exact ⟨by assumption, by assumption⟩ | go_keep)
        (first
          | (go_at_call 143; refine (unhide H6 _ (by repeat (first | exact hA15 | exact Below.refl _ _ | refine balloc2 ?_ | refine Below.drew ?_)) _ (ho5.keep (by repeat (first | exact Below.refl _ _ | exact Below.refl _ _ | refine balloc2 ?_ | refine Below.drew ?_)))).mono ?_; clear H6; rintro e w16 ⟨b6, d6, rfl, ho6, hB6⟩; have hA16 := bstep (a := w) (by repeat (first | exact hA15 | exact Below.refl _ _ | refine balloc2 ?_ | refine Below.drew ?_)) hB6; have hD16 := bstep (a := w15) (by repeat (first | exact Below.refl _ _ | exact Below.refl _ _ | refine balloc2 ?_ | refine Below.drew ?_)) hB6; have hY6 := fun p v h => cell_later hB6 (p := p) (v := v) h; obtain ⟨x0, x1, x2, x3, x4, x5, x6, x7, x8, x9, x10, x11⟩ := (l15.all hD16).twelve)
          | (go_at_call 143; refine (unhide H7 _ (by repeat (first | exact hA16 | exact Below.refl _ _ | refine balloc2 ?_ | refine Below.drew ?_)) _ (ho6.keep (by repeat (first | exact Below.refl _ _ | exact Below.refl _ _ | refine balloc2 ?_ | refine Below.drew ?_)))).mono ?_; clear H7; rintro e w17 ⟨b7, d7, rfl, ho7, hB7⟩; have hA17 := bstep (a := w) (by repeat (first | exact hA16 | exact Below.refl _ _ | refine balloc2 ?_ | refine Below.drew ?_)) hB7; have hD17 := bstep (a := w15) (by repeat (first | exact hD16 | exact Below.refl _ _ | refine balloc2 ?_ | refine Below.drew ?_)) hB7; have hY7 := fun p v h => cell_later hB7 (p := p) (v := v) h; obtain ⟨x0, x1, x2, x3, x4, x5, x6, x7, x8, x9, x10, x11⟩ := (l15.all hD17).twelve))
      all_goals
        have l17 := l15.all hD17
        clear x0 x1 x2 x3 x4 x5 x6 x7 x8 x9 x10 x11 hY6 hB6 hD16 hY7 hB7 hD17 ho6 hA16
        obtain ⟨x0, x1, x2, x3, x4, x5, x6, x7, x8, x9, x10, x11⟩ := l17.twelve
        go_wp2_with fail
        clear x0 x1 x2 x3 x4 x5 x6 x7 x8 x9 x10 x11
        go_ret2
        exact ⟨b7, d7, rfl, ho7, hA17⟩

set_option maxHeartbeats 12800000 in
theorem bytesI_1 (w : World) (o : OpV) (a1 a2 a3 : Option Addr) (c1 c2 c3 : Nat) (hk : Ints w (.slice a1 o.key.length c1) o.key) (hn : Byt w (.slice a2 o.name.length c2) o.name) (ht : Byt w (.slice a3 o.text.length c3) o.text) (hs : o.key.length ≤ 2097152) (hb : opB o = true) (F1 : inR o.atN) (F2 : inR o.atR) (F3 : inR o.nodeN) (F4 : inR o.nodeR) (F5 : inR o.parN) (F6 : inR o.parR) (k0 : o.kind = 1) :
    Calls Tryz.prog 122 #[opVal o (.slice a1 o.key.length c1) (.slice a2 o.name.length c2) (.slice a3 o.text.length c3)] w fun e w' => ∃ a c, e = .returned (.tuple #[.slice a (opBytes o).length c, .bool true]) ∧ Own w' w.heap.size (.slice a (opBytes o).length c) (opBytes o) ∧ Below w.heap.size w w' := by
  have HK := hide hk
  have HM := hide hn
  have HX := hide ht
  clear hk hn ht
  have Ln : ([] : List Int).length = 0 := rfl
  have HO := hide (fun (W : World) (hW : Below w.heap.size w W) => opI_any W _ o ⟨_, _, _, rfl, (unhide HK).keep hW, (unhide HM).keep hW, (unhide HX).keep hW⟩)
  rw [hb] at HO
  clear hb
  unfold opVal at HO
  rw [k0] at HO
  obtain ⟨r1, e1⟩ : ∃ r, r = putAll ([] : List Int) 1 := ⟨_, rfl⟩
  have L1 := putAll_len ([] : List Int) 1
  have H1 := hide (fun (W : World) (hW : Below w.heap.size w W) (v : Value) (h : Own W w.heap.size v ([] : List Int)) (g : Nat) (c0 : W.cell? ⟨g, 0, none⟩ = some (.int .i64 (1))) => putNum_at W w.heap.size v ([] : List Int) 1 g h hW.size ⟨by decide, by decide⟩ c0 (by omega))
  rw [← e1] at L1 H1
  obtain ⟨r2, e2⟩ : ∃ r, r = putId r1 o.atN o.atR := ⟨_, rfl⟩
  have L2 := putId_len r1 o.atN o.atR
  have H2 := hide (fun (W : World) (hW : Below w.heap.size w W) (v : Value) (h : Own W w.heap.size v r1) (g : Nat) (c0 : W.cell? ⟨g, 0, none⟩ = some (.int .i64 o.atN)) (c1 : W.cell? ⟨g, 1, none⟩ = some (.int .i64 o.atR)) => putId_at W w.heap.size v r1 o.atN o.atR g h hW.size F1 F2 c0 c1 (by omega))
  rw [← e2] at L2 H2
  obtain ⟨r3, e3⟩ : ∃ r, r = putId (putId r2 o.nodeN o.nodeR) o.parN o.parR := ⟨_, rfl⟩
  have L3 := putId_len2 r2 o.nodeN o.nodeR o.parN o.parR
  have H3 := hide (fun (W : World) (hW : Below w.heap.size w W) (v : Value) (h : Own W w.heap.size v r2) (g : Nat) (c0 : W.cell? ⟨g, 0, none⟩ = some (.int .i64 o.nodeN)) (c1 : W.cell? ⟨g, 1, none⟩ = some (.int .i64 o.nodeR)) (c2 : W.cell? ⟨g, 2, none⟩ = some (.int .i64 o.parN)) (c3 : W.cell? ⟨g, 3, none⟩ = some (.int .i64 o.parR)) => putId_at2 W w.heap.size v r2 o.nodeN o.nodeR o.parN o.parR g h hW.size F3 F4 F5 F6 c0 c1 c2 c3 (by omega))
  rw [← e3] at L3 H3
  obtain ⟨r4, e4⟩ : ∃ r, r = putKey r3 o.key := ⟨_, rfl⟩
  have L4 := putKey_len r3 o.key
  have H4 := hide (fun (W : World) (hW : Below w.heap.size w W) (v : Value) (h : Own W w.heap.size v r3) => putKey_any W w.heap.size v _ r3 o.key h hW.size ((unhide HK).keep hW) (by omega) (by omega))
  rw [← e4] at L4 H4
  have HE := hide (show opBytes o = r4 by unfold opBytes opHd; rw [k0, if_neg (by decide), if_pos rfl]; rw [e4, e3, e2, e1])
  clear e4 L4 e3 L3 e2 L2 e1 L1
  have hA0 : Below w.heap.size w (w.alloc (.cells #[.int .i64 1, .int .i64 o.atN, .int .i64 o.atR, .int .i64 o.nodeN, .int .i64 o.nodeR, .int .i64 o.parN, .int .i64 o.parR, .slice a1 o.key.length c1, .int .i64 o.elem, .slice a2 o.name.length c2, .slice a3 o.text.length c3, .bool o.gone] 28)) := (Below.refl w.heap.size w).alloc (Nat.le_refl _) _
  have l0 := Loc.made w #[.int .i64 1, .int .i64 o.atN, .int .i64 o.atR, .int .i64 o.nodeN, .int .i64 o.nodeR, .int .i64 o.parN, .int .i64 o.parR, .slice a1 o.key.length c1, .int .i64 o.elem, .slice a2 o.name.length c2, .slice a3 o.text.length c3, .bool o.gone] 28
  rw [unhide HE]
  clear HE
  unfold opVal
  rw [k0]
  go_enter Tryz.func122, Tryz.ntmps122
  go_wp2_with fail
  generalize (w.alloc (.cells #[.int .i64 1, .int .i64 o.atN, .int .i64 o.atR, .int .i64 o.nodeN, .int .i64 o.nodeR, .int .i64 o.parN, .int .i64 o.parR, .slice a1 o.key.length c1, .int .i64 o.elem, .slice a2 o.name.length c2, .slice a3 o.text.length c3, .bool o.gone] 28)) = w0 at *
  refine (unhide HO w0 hA0).mono ?_
  clear HO
  rintro e w1 ⟨rfl, hB0⟩
  have hA1 := bstep hA0 hB0
  have l1 := l0.all hB0
  clear hA0 l0 hB0
  obtain ⟨x0, x1, x2, x3, x4, x5, x6, x7, x8, x9, x10, x11⟩ := l1.twelve
  go_wp2_with fail
  clear x0 x1 x2 x3 x4 x5 x6 x7 x8 x9 x10 x11
  obtain ⟨x0, x1, x2, x3, x4, x5, x6, x7, x8, x9, x10, x11⟩ := l1.twelve
  go_region_held3 (fun w' => w'.cell? ⟨w.heap.size, 0, none⟩ = some (.int .i64 1) ∧ w'.cell? ⟨w.heap.size, 1, none⟩ = some (.int .i64 o.atN) ∧ w'.cell? ⟨w.heap.size, 2, none⟩ = some (.int .i64 o.atR))
    (first | exact ⟨by assumption, by assumption, by assumption⟩ | go_keep)
    (first
      | (go_at_call 141; refine (unhide H1 _ (by repeat (first | exact hA1 | exact Below.refl _ _ | refine balloc2 ?_ | refine Below.drew ?_)) _ (own_nil2 _ _) _ (by first | (simp; done))).mono ?_; clear H1; rintro e w11 ⟨b1, d1, rfl, ho1, hB1⟩; have hA11 := bstep (a := w) (by repeat (first | exact hA1 | exact Below.refl _ _ | refine balloc2 ?_ | refine Below.drew ?_)) hB1; have hD11 := bstep (a := w1) (by repeat (first | exact Below.refl _ _ | exact Below.refl _ _ | refine balloc2 ?_ | refine Below.drew ?_)) hB1; have hY1 := fun p v h => cell_later hB1 (p := p) (v := v) h; obtain ⟨x0, x1, x2, x3, x4, x5, x6, x7, x8, x9, x10, x11⟩ := (l1.all hD11).twelve)
      | (go_at_call 140; refine (unhide H2 _ (by repeat (first | exact hA11 | exact Below.refl _ _ | refine balloc2 ?_ | refine Below.drew ?_)) _ (ho1.keep (by repeat (first | exact Below.refl _ _ | exact Below.refl _ _ | refine balloc2 ?_ | refine Below.drew ?_))) _ (by first | (simp; done) | exact (hY1 _ _ (by simp))) (by first | (simp; done) | exact (hY1 _ _ (by simp)))).mono ?_; clear H2; rintro e w12 ⟨b2, d2, rfl, ho2, hB2⟩; have hA12 := bstep (a := w) (by repeat (first | exact hA11 | exact Below.refl _ _ | refine balloc2 ?_ | refine Below.drew ?_)) hB2; have hD12 := bstep (a := w1) (by repeat (first | exact hD11 | exact Below.refl _ _ | refine balloc2 ?_ | refine Below.drew ?_)) hB2; have hY2 := fun p v h => cell_later hB2 (p := p) (v := v) h; obtain ⟨x0, x1, x2, x3, x4, x5, x6, x7, x8, x9, x10, x11⟩ := (l1.all hD12).twelve))
  all_goals
    have l12 := l1.all hD12
    clear x0 x1 x2 x3 x4 x5 x6 x7 x8 x9 x10 x11 hY1 hB1 hD11 hY2 hB2 hD12 ho1 hA11
    obtain ⟨x0, x1, x2, x3, x4, x5, x6, x7, x8, x9, x10, x11⟩ := l12.twelve
    go_wp2_with fail
    clear x0 x1 x2 x3 x4 x5 x6 x7 x8 x9 x10 x11
    obtain ⟨x0, x1, x2, x3, x4, x5, x6, x7, x8, x9, x10, x11⟩ := l12.twelve
    go_region_held3 (fun w' => w'.cell? ⟨w.heap.size, 3, none⟩ = some (.int .i64 o.nodeN) ∧ w'.cell? ⟨w.heap.size, 4, none⟩ = some (.int .i64 o.nodeR) ∧ w'.cell? ⟨w.heap.size, 5, none⟩ = some (.int .i64 o.parN) ∧ w'.cell? ⟨w.heap.size, 6, none⟩ = some (.int .i64 o.parR) ∧ w'.cell? ⟨w.heap.size, 7, none⟩ = some (.slice a1 o.key.length c1))
      (first | exact ⟨by assumption, by assumption, by assumption, by assumption, by assumption⟩ | go_keep)
      (first
        | (go_at_call 140; refine (unhide H3 _ (by repeat (first | exact hA12 | exact Below.refl _ _ | refine balloc2 ?_ | refine Below.drew ?_)) _ (ho2.keep (by repeat (first | exact Below.refl _ _ | exact Below.refl _ _ | refine balloc2 ?_ | refine Below.drew ?_))) _ (by first | (simp; done)) (by first | (simp; done)) (by first | (simp; done)) (by first | (simp; done))).mono ?_; clear H3; rintro e w13 ⟨b3, d3, rfl, ho3, hB3⟩; have hA13 := bstep (a := w) (by repeat (first | exact hA12 | exact Below.refl _ _ | refine balloc2 ?_ | refine Below.drew ?_)) hB3; have hD13 := bstep (a := w12) (by repeat (first | exact Below.refl _ _ | exact Below.refl _ _ | refine balloc2 ?_ | refine Below.drew ?_)) hB3; have hY3 := fun p v h => cell_later hB3 (p := p) (v := v) h; obtain ⟨x0, x1, x2, x3, x4, x5, x6, x7, x8, x9, x10, x11⟩ := (l12.all hD13).twelve)
        | (go_at_call 142; refine (unhide H4 _ (by repeat (first | exact hA13 | exact Below.refl _ _ | refine balloc2 ?_ | refine Below.drew ?_)) _ (ho3.keep (by repeat (first | exact Below.refl _ _ | exact Below.refl _ _ | refine balloc2 ?_ | refine Below.drew ?_)))).mono ?_; clear H4; rintro e w14 ⟨b4, d4, rfl, ho4, hB4⟩; have hA14 := bstep (a := w) (by repeat (first | exact hA13 | exact Below.refl _ _ | refine balloc2 ?_ | refine Below.drew ?_)) hB4; have hD14 := bstep (a := w12) (by repeat (first | exact hD13 | exact Below.refl _ _ | refine balloc2 ?_ | refine Below.drew ?_)) hB4; have hY4 := fun p v h => cell_later hB4 (p := p) (v := v) h; obtain ⟨x0, x1, x2, x3, x4, x5, x6, x7, x8, x9, x10, x11⟩ := (l12.all hD14).twelve))
    all_goals
      have l14 := l12.all hD14
      clear x0 x1 x2 x3 x4 x5 x6 x7 x8 x9 x10 x11 hY3 hB3 hD13 hY4 hB4 hD14 ho3 hA13
      obtain ⟨x0, x1, x2, x3, x4, x5, x6, x7, x8, x9, x10, x11⟩ := l14.twelve
      go_wp2_with fail
      clear x0 x1 x2 x3 x4 x5 x6 x7 x8 x9 x10 x11
      go_ret2
      exact ⟨b4, d4, rfl, ho4, hA14⟩

set_option maxHeartbeats 12800000 in
theorem bytesI_2 (w : World) (o : OpV) (a1 a2 a3 : Option Addr) (c1 c2 c3 : Nat) (hk : Ints w (.slice a1 o.key.length c1) o.key) (hn : Byt w (.slice a2 o.name.length c2) o.name) (ht : Byt w (.slice a3 o.text.length c3) o.text) (hs : o.key.length ≤ 2097152) (hb : opB o = true) (F1 : inR o.atN) (F2 : inR o.atR) (F3 : inR o.nodeN) (F4 : inR o.nodeR) (k0 : o.kind = 2) :
    Calls Tryz.prog 122 #[opVal o (.slice a1 o.key.length c1) (.slice a2 o.name.length c2) (.slice a3 o.text.length c3)] w fun e w' => ∃ a c, e = .returned (.tuple #[.slice a (opBytes o).length c, .bool true]) ∧ Own w' w.heap.size (.slice a (opBytes o).length c) (opBytes o) ∧ Below w.heap.size w w' := by
  have HK := hide hk
  have HM := hide hn
  have HX := hide ht
  clear hk hn ht
  have Ln : ([] : List Int).length = 0 := rfl
  have HO := hide (fun (W : World) (hW : Below w.heap.size w W) => opI_any W _ o ⟨_, _, _, rfl, (unhide HK).keep hW, (unhide HM).keep hW, (unhide HX).keep hW⟩)
  rw [hb] at HO
  clear hb
  unfold opVal at HO
  rw [k0] at HO
  obtain ⟨r1, e1⟩ : ∃ r, r = putAll ([] : List Int) 2 := ⟨_, rfl⟩
  have L1 := putAll_len ([] : List Int) 2
  have H1 := hide (fun (W : World) (hW : Below w.heap.size w W) (v : Value) (h : Own W w.heap.size v ([] : List Int)) (g : Nat) (c0 : W.cell? ⟨g, 0, none⟩ = some (.int .i64 (2))) => putNum_at W w.heap.size v ([] : List Int) 2 g h hW.size ⟨by decide, by decide⟩ c0 (by omega))
  rw [← e1] at L1 H1
  obtain ⟨r2, e2⟩ : ∃ r, r = putId r1 o.atN o.atR := ⟨_, rfl⟩
  have L2 := putId_len r1 o.atN o.atR
  have H2 := hide (fun (W : World) (hW : Below w.heap.size w W) (v : Value) (h : Own W w.heap.size v r1) (g : Nat) (c0 : W.cell? ⟨g, 0, none⟩ = some (.int .i64 o.atN)) (c1 : W.cell? ⟨g, 1, none⟩ = some (.int .i64 o.atR)) => putId_at W w.heap.size v r1 o.atN o.atR g h hW.size F1 F2 c0 c1 (by omega))
  rw [← e2] at L2 H2
  obtain ⟨r3, e3⟩ : ∃ r, r = putId r2 o.nodeN o.nodeR := ⟨_, rfl⟩
  have L3 := putId_len r2 o.nodeN o.nodeR
  have H3 := hide (fun (W : World) (hW : Below w.heap.size w W) (v : Value) (h : Own W w.heap.size v r2) (g : Nat) (c0 : W.cell? ⟨g, 0, none⟩ = some (.int .i64 o.nodeN)) (c1 : W.cell? ⟨g, 1, none⟩ = some (.int .i64 o.nodeR)) => putId_at W w.heap.size v r2 o.nodeN o.nodeR g h hW.size F3 F4 c0 c1 (by omega))
  rw [← e3] at L3 H3
  obtain ⟨r4, e4⟩ : ∃ r, r = putT r3 o.text := ⟨_, rfl⟩
  have L4 := putT_len r3 o.text
  have H4 := hide (fun (W : World) (hW : Below w.heap.size w W) (v : Value) (h : Own W w.heap.size v r3) => rw_base (putTI_own W v _ r3 o.text h.byt ((unhide HX).keep hW) (by omega)) hW.size)
  rw [← e4] at L4 H4
  have HE := hide (show opBytes o = r4 by unfold opBytes opHd; rw [k0, if_neg (by decide), if_neg (by decide), if_pos rfl]; rw [e4, e3, e2, e1])
  clear e4 L4 e3 L3 e2 L2 e1 L1
  have hA0 : Below w.heap.size w (w.alloc (.cells #[.int .i64 2, .int .i64 o.atN, .int .i64 o.atR, .int .i64 o.nodeN, .int .i64 o.nodeR, .int .i64 o.parN, .int .i64 o.parR, .slice a1 o.key.length c1, .int .i64 o.elem, .slice a2 o.name.length c2, .slice a3 o.text.length c3, .bool o.gone] 28)) := (Below.refl w.heap.size w).alloc (Nat.le_refl _) _
  have l0 := Loc.made w #[.int .i64 2, .int .i64 o.atN, .int .i64 o.atR, .int .i64 o.nodeN, .int .i64 o.nodeR, .int .i64 o.parN, .int .i64 o.parR, .slice a1 o.key.length c1, .int .i64 o.elem, .slice a2 o.name.length c2, .slice a3 o.text.length c3, .bool o.gone] 28
  rw [unhide HE]
  clear HE
  unfold opVal
  rw [k0]
  go_enter Tryz.func122, Tryz.ntmps122
  go_wp2_with fail
  generalize (w.alloc (.cells #[.int .i64 2, .int .i64 o.atN, .int .i64 o.atR, .int .i64 o.nodeN, .int .i64 o.nodeR, .int .i64 o.parN, .int .i64 o.parR, .slice a1 o.key.length c1, .int .i64 o.elem, .slice a2 o.name.length c2, .slice a3 o.text.length c3, .bool o.gone] 28)) = w0 at *
  refine (unhide HO w0 hA0).mono ?_
  clear HO
  rintro e w1 ⟨rfl, hB0⟩
  have hA1 := bstep hA0 hB0
  have l1 := l0.all hB0
  clear hA0 l0 hB0
  obtain ⟨x0, x1, x2, x3, x4, x5, x6, x7, x8, x9, x10, x11⟩ := l1.twelve
  go_wp2_with fail
  clear x0 x1 x2 x3 x4 x5 x6 x7 x8 x9 x10 x11
  obtain ⟨x0, x1, x2, x3, x4, x5, x6, x7, x8, x9, x10, x11⟩ := l1.twelve
  go_region_held3 (fun w' => w'.cell? ⟨w.heap.size, 0, none⟩ = some (.int .i64 2) ∧ w'.cell? ⟨w.heap.size, 1, none⟩ = some (.int .i64 o.atN) ∧ w'.cell? ⟨w.heap.size, 2, none⟩ = some (.int .i64 o.atR))
    (first | exact ⟨by assumption, by assumption, by assumption⟩ | go_keep)
    (first
      | (go_at_call 141; refine (unhide H1 _ (by repeat (first | exact hA1 | exact Below.refl _ _ | refine balloc2 ?_ | refine Below.drew ?_)) _ (own_nil2 _ _) _ (by first | (simp; done))).mono ?_; clear H1; rintro e w11 ⟨b1, d1, rfl, ho1, hB1⟩; have hA11 := bstep (a := w) (by repeat (first | exact hA1 | exact Below.refl _ _ | refine balloc2 ?_ | refine Below.drew ?_)) hB1; have hD11 := bstep (a := w1) (by repeat (first | exact Below.refl _ _ | exact Below.refl _ _ | refine balloc2 ?_ | refine Below.drew ?_)) hB1; have hY1 := fun p v h => cell_later hB1 (p := p) (v := v) h; obtain ⟨x0, x1, x2, x3, x4, x5, x6, x7, x8, x9, x10, x11⟩ := (l1.all hD11).twelve)
      | (go_at_call 140; refine (unhide H2 _ (by repeat (first | exact hA11 | exact Below.refl _ _ | refine balloc2 ?_ | refine Below.drew ?_)) _ (ho1.keep (by repeat (first | exact Below.refl _ _ | exact Below.refl _ _ | refine balloc2 ?_ | refine Below.drew ?_))) _ (by first | (simp; done) | exact (hY1 _ _ (by simp))) (by first | (simp; done) | exact (hY1 _ _ (by simp)))).mono ?_; clear H2; rintro e w12 ⟨b2, d2, rfl, ho2, hB2⟩; have hA12 := bstep (a := w) (by repeat (first | exact hA11 | exact Below.refl _ _ | refine balloc2 ?_ | refine Below.drew ?_)) hB2; have hD12 := bstep (a := w1) (by repeat (first | exact hD11 | exact Below.refl _ _ | refine balloc2 ?_ | refine Below.drew ?_)) hB2; have hY2 := fun p v h => cell_later hB2 (p := p) (v := v) h; obtain ⟨x0, x1, x2, x3, x4, x5, x6, x7, x8, x9, x10, x11⟩ := (l1.all hD12).twelve))
  all_goals
    have l12 := l1.all hD12
    clear x0 x1 x2 x3 x4 x5 x6 x7 x8 x9 x10 x11 hY1 hB1 hD11 hY2 hB2 hD12 ho1 hA11
    obtain ⟨x0, x1, x2, x3, x4, x5, x6, x7, x8, x9, x10, x11⟩ := l12.twelve
    go_wp2_with fail
    clear x0 x1 x2 x3 x4 x5 x6 x7 x8 x9 x10 x11
    obtain ⟨x0, x1, x2, x3, x4, x5, x6, x7, x8, x9, x10, x11⟩ := l12.twelve
    go_region_held3 (fun w' => w'.cell? ⟨w.heap.size, 3, none⟩ = some (.int .i64 o.nodeN) ∧ w'.cell? ⟨w.heap.size, 4, none⟩ = some (.int .i64 o.nodeR) ∧ w'.cell? ⟨w.heap.size, 10, none⟩ = some (.slice a3 o.text.length c3))
      (first | exact ⟨by assumption, by assumption, by assumption⟩ | go_keep)
      (first
        | (go_at_call 140; refine (unhide H3 _ (by repeat (first | exact hA12 | exact Below.refl _ _ | refine balloc2 ?_ | refine Below.drew ?_)) _ (ho2.keep (by repeat (first | exact Below.refl _ _ | exact Below.refl _ _ | refine balloc2 ?_ | refine Below.drew ?_))) _ (by first | (simp; done)) (by first | (simp; done))).mono ?_; clear H3; rintro e w13 ⟨b3, d3, rfl, ho3, hB3⟩; have hA13 := bstep (a := w) (by repeat (first | exact hA12 | exact Below.refl _ _ | refine balloc2 ?_ | refine Below.drew ?_)) hB3; have hD13 := bstep (a := w12) (by repeat (first | exact Below.refl _ _ | exact Below.refl _ _ | refine balloc2 ?_ | refine Below.drew ?_)) hB3; have hY3 := fun p v h => cell_later hB3 (p := p) (v := v) h; obtain ⟨x0, x1, x2, x3, x4, x5, x6, x7, x8, x9, x10, x11⟩ := (l12.all hD13).twelve)
        | (go_at_call 143; refine (unhide H4 _ (by repeat (first | exact hA13 | exact Below.refl _ _ | refine balloc2 ?_ | refine Below.drew ?_)) _ (ho3.keep (by repeat (first | exact Below.refl _ _ | exact Below.refl _ _ | refine balloc2 ?_ | refine Below.drew ?_)))).mono ?_; clear H4; rintro e w14 ⟨b4, d4, rfl, ho4, hB4⟩; have hA14 := bstep (a := w) (by repeat (first | exact hA13 | exact Below.refl _ _ | refine balloc2 ?_ | refine Below.drew ?_)) hB4; have hD14 := bstep (a := w12) (by repeat (first | exact hD13 | exact Below.refl _ _ | refine balloc2 ?_ | refine Below.drew ?_)) hB4; have hY4 := fun p v h => cell_later hB4 (p := p) (v := v) h; obtain ⟨x0, x1, x2, x3, x4, x5, x6, x7, x8, x9, x10, x11⟩ := (l12.all hD14).twelve))
    all_goals
      have l14 := l12.all hD14
      clear x0 x1 x2 x3 x4 x5 x6 x7 x8 x9 x10 x11 hY3 hB3 hD13 hY4 hB4 hD14 ho3 hA13
      obtain ⟨x0, x1, x2, x3, x4, x5, x6, x7, x8, x9, x10, x11⟩ := l14.twelve
      go_wp2_with fail
      clear x0 x1 x2 x3 x4 x5 x6 x7 x8 x9 x10 x11
      go_ret2
      exact ⟨b4, d4, rfl, ho4, hA14⟩

set_option maxHeartbeats 12800000 in
theorem bytesI_3 (w : World) (o : OpV) (a1 a2 a3 : Option Addr) (c1 c2 c3 : Nat) (hk : Ints w (.slice a1 o.key.length c1) o.key) (hn : Byt w (.slice a2 o.name.length c2) o.name) (ht : Byt w (.slice a3 o.text.length c3) o.text) (hs : o.key.length ≤ 2097152) (hb : opB o = true) (F1 : inR o.atN) (F2 : inR o.atR) (F3 : inR o.nodeN) (F4 : inR o.nodeR) (k0 : o.kind = 3) :
    Calls Tryz.prog 122 #[opVal o (.slice a1 o.key.length c1) (.slice a2 o.name.length c2) (.slice a3 o.text.length c3)] w fun e w' => ∃ a c, e = .returned (.tuple #[.slice a (opBytes o).length c, .bool true]) ∧ Own w' w.heap.size (.slice a (opBytes o).length c) (opBytes o) ∧ Below w.heap.size w w' := by
  have HK := hide hk
  have HM := hide hn
  have HX := hide ht
  clear hk hn ht
  have Ln : ([] : List Int).length = 0 := rfl
  have HO := hide (fun (W : World) (hW : Below w.heap.size w W) => opI_any W _ o ⟨_, _, _, rfl, (unhide HK).keep hW, (unhide HM).keep hW, (unhide HX).keep hW⟩)
  rw [hb] at HO
  clear hb
  unfold opVal at HO
  rw [k0] at HO
  obtain ⟨r1, e1⟩ : ∃ r, r = putAll ([] : List Int) 3 := ⟨_, rfl⟩
  have L1 := putAll_len ([] : List Int) 3
  have H1 := hide (fun (W : World) (hW : Below w.heap.size w W) (v : Value) (h : Own W w.heap.size v ([] : List Int)) (g : Nat) (c0 : W.cell? ⟨g, 0, none⟩ = some (.int .i64 (3))) => putNum_at W w.heap.size v ([] : List Int) 3 g h hW.size ⟨by decide, by decide⟩ c0 (by omega))
  rw [← e1] at L1 H1
  obtain ⟨r2, e2⟩ : ∃ r, r = putId r1 o.atN o.atR := ⟨_, rfl⟩
  have L2 := putId_len r1 o.atN o.atR
  have H2 := hide (fun (W : World) (hW : Below w.heap.size w W) (v : Value) (h : Own W w.heap.size v r1) (g : Nat) (c0 : W.cell? ⟨g, 0, none⟩ = some (.int .i64 o.atN)) (c1 : W.cell? ⟨g, 1, none⟩ = some (.int .i64 o.atR)) => putId_at W w.heap.size v r1 o.atN o.atR g h hW.size F1 F2 c0 c1 (by omega))
  rw [← e2] at L2 H2
  obtain ⟨r3, e3⟩ : ∃ r, r = putId r2 o.nodeN o.nodeR := ⟨_, rfl⟩
  have L3 := putId_len r2 o.nodeN o.nodeR
  have H3 := hide (fun (W : World) (hW : Below w.heap.size w W) (v : Value) (h : Own W w.heap.size v r2) (g : Nat) (c0 : W.cell? ⟨g, 0, none⟩ = some (.int .i64 o.nodeN)) (c1 : W.cell? ⟨g, 1, none⟩ = some (.int .i64 o.nodeR)) => putId_at W w.heap.size v r2 o.nodeN o.nodeR g h hW.size F3 F4 c0 c1 (by omega))
  rw [← e3] at L3 H3
  obtain ⟨r4, e4⟩ : ∃ r, r = putT r3 o.name := ⟨_, rfl⟩
  have L4 := putT_len r3 o.name
  have H4 := hide (fun (W : World) (hW : Below w.heap.size w W) (v : Value) (h : Own W w.heap.size v r3) => rw_base (putTI_own W v _ r3 o.name h.byt ((unhide HM).keep hW) (by omega)) hW.size)
  rw [← e4] at L4 H4
  obtain ⟨r5, e5⟩ : ∃ r, r = putVal r4 o.text o.gone := ⟨_, rfl⟩
  have L5 := putVal_len r4 o.text o.gone
  have H5 := hide (fun (W : World) (hW : Below w.heap.size w W) (v : Value) (h : Own W w.heap.size v r4) => putVal_any W w.heap.size v _ r4 o.text o.gone h hW.size ((unhide HX).keep hW) (by omega))
  rw [← e5] at L5 H5
  have HE := hide (show opBytes o = r5 by unfold opBytes opHd; rw [k0, if_neg (by decide), if_neg (by decide), if_neg (by decide)]; rw [e5, e4, e3, e2, e1]; unfold putVal; rfl)
  clear e5 L5 e4 L4 e3 L3 e2 L2 e1 L1
  have hA0 : Below w.heap.size w (w.alloc (.cells #[.int .i64 3, .int .i64 o.atN, .int .i64 o.atR, .int .i64 o.nodeN, .int .i64 o.nodeR, .int .i64 o.parN, .int .i64 o.parR, .slice a1 o.key.length c1, .int .i64 o.elem, .slice a2 o.name.length c2, .slice a3 o.text.length c3, .bool o.gone] 28)) := (Below.refl w.heap.size w).alloc (Nat.le_refl _) _
  have l0 := Loc.made w #[.int .i64 3, .int .i64 o.atN, .int .i64 o.atR, .int .i64 o.nodeN, .int .i64 o.nodeR, .int .i64 o.parN, .int .i64 o.parR, .slice a1 o.key.length c1, .int .i64 o.elem, .slice a2 o.name.length c2, .slice a3 o.text.length c3, .bool o.gone] 28
  rw [unhide HE]
  clear HE
  unfold opVal
  rw [k0]
  go_enter Tryz.func122, Tryz.ntmps122
  go_wp2_with fail
  generalize (w.alloc (.cells #[.int .i64 3, .int .i64 o.atN, .int .i64 o.atR, .int .i64 o.nodeN, .int .i64 o.nodeR, .int .i64 o.parN, .int .i64 o.parR, .slice a1 o.key.length c1, .int .i64 o.elem, .slice a2 o.name.length c2, .slice a3 o.text.length c3, .bool o.gone] 28)) = w0 at *
  refine (unhide HO w0 hA0).mono ?_
  clear HO
  rintro e w1 ⟨rfl, hB0⟩
  have hA1 := bstep hA0 hB0
  have l1 := l0.all hB0
  clear hA0 l0 hB0
  obtain ⟨x0, x1, x2, x3, x4, x5, x6, x7, x8, x9, x10, x11⟩ := l1.twelve
  go_wp2_with fail
  clear x0 x1 x2 x3 x4 x5 x6 x7 x8 x9 x10 x11
  obtain ⟨x0, x1, x2, x3, x4, x5, x6, x7, x8, x9, x10, x11⟩ := l1.twelve
  go_region_held3 (fun w' => w'.cell? ⟨w.heap.size, 0, none⟩ = some (.int .i64 3) ∧ w'.cell? ⟨w.heap.size, 1, none⟩ = some (.int .i64 o.atN) ∧ w'.cell? ⟨w.heap.size, 2, none⟩ = some (.int .i64 o.atR))
    (first | exact ⟨by assumption, by assumption, by assumption⟩ | go_keep)
    (first
      | (go_at_call 141; refine (unhide H1 _ (by repeat (first | exact hA1 | exact Below.refl _ _ | refine balloc2 ?_ | refine Below.drew ?_)) _ (own_nil2 _ _) _ (by first | (simp; done))).mono ?_; clear H1; rintro e w11 ⟨b1, d1, rfl, ho1, hB1⟩; have hA11 := bstep (a := w) (by repeat (first | exact hA1 | exact Below.refl _ _ | refine balloc2 ?_ | refine Below.drew ?_)) hB1; have hD11 := bstep (a := w1) (by repeat (first | exact Below.refl _ _ | exact Below.refl _ _ | refine balloc2 ?_ | refine Below.drew ?_)) hB1; have hY1 := fun p v h => cell_later hB1 (p := p) (v := v) h; obtain ⟨x0, x1, x2, x3, x4, x5, x6, x7, x8, x9, x10, x11⟩ := (l1.all hD11).twelve)
      | (go_at_call 140; refine (unhide H2 _ (by repeat (first | exact hA11 | exact Below.refl _ _ | refine balloc2 ?_ | refine Below.drew ?_)) _ (ho1.keep (by repeat (first | exact Below.refl _ _ | exact Below.refl _ _ | refine balloc2 ?_ | refine Below.drew ?_))) _ (by first | (simp; done) | exact (hY1 _ _ (by simp))) (by first | (simp; done) | exact (hY1 _ _ (by simp)))).mono ?_; clear H2; rintro e w12 ⟨b2, d2, rfl, ho2, hB2⟩; have hA12 := bstep (a := w) (by repeat (first | exact hA11 | exact Below.refl _ _ | refine balloc2 ?_ | refine Below.drew ?_)) hB2; have hD12 := bstep (a := w1) (by repeat (first | exact hD11 | exact Below.refl _ _ | refine balloc2 ?_ | refine Below.drew ?_)) hB2; have hY2 := fun p v h => cell_later hB2 (p := p) (v := v) h; obtain ⟨x0, x1, x2, x3, x4, x5, x6, x7, x8, x9, x10, x11⟩ := (l1.all hD12).twelve))
  all_goals
    have l12 := l1.all hD12
    clear x0 x1 x2 x3 x4 x5 x6 x7 x8 x9 x10 x11 hY1 hB1 hD11 hY2 hB2 hD12 ho1 hA11
    obtain ⟨x0, x1, x2, x3, x4, x5, x6, x7, x8, x9, x10, x11⟩ := l12.twelve
    go_wp2_with fail
    clear x0 x1 x2 x3 x4 x5 x6 x7 x8 x9 x10 x11
    obtain ⟨x0, x1, x2, x3, x4, x5, x6, x7, x8, x9, x10, x11⟩ := l12.twelve
    go_region_held3 (fun w' => w'.cell? ⟨w.heap.size, 3, none⟩ = some (.int .i64 o.nodeN) ∧ w'.cell? ⟨w.heap.size, 4, none⟩ = some (.int .i64 o.nodeR) ∧ w'.cell? ⟨w.heap.size, 9, none⟩ = some (.slice a2 o.name.length c2) ∧ w'.cell? ⟨w.heap.size, 10, none⟩ = some (.slice a3 o.text.length c3) ∧ w'.cell? ⟨w.heap.size, 11, none⟩ = some (.bool o.gone))
      (first | exact ⟨by assumption, by assumption, by assumption, by assumption, by assumption⟩ | go_keep)
      (first
        | (go_at_call 140; refine (unhide H3 _ (by repeat (first | exact hA12 | exact Below.refl _ _ | refine balloc2 ?_ | refine Below.drew ?_)) _ (ho2.keep (by repeat (first | exact Below.refl _ _ | exact Below.refl _ _ | refine balloc2 ?_ | refine Below.drew ?_))) _ (by first | (simp; done)) (by first | (simp; done))).mono ?_; clear H3; rintro e w13 ⟨b3, d3, rfl, ho3, hB3⟩; have hA13 := bstep (a := w) (by repeat (first | exact hA12 | exact Below.refl _ _ | refine balloc2 ?_ | refine Below.drew ?_)) hB3; have hD13 := bstep (a := w12) (by repeat (first | exact Below.refl _ _ | exact Below.refl _ _ | refine balloc2 ?_ | refine Below.drew ?_)) hB3; have hY3 := fun p v h => cell_later hB3 (p := p) (v := v) h; obtain ⟨x0, x1, x2, x3, x4, x5, x6, x7, x8, x9, x10, x11⟩ := (l12.all hD13).twelve)
        | (go_at_call 143; refine (unhide H4 _ (by repeat (first | exact hA13 | exact Below.refl _ _ | refine balloc2 ?_ | refine Below.drew ?_)) _ (ho3.keep (by repeat (first | exact Below.refl _ _ | exact Below.refl _ _ | refine balloc2 ?_ | refine Below.drew ?_)))).mono ?_; clear H4; rintro e w14 ⟨b4, d4, rfl, ho4, hB4⟩; have hA14 := bstep (a := w) (by repeat (first | exact hA13 | exact Below.refl _ _ | refine balloc2 ?_ | refine Below.drew ?_)) hB4; have hD14 := bstep (a := w12) (by repeat (first | exact hD13 | exact Below.refl _ _ | refine balloc2 ?_ | refine Below.drew ?_)) hB4; have hY4 := fun p v h => cell_later hB4 (p := p) (v := v) h; obtain ⟨x0, x1, x2, x3, x4, x5, x6, x7, x8, x9, x10, x11⟩ := (l12.all hD14).twelve)
        | (go_at_call 144; refine (unhide H5 _ (by repeat (first | exact hA14 | exact Below.refl _ _ | refine balloc2 ?_ | refine Below.drew ?_)) _ (ho4.keep (by repeat (first | exact Below.refl _ _ | exact Below.refl _ _ | refine balloc2 ?_ | refine Below.drew ?_)))).mono ?_; clear H5; rintro e w15 ⟨b5, d5, rfl, ho5, hB5⟩; have hA15 := bstep (a := w) (by repeat (first | exact hA14 | exact Below.refl _ _ | refine balloc2 ?_ | refine Below.drew ?_)) hB5; have hD15 := bstep (a := w12) (by repeat (first | exact hD14 | exact Below.refl _ _ | refine balloc2 ?_ | refine Below.drew ?_)) hB5; have hY5 := fun p v h => cell_later hB5 (p := p) (v := v) h; obtain ⟨x0, x1, x2, x3, x4, x5, x6, x7, x8, x9, x10, x11⟩ := (l12.all hD15).twelve))
    all_goals
      have l15 := l12.all hD15
      clear x0 x1 x2 x3 x4 x5 x6 x7 x8 x9 x10 x11 hY3 hB3 hD13 hY4 hB4 hD14 hY5 hB5 hD15 ho3 ho4 hA13 hA14
      obtain ⟨x0, x1, x2, x3, x4, x5, x6, x7, x8, x9, x10, x11⟩ := l15.twelve
      go_wp2_with fail
      clear x0 x1 x2 x3 x4 x5 x6 x7 x8 x9 x10 x11
      go_ret2
      exact ⟨b5, d5, rfl, ho5, hA15⟩

def obV (o : OpV) : List Int := if opB o then opBytes o else []

set_option maxHeartbeats 3200000 in
theorem bytesI_bad (w : World) (o : OpV) (a1 a2 a3 : Option Addr) (c1 c2 c3 : Nat) (hk : Ints w (.slice a1 o.key.length c1) o.key) (hn : Byt w (.slice a2 o.name.length c2) o.name) (ht : Byt w (.slice a3 o.text.length c3) o.text) (hb : opB o = false) :
    Calls Tryz.prog 122 #[opVal o (.slice a1 o.key.length c1) (.slice a2 o.name.length c2) (.slice a3 o.text.length c3)] w fun e w' => e = .returned (.tuple #[.slice none 0 0, .bool false]) ∧ Below w.heap.size w w' := by
  have hA0 : Below w.heap.size w (w.alloc (.cells #[.int .i64 o.kind, .int .i64 o.atN, .int .i64 o.atR, .int .i64 o.nodeN, .int .i64 o.nodeR, .int .i64 o.parN, .int .i64 o.parR, .slice a1 o.key.length c1, .int .i64 o.elem, .slice a2 o.name.length c2, .slice a3 o.text.length c3, .bool o.gone] 28)) := (Below.refl w.heap.size w).alloc (Nat.le_refl _) _
  have HO := hide (opI_any _ _ o ⟨_, _, _, rfl, hk.keep hA0, hn.keep hA0, ht.keep hA0⟩)
  rw [hb] at HO
  unfold opVal at HO
  have HA := hide hA0
  clear hk hn ht hA0
  unfold opVal
  go_enter Tryz.func122, Tryz.ntmps122
  go_wp2_with fail
  refine (unhide HO).mono ?_
  rintro e w1 ⟨rfl, hB⟩
  have hB1 := bstep (unhide HA) hB
  clear HA hB HO
  go_wp2_with fail
  go_ret2
  exact ⟨rfl, hB1⟩

/-- impl.OpBytes, whatever it is asked. -/
theorem bytesI_any (w : World) (v : Value) (o : OpV) (h : RdOp w v o) (hs : o.key.length ≤ 2097152) :
    Calls Tryz.prog 122 #[v] w fun e w' => ∃ a c, e = .returned (.tuple #[.slice a (obV o).length c, .bool (opB o)]) ∧ Own w' w.heap.size (.slice a (obV o).length c) (obV o) ∧ Below w.heap.size w w' := by
  obtain ⟨k, n, t, rfl, hk, hn, ht⟩ := h
  obtain ⟨a1, c1, rfl, _, _⟩ := hk.shape
  obtain ⟨a2, c2, rfl, _, _⟩ := hn.shape
  obtain ⟨a3, c3, rfl, _, _⟩ := ht.shape
  unfold obV
  cases hb : opB o with
  | false =>
    refine (bytesI_bad w o a1 a2 a3 c1 c2 c3 hk hn ht hb).mono ?_
    rintro e w' ⟨rfl, hB⟩
    exact ⟨none, 0, rfl, own_nil2 _ _, hB⟩
  | true =>
    rw [if_pos rfl]
    obtain ⟨⟨f1, f2⟩, _, h | h | h | h⟩ := opB_facts hb
    · exact bytesI_0 w o a1 a2 a3 c1 c2 c3 hk hn ht hs hb f1 f2 h.2.2.1.1 h.2.2.1.2 h.2.2.2.2.1 h.1
    · exact bytesI_1 w o a1 a2 a3 c1 c2 c3 hk hn ht hs hb f1 f2 h.2.1.1 h.2.1.2 h.2.2.1.1 h.2.2.1.2 h.1
    · exact bytesI_2 w o a1 a2 a3 c1 c2 c3 hk hn ht hs hb f1 f2 h.2.1.1 h.2.1.2 h.1
    · exact bytesI_3 w o a1 a2 a3 c1 c2 c3 hk hn ht hs hb f1 f2 h.2.1.1 h.2.1.2 h.1
end Go.Proofs.YtkmmhlimihkgfaaGreat

/- spec.OpBytes, by its contract. -/
namespace Go.Proofs.YtkmmhlimihkgfaaGreat
open Go.RowKit
set_option linter.unusedVariables false
set_option maxRecDepth 100000

set_option maxHeartbeats 3200000 in
/-- spec.OpBytes, whatever it is asked. -/
theorem bytesSO_any (w : World) (v : Value) (o : OpV) (h : RdOp w v o) (hs : o.key.length ≤ 2097152) :
    Calls Tryz.prog 42 #[v] w fun e w' => ∃ a c, e = .returned (.tuple #[.slice a (obV o).length c, .bool (opB o)]) ∧ Own w' w.heap.size (.slice a (obV o).length c) (obV o) ∧ Below w.heap.size w w' := by
  have HR := hide (fun (W : World) (hW : Below w.heap.size w W) => h.keep hW)
  obtain ⟨k, n, t, rfl, hk, hn, ht⟩ := h
  obtain ⟨a1, c1, rfl, _, _⟩ := hk.shape
  obtain ⟨a2, c2, rfl, _, _⟩ := hn.shape
  obtain ⟨a3, c3, rfl, _, _⟩ := ht.shape
  clear hk hn ht
  have hA0 := (Below.refl w.heap.size w).alloc (Nat.le_refl _) (.cells #[.int .i64 o.kind, .int .i64 o.atN, .int .i64 o.atR, .int .i64 o.nodeN, .int .i64 o.nodeR, .int .i64 o.parN, .int .i64 o.parR, .slice a1 o.key.length c1, .int .i64 o.elem, .slice a2 o.name.length c2, .slice a3 o.text.length c3, .bool o.gone] 28)
  have l0 := Loc.made w #[.int .i64 o.kind, .int .i64 o.atN, .int .i64 o.atR, .int .i64 o.nodeN, .int .i64 o.nodeR, .int .i64 o.parN, .int .i64 o.parR, .slice a1 o.key.length c1, .int .i64 o.elem, .slice a2 o.name.length c2, .slice a3 o.text.length c3, .bool o.gone] 28
  have HO := hide (fun (W : World) (hW : Below w.heap.size w W) => opS_any W _ o (unhide HR W hW))
  have HB := hide (fun (W : World) (hW : Below w.heap.size w W) => bytesS_any W _ o (unhide HR W hW) hs)
  clear HR
  unfold opVal at HO HB
  unfold obV
  cases hb : opB o with
  | false =>
    rw [hb] at HO
    unfold opVal
    go_enter Tryz.func42, Tryz.ntmps42
    go_wp2_with fail
    refine (unhide HO _ hA0).mono ?_
    rintro e w1 ⟨rfl, hB⟩
    have hB1 := bstep hA0 hB
    clear hA0 hB HO HB l0 hb
    go_wp2_with fail
    go_ret2
    exact ⟨none, 0, rfl, own_nil2 _ _, hB1⟩
  | true =>
    rw [hb] at HO
    rw [if_pos rfl]
    generalize opBytes o = r at *
    unfold opVal
    go_enter Tryz.func42, Tryz.ntmps42
    go_wp2_with fail
    refine (unhide HO _ hA0).mono ?_
    rintro e w1 ⟨rfl, hB⟩
    have hB1 := bstep hA0 hB
    have l1 := l0.all hB
    clear hA0 hB HO l0 hb
    obtain ⟨x0, x1, x2, x3, x4, x5, x6, x7, x8, x9, x10, x11⟩ := l1.twelve
    go_wp2_with fail
    clear x0 x1 x2 x3 x4 x5 x6 x7 x8 x9 x10 x11
    refine (unhide HB _ hB1).mono ?_
    rintro e w2 ⟨a, c, rfl, ho, hB⟩
    have hB2 := bstep hB1 hB
    have ho2 := ho.mono (base' := w.heap.size) hB1.size
    clear hB HB l1 hB1 ho
    go_wp2_with fail
    go_ret2
    exact ⟨a, c, rfl, ho2, hB2⟩
end Go.Proofs.YtkmmhlimihkgfaaGreat

/- laws.sameBytes: two rows of bytes as strings, by its contract. -/
namespace Go.Proofs.YtkmmhlimihkgfaaGreat
open Go.RowKit
set_option linter.unusedVariables false

set_option maxHeartbeats 1600000 in
theorem same_any (w : World) (u v : Value) (a b : List Int) (hu : Byt w u a) (hv : Byt w v b) :
    Calls Tryz.prog 43 #[u, v] w fun e w' => e = .returned (.bool (decide (a = b))) ∧ w' = w := by
  have c1 := conv_any w u a hu
  have c2 := conv_any w v b hv
  have HE := hide (str_beq hu.1 hv.1)
  obtain ⟨a1, k1, rfl, _⟩ := hu.shape
  obtain ⟨a2, k2, rfl, _⟩ := hv.shape
  generalize str a = s at *
  generalize str b = t at *
  go_enter Tryz.func43, Tryz.ntmps43
  go_wp2
  go_ret
  exact ⟨by rw [← unhide HE]; rfl, rfl⟩
end Go.Proofs.YtkmmhlimihkgfaaGreat

/- laws.sameOps of two rows that read the same; laws.at. -/
namespace Go.Proofs.YtkmmhlimihkgfaaGreat
open Go.RowKit
set_option linter.unusedVariables false
set_option maxRecDepth 100000

/-- An element of a readable row. -/
theorem RdOps.elem {w : World} {v : Value} {l : List OpV} (h : RdOps w v l) {a : Option Addr} {c : Nat} (ev : v = .slice a l.length c) {j : Nat} (hj : j < l.length) : ∃ b off, a = some ⟨b, off, none⟩ ∧ b < w.heap.size ∧ ∃ C : List Value, C.length = 12 ∧ (∀ i, i < 12 → w.cell? ⟨b, off + j * 12 + i, none⟩ = C[i]?) ∧ RdOpC w C l[j] := by
  obtain ⟨_, ⟨_, e⟩ | ⟨_, _, _, _, e⟩ | ⟨b, off, cap, e, g1, g2, g3, g4, g5⟩⟩ := h
  · subst e; simp at hj
  · subst e; simp at hj
  · rw [e] at ev
    injection ev with e1
    exact ⟨b, off, e1.symm, g4, g5 j hj⟩

set_option maxHeartbeats 12800000 in
theorem sameOps_true (w : World) (u v : Value) (a b : List OpV) (ha : RdOps w u a) (hb : RdOps w v b) (hl : a.length = b.length) (hm : a.length ≤ 1000) (ka : ∀ x ∈ a, x.key.length ≤ 2097152) (kb : ∀ x ∈ b, x.key.length ≤ 2097152)
    (he : ∀ i (hi : i < a.length) (hi' : i < b.length), obV a[i] = obV b[i] ∧ a[i].atN = b[i].atN ∧ a[i].atR = b[i].atR) :
    Calls Tryz.prog 11 #[u, v] w fun e w' => e = .returned (.bool true) ∧ Below w.heap.size w w' := by
  obtain ⟨pa, ca, rfl, _, _⟩ := Elems.shape ha
  obtain ⟨pb, cb, rfl, _, _⟩ := Elems.shape hb
  have HA := hide (fun j (hj : j < a.length) => ha.elem rfl hj)
  have HB := hide (fun j (hj : j < b.length) => hb.elem rfl hj)
  have HKA := hide ka
  have HKB := hide kb
  have HE := hide he
  have HLL := hide hl
  rw [← hl]
  obtain ⟨N, hN⟩ : ∃ N, N = a.length := ⟨_, rfl⟩
  rw [← hN] at hm ⊢
  have HN := hide hN
  clear hN ha hb ka kb he hl
  have hne : ((N : Int) != (N : Int)) = false := by simp
  have heq : ((N : Int) == (N : Int)) = true := by simp
  go_enter Tryz.func11, Tryz.ntmps11
  go_wp2_with fail
  go_loopw [5] (fun i wr => ∃ j : Nat, j ≤ N ∧ i = .int .i64 j ∧ Below w.heap.size w wr) (fun i _ => N - (intOf i).toNat)
  case atStart => exact ⟨0, Nat.zero_le _, rfl, Below.refl _ _⟩
  case round =>
    obtain ⟨j, hj, rfl, hB⟩ := hrel
    by_cases hlt : j < N
    · have hlt' : (j : Int) < (N : Int) := by omega
      have hj0 : (0 : Int) ≤ (j : Int) := by omega
      have hja : j < a.length := by rw [← unhide HN]; exact hlt
      have hjb : j < b.length := by rw [← unhide HLL]; exact hja
      obtain ⟨b1, o1, rfl, hb1, hC1⟩ := unhide HA j hja
      obtain ⟨b2, o2, rfl, hb2, hC2⟩ := unhide HB j hjb
      have hE := unhide HE j hja hjb
      have k1 := unhide HKA a[j] (List.getElem_mem hja)
      have k2 := unhide HKB b[j] (List.getElem_mem hjb)
      obtain ⟨x, hx⟩ : ∃ x, x = a[j] := ⟨_, rfl⟩
      obtain ⟨y, hy⟩ : ∃ y, y = b[j] := ⟨_, rfl⟩
      rw [← hx] at hC1 hE k1
      rw [← hy] at hC2 hE k2
      clear hx hy hja hjb
      have HEE := hide hE
      clear hE
      obtain ⟨a1, c1, a2, c2, a3, c3, e0, e1, e2, e3, e4, e5, e6, e7, e8, e9, e10, e11, hr1⟩ := opc_at hB hb1 hC1
      go_wp2_with fail
      clear e0 e1 e2 e3 e4 e5 e6 e7 e8 e9 e10 e11
      have HQ := hide (bytesSO_any wr _ x hr1 k1)
      unfold opVal at HQ
      refine (unhide HQ).mono ?_
      rintro e w2 ⟨pq, cq, rfl, oq, hB2⟩
      have hB2' := bstep hB hB2
      obtain ⟨d1, f1, d2, f2, d3, f3, g0, g1, g2, g3, g4, g5, g6, g7, g8, g9, g10, g11, hr2⟩ := opc_at hB2' hb2 hC2
      clear HQ hr1
      go_wp2_with fail
      clear g0 g1 g2 g3 g4 g5 g6 g7 g8 g9 g10 g11
      have HQ := hide (bytesSO_any w2 _ y hr2 k2)
      unfold opVal at HQ
      refine (unhide HQ).mono ?_
      rintro e w3 ⟨ps, cs, rfl, os, hB3⟩
      have hB3' := bstep hB2' hB3
      obtain ⟨m1, n1, m2, n2, m3, n3, z0, z1, z2, z3, z4, z5, z6, z7, z8, z9, z10, z11, _⟩ := opc_at hB3' hb1 hC1
      obtain ⟨r1, q1, r2, q2, r3, q3, v0, v1, v2, v3, v4, v5, v6, v7, v8, v9, v10, v11, _⟩ := opc_at hB3' hb2 hC2
      have oq3 := oq.keep hB3
      have HS := hide (fun (p : Gr w3) => same_any p.W _ _ _ _ (oq3.byt.keep p.h) (os.byt.keep p.h))
      obtain ⟨e1, e2, e3⟩ := unhide HEE
      clear HEE
      rw [e1] at HS
      rw [e1]
      have hdd : decide (obV y = obV y) = true := by simp
      rw [hdd] at HS
      rw [e2] at z1
      rw [e3] at z2
      clear HQ hr2 z0 z3 z4 z5 z6 z7 z8 z9 z10 z11 v0 v3 v4 v5 v6 v7 v8 v9 v10 v11 hC1 hC2 hB hB2 hB2' hB3 oq oq3 os hdd e1 e2 e3 k1 k2
      have hq1 := Nat.lt_of_lt_of_le hb1 hB3'.size
      have hq2 := Nat.lt_of_lt_of_le hb2 hB3'.size
      replace z1 := Gr.cell (w := w3) hq1 z1
      replace z2 := Gr.cell (w := w3) hq1 z2
      replace v1 := Gr.cell (w := w3) hq2 v1
      replace v2 := Gr.cell (w := w3) hq2 v2
      have hNE : Nonempty (Gr w3) := ⟨⟨w3, Below.refl _ _⟩⟩
      go_wp2_with fail
      refine wp_region_gr (by kernel_rfl) (by kernel_rfl) ?_
      repeat (go_big_quiet_step ((rename_i p; exact (unhide HS p).mono (fun _ _ ⟨he, hw⟩ => ⟨he, ⟨p, hw⟩⟩))))
      refine wpQuiet_nil ?_
      rintro _ ⟨p, rfl⟩
      have hBp := bstep hB3' p.h
      clear z1 z2 v1 v2 HS
      go_wp2_with fail
      go_roundw
      case rel => exact ⟨j + 1, by omega, by go_num, hBp⟩
      case measure => simp [intOf]; omega
    · have hlt' : ¬ (j : Int) < (N : Int) := by omega
      go_wp2_with fail
      go_ret
      exact ⟨rfl, hB⟩

end Go.Proofs.YtkmmhlimihkgfaaGreat

/- laws.at tells some number of a byte. -/
namespace Go.Proofs.YtkmmhlimihkgfaaGreat
open Go.RowKit
set_option linter.unusedVariables false
set_option maxRecDepth 100000

set_option maxHeartbeats 1600000 in
theorem at_any (w : World) (v : Value) (l : List Int) (i : Nat) (hi : i ≤ 1000000) (h : Byt w v l) :
    Calls Tryz.prog 10 #[v, .int .i64 i] w fun e w' => ∃ x : Int, 0 ≤ x ∧ x ≤ 255 ∧ e = .returned (.int .i64 x) ∧ w' = w := by
  by_cases hl : l.length = 0
  · obtain ⟨a, c, rfl, _, _⟩ := h.shape
    rw [hl]
    go_enter Tryz.func10, Tryz.ntmps10
    go_wp2_with fail
    go_ret
    exact ⟨0, by omega, by omega, rfl, rfl⟩
  · obtain ⟨hok, hm, ⟨rfl, rfl⟩ | ⟨y, cap, rfl, hc, rfl⟩ | ⟨b, off, cap, rfl, h1, h2, h3, h4, h5⟩⟩ := h
    · simp at hl
    · simp at hl
    · have hmod : i % l.length < l.length := Nat.mod_lt _ (by omega)
      have ecell := h5 (i % l.length) hmod
      have hx := hok _ (List.getElem_mem hmod)
      have e0 : ((l.length : Int) == 0) = false := by simpa using hl
      have et : (i : Int).tmod (l.length : Int) = ((i % l.length : Nat) : Int) := by rw [Int.tmod_eq_emod_of_nonneg (by omega)]; rfl
      have hz : ¬ (l.length : Int) = 0 := by omega
      have hj : ((i % l.length : Nat) : Int) < (l.length : Int) := by omega
      go_enter Tryz.func10, Tryz.ntmps10
      go_wp2_with fail
      go_ret
      exact ⟨l[i % l.length], (hok _ (List.getElem_mem hmod)).1, (hok _ (List.getElem_mem hmod)).2, rfl, rfl⟩
end Go.Proofs.YtkmmhlimihkgfaaGreat
