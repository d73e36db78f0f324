/- impl.stampOk, impl.idOk, impl.NameOk, impl.textOk, impl.valueOk, impl.loneOk answer what the plain tests say. -/
import Derived.Test.YtkmmhlimihkgfaaIdS
import Derived.Test.YtkmmhlimihkgfaaNameI
namespace Go.Proofs.Ytkmmhlimihkgfaa
open Go.RowKit
set_option linter.unusedVariables false
set_option maxRecDepth 100000

def stampB (n r : Int) : Bool := decide (1 ≤ n) && (decide (n ≤ 1000000) && (decide (0 ≤ r) && decide (r < 8)))
theorem stampB_cases (n r : Int) :
    (stampB n r = false ∧ decide (1 ≤ n) = false) ∨
    (stampB n r = false ∧ decide (1 ≤ n) = true ∧ decide (n ≤ 1000000) = false) ∨
    (stampB n r = false ∧ decide (1 ≤ n) = true ∧ decide (n ≤ 1000000) = true ∧ decide (0 ≤ r) = false) ∨
    (stampB n r = true ∧ decide (1 ≤ n) = true ∧ decide (n ≤ 1000000) = true ∧ decide (0 ≤ r) = true ∧ decide (r < 8) = true) ∨
    (stampB n r = false ∧ decide (1 ≤ n) = true ∧ decide (n ≤ 1000000) = true ∧ decide (0 ≤ r) = true ∧ decide (r < 8) = false) := by
  unfold stampB
  cases decide (1 ≤ n) <;> cases decide (n ≤ 1000000) <;> cases decide (0 ≤ r) <;> cases decide (r < 8) <;> simp

set_option maxHeartbeats 1600000 in
theorem stampI_any (w : World) (n r : Int) :
    Calls Try.prog 30 #[.agg #[.int .i64 n, .int .i64 r]] w fun e w' => e = .returned (.bool (stampB n r)) ∧ w' = w.alloc (.cells #[.int .i64 n, .int .i64 r] 31) := by
  rcases stampB_cases n r with ⟨h, q1⟩ | ⟨h, q1, q2⟩ | ⟨h, q1, q2, q3⟩ | ⟨h, q1, q2, q3, q4⟩ | ⟨h, q1, q2, q3, q4⟩
  all_goals
    have HE := hide h
    clear h
    go_enter Try.func30, Try.ntmps30
    go_wp2
    go_ret
    exact ⟨by rw [unhide HE]; rfl, rfl⟩

theorem idB_stamp (n r : Int) :
    (stampB n r = true ∧ idB n r = true) ∨
    (stampB n r = false ∧ idB n r = false ∧ (n == 0) = false) ∨
    (stampB n r = false ∧ idB n r = false ∧ n = 0 ∧ (n == 0) = true ∧ decide (0 ≤ r) = false) ∨
    (stampB n r = false ∧ idB n r = decide (r ≤ 121) ∧ n = 0 ∧ (n == 0) = true ∧ decide (0 ≤ r) = true) := by
  unfold stampB idB
  by_cases a : n = 0
  · subst a
    by_cases b : 0 ≤ r
    · right; right; right
      refine ⟨by simp, ?_, rfl, rfl, by simpa using b⟩
      rw [Bool.eq_iff_iff]
      simp
      omega
    · right; right; left
      refine ⟨by simp, ?_, rfl, rfl, by simpa using b⟩
      rw [Bool.eq_false_iff]
      simp only [ne_eq, Bool.and_eq_true, Bool.or_eq_true, decide_eq_true_eq]
      omega
  · by_cases c : 1 ≤ n ∧ n ≤ 1000000 ∧ 0 ≤ r ∧ r < 8
    · left
      simp only [Bool.and_eq_true, Bool.or_eq_true, decide_eq_true_eq]
      omega
    · right; left
      refine ⟨?_, ?_, by simpa using a⟩
      · rw [Bool.eq_false_iff]
        simp only [ne_eq, Bool.and_eq_true, decide_eq_true_eq]
        omega
      · rw [Bool.eq_false_iff]
        simp only [ne_eq, Bool.and_eq_true, Bool.or_eq_true, decide_eq_true_eq]
        omega

set_option maxHeartbeats 1600000 in
theorem idI_any (w : World) (n r : Int) :
    Calls Try.prog 23 #[.agg #[.int .i64 n, .int .i64 r]] w fun e w' => e = .returned (.bool (idB n r)) ∧ w' = (w.alloc (.cells #[.int .i64 n, .int .i64 r] 31)).alloc (.cells #[.int .i64 n, .int .i64 r] 31) := by
  have HS := hide (stampI_any (w.alloc (.cells #[.int .i64 n, .int .i64 r] 31)) n r)
  rcases idB_stamp n r with ⟨h, k⟩ | ⟨h, k, q1⟩ | ⟨h, k, rfl, q1, q2⟩ | ⟨h, k, rfl, q1, q2⟩
  all_goals
    rw [h] at HS
    have HE := hide k
    clear h k
    go_enter Try.func23, Try.ntmps23
    go_wp2_with fail
    refine (unhide HS).mono ?_
    rintro e w1 ⟨rfl, rfl⟩
    go_wp2
    go_ret
    exact ⟨by rw [unhide HE]; rfl, rfl⟩

theorem nameI_b (w : World) (v : Value) (l : List Int) (h : Byt w v l) : Calls Try.prog 26 #[v] w fun e w' => e = .returned (.bool (nameB l)) ∧ w' = w := by
  by_cases hn : NameOk l
  · rw [(nameB_iff l).2 hn]; exact nameI_yes w v l h hn
  · rw [Bool.eq_false_iff.2 (fun k => hn ((nameB_iff l).1 k))]; exact nameI_no w v l h hn
theorem textI_b (w : World) (v : Value) (l : List Int) (h : Byt w v l) : Calls Try.prog 25 #[v] w fun e w' => e = .returned (.bool (textB l)) ∧ w' = w := by
  by_cases hn : TextOk l
  · rw [(textB_iff l).2 hn]; exact textI_yes w v l h hn
  · rw [Bool.eq_false_iff.2 (fun k => hn ((textB_iff l).1 k))]; exact textI_no w v l h hn

def valB (t : List Int) (gone : Bool) : Bool := if gone then (t.length : Int) == 0 else textB t
set_option maxHeartbeats 1600000 in
theorem valI_any (w : World) (v : Value) (t : List Int) (gone : Bool) (h : Byt w v t) :
    Calls Try.prog 27 #[v, .bool gone] w fun e w' => e = .returned (.bool (valB t gone)) ∧ w' = w := by
  have HT := hide (textI_b w v t h)
  obtain ⟨a, c, rfl, _, _⟩ := h.shape
  clear h
  cases gone
  · go_enter Try.func27, Try.ntmps27
    go_wp2_with fail
    refine (unhide HT).mono ?_
    rintro e w1 ⟨rfl, rfl⟩
    go_wp2
    go_ret
    exact ⟨rfl, rfl⟩
  · go_enter Try.func27, Try.ntmps27
    go_wp2_with fail
    go_ret
    exact ⟨rfl, rfl⟩

/-- Elem, Name and Text of a node without Kids. -/
def loneB (k : Int) (n t : List Int) : Bool := if k = 0 then nameB n && (t.length : Int) == 0 else if k = 1 then (n.length : Int) == 0 && textB t else false

theorem attrsI_none (w : World) : Calls Try.prog 35 #[.slice none 0 0] w fun e w' => e = .returned (.bool true) ∧ w' = w := by
  go_enter Try.func35, Try.ntmps35
  go_wp2
  refine wp_loop_rounds 1 ?_
  rw [rounds_succ]
  go_wp2
  go_ret
  exact ⟨rfl, rfl⟩

set_option maxHeartbeats 3200000 in
theorem partI_lone (w : World) (k : Int) (vn vt : Value) (n t : List Int) (g : Nat) (hn : Byt w vn n) (ht : Byt w vt t) :
    Calls Try.prog 31 #[.agg #[.int .i64 k, vn, vt, .slice none 0 0, .slice none 0 0], .pointer (some ⟨g, 0, none⟩)] w fun e w' => e = .returned (.bool (loneB k n t)) ∧ w' = w.alloc (.cells #[.int .i64 k, vn, vt, .slice none 0 0, .slice none 0 0] 53) := by
  have HA := hide ((Below.refl w.heap.size w).alloc (Nat.le_refl _) (.cells #[.int .i64 k, vn, vt, .slice none 0 0, .slice none 0 0] 53))
  have HN := hide (nameI_b _ vn n (hn.keep (unhide HA)))
  have HT := hide (textI_b _ vt t (ht.keep (unhide HA)))
  obtain ⟨a1, c1, rfl, _, _⟩ := hn.shape
  obtain ⟨a2, c2, rfl, _, _⟩ := ht.shape
  clear hn ht
  by_cases k0 : k = 0
  · subst k0
    have HE := hide (show loneB 0 n t = (nameB n && (t.length : Int) == 0) from rfl)
    generalize nameB n = x at *
    generalize n.length = ln at *
    generalize t.length = lt at *
    cases x
    · go_enter Try.func31, Try.ntmps31
      go_wp2_with fail
      refine (unhide HN).mono ?_
      rintro e w1 ⟨rfl, rfl⟩
      go_wp2_with fail
      go_ret
      exact ⟨by rw [unhide HE]; rfl, rfl⟩
    · by_cases h0 : lt = 0
      · subst h0
        go_enter Try.func31, Try.ntmps31
        go_wp2_with fail
        refine (unhide HN).mono ?_
        rintro e w1 ⟨rfl, rfl⟩
        go_wp2_with fail
        refine (attrsI_none _).mono ?_
        rintro e w1 ⟨rfl, rfl⟩
        go_wp2_with fail
        go_ret
        exact ⟨by rw [unhide HE]; rfl, rfl⟩
      · have h0' : ((lt : Int) == 0) = false := by simpa using h0
        go_enter Try.func31, Try.ntmps31
        go_wp2_with fail
        refine (unhide HN).mono ?_
        rintro e w1 ⟨rfl, rfl⟩
        go_wp2_with fail
        go_ret
        exact ⟨by rw [unhide HE, h0']; rfl, rfl⟩
  · by_cases k1 : k = 1
    · subst k1
      have HE := hide (show loneB 1 n t = ((n.length : Int) == 0 && textB t) from rfl)
      generalize textB t = x at *
      generalize n.length = ln at *
      generalize t.length = lt at *
      by_cases h0 : ln = 0
      · subst h0
        cases x
        · go_enter Try.func31, Try.ntmps31
          go_wp2_with fail
          refine (unhide HT).mono ?_
          rintro e w1 ⟨rfl, rfl⟩
          go_wp2_with fail
          go_ret
          exact ⟨by rw [unhide HE]; rfl, rfl⟩
        · go_enter Try.func31, Try.ntmps31
          go_wp2_with fail
          refine (unhide HT).mono ?_
          rintro e w1 ⟨rfl, rfl⟩
          go_wp2_with fail
          go_ret
          exact ⟨by rw [unhide HE]; rfl, rfl⟩
      · have h0' : ((ln : Int) == 0) = false := by simpa using h0
        go_enter Try.func31, Try.ntmps31
        go_wp2_with fail
        go_ret
        exact ⟨by rw [unhide HE, h0']; rfl, rfl⟩
    · have HE := hide (show loneB k n t = false by unfold loneB; rw [if_neg k0, if_neg k1])
      have q0 : (k == 0) = false := by simpa using k0
      have q1 : (k == 1) = false := by simpa using k1
      go_enter Try.func31, Try.ntmps31
      go_wp2_with fail
      go_ret
      exact ⟨by rw [unhide HE]; rfl, rfl⟩

set_option maxHeartbeats 3200000 in
theorem loneI_any (w : World) (k : Int) (vn vt : Value) (n t : List Int) (hn : Byt w vn n) (ht : Byt w vt t) :
    Calls Try.prog 24 #[.agg #[.int .i64 k, vn, vt, .slice none 0 0, .slice none 0 0]] w fun e w' => e = .returned (.bool (loneB k n t)) ∧ w' = ((w.alloc (.cells #[.int .i64 k, vn, vt, .slice none 0 0, .slice none 0 0] 53)).alloc (.cells #[.int .u32 0, .int .i32 0, .int .u32 0, .map none] 71)).alloc (.cells #[.int .i64 k, vn, vt, .slice none 0 0, .slice none 0 0] 53) := by
  have HN := hide (fun W (h : Below w.heap.size w W) => hn.keep h)
  have HT := hide (fun W (h : Below w.heap.size w W) => ht.keep h)
  obtain ⟨a1, c1, rfl, _, _⟩ := hn.shape
  obtain ⟨a2, c2, rfl, _, _⟩ := ht.shape
  clear hn ht
  go_enter Try.func24, Try.ntmps24
  go_wp2_with fail
  have HB := hide (((Below.refl w.heap.size w).alloc (Nat.le_refl _) (.cells #[.int .i64 k, .slice a1 n.length c1, .slice a2 t.length c2, .slice none 0 0, .slice none 0 0] 53)).alloc (by simp) (.cells #[.int .u32 0, .int .i32 0, .int .u32 0, .map none] 71))
  refine (partI_lone _ k _ _ n t _ (unhide HN _ (unhide HB)) (unhide HT _ (unhide HB))).mono ?_
  rintro e w1 ⟨rfl, rfl⟩
  go_wp2
  go_ret
  exact ⟨rfl, rfl⟩

end Go.Proofs.Ytkmmhlimihkgfaa
