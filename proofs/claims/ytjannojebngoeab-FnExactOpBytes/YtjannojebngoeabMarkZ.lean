/- The law's own helpers that write a count into a row of bytes and look for it again, by their contracts. -/
import Derived.Test.YtjannojebngoeabChecked
import Derived.Test.YtjannojebngoeabBaseZ
namespace Go.Proofs.Ytjannojebngoeab
open Go.RowKit
set_option linter.unusedVariables false

/-- n bytes that count on from k. -/
def markz (k : Int) (n : Nat) : List Int := (List.range n).map fun i : Nat => k + (i : Int)
theorem markz_len (k : Int) (n : Nat) : (markz k n).length = n := by simp [markz]
theorem markz_ok (k : Int) (n : Nat) (h0 : 0 ≤ k) (h1 : k + (n : Int) ≤ 9223372036854775807) : okZ (markz k n) := fun x hx => by
  obtain ⟨i, hi, rfl⟩ := List.mem_map.1 hx
  have := List.mem_range.1 hi
  omega
theorem markz_at (k : Int) (n i : Nat) (h : i < n) : (markz k n).getD i 0 = k + (i : Int) := by simp [markz, h]
theorem markz_step (k : Int) (l : List Int) (j : Nat) (h : j < l.length) : (valz (markz k j ++ l.drop j)).set j (.int .i64 (k + (j : Int))) = valz (markz k (j + 1) ++ l.drop (j + 1)) := by
  have e : markz k (j + 1) = markz k j ++ [k + (j : Int)] := by simp [markz, List.range_succ]
  have hl : (valz (markz k j)).length = j := by simp [valz, markz_len]
  rw [valz_app, List.set_append_right _ _ (by omega), hl, Nat.sub_self, e, List.drop_eq_getElem_cons h, valz_app, valz_app, List.append_assoc]
  rfl

theorem markZ_nil (w : World) (a : Option Addr) (cap : Nat) (k : Int) :
    Calls Try.prog 32 #[.slice a 0 cap, .int .i64 k] w fun e w' => e = .returned (.int .i64 k) ∧ w' = w := by
  go_enter Try.func32, Try.ntmps32
  go_wp2
  refine wp_loop_rounds 1 ?_
  rw [rounds_succ]
  go_wp2
  go_ret
  exact ⟨rfl, rfl⟩

set_option maxHeartbeats 1600000 in
set_option maxRecDepth 1000000 in
theorem markZ_row (w : World) (base g cap : Nat) (l : List Int) (k : Int) (hw : w.ownsRow base 3 1 (.slice (some ⟨g, 0, none⟩) l.length cap) l.length (valz l)) (hs : l.length ≤ 16777216) (h0 : 0 ≤ k) (h1 : k ≤ 1000000000) :
    Calls Try.prog 32 #[.slice (some ⟨g, 0, none⟩) l.length cap, .int .i64 k] w fun e w' => e = .returned (.int .i64 (k + l.length)) ∧
      w'.ownsRow base 3 1 (.slice (some ⟨g, 0, none⟩) l.length cap) l.length (valz (markz k l.length)) ∧ w.grownBy w' (some g) := by
  generalize hn : l.length = n at *
  have HN := hide hn
  clear hn
  go_enter Try.func32, Try.ntmps32
  go_wp2
  go_loopw [1, 5] (fun c i wr => ∃ j : Nat, j ≤ n ∧ i = .int .i64 j ∧ c = .int .i64 (k + (j : Int)) ∧ wr.ownsRow base 3 1 (.slice (some ⟨g, 0, none⟩) n cap) n (valz (markz k j ++ l.drop j)) ∧ w.grownBy wr (some g)) (fun _ i _ => n - (intOf i).toNat)
  case atStart => exact ⟨0, Nat.zero_le _, rfl, by simp, by simpa [markz] using hw, World.grownBy.refl _ _⟩
  case round =>
    obtain ⟨j, hj, rfl, rfl, hr, hg⟩ := hrel
    by_cases hlt : j < n
    · have hlen := unhide HN
      have hjl : j < l.length := by omega
      obtain ⟨y, hy⟩ : ∃ y, wr.cell? ⟨g, j, none⟩ = some (.int .i64 y) := ⟨(markz k j ++ l.drop j).getD j 0, by rw [hr.cellAt j (by omega), valz_at (by simp [markz_len]; omega)]⟩
      have hfr := hr.frozenAt j
      have hst := hr.stored j (.int .i64 (k + (j : Int)))
      rw [markz_step k l j hjl] at hst
      have HS := hide hst
      clear hst hr hlen
      have hlt' : (j : Int) < (n : Int) := by omega
      go_wp2
      have R := unhide HS
      go_roundw
      case rel => exact ⟨j + 1, by omega, by go_num, by go_num, R.1, grown_trans hg R.2⟩
      case measure => simp [intOf]; omega
    · have e : j = n := by omega
      subst e
      have hr' : wr.ownsRow base 3 1 (.slice (some ⟨g, 0, none⟩) j cap) j (valz (markz k j)) := by
        have := unhide HN
        rw [List.drop_of_length_le (by omega), List.append_nil] at hr
        exact hr
      clear hr
      go_wp2
      go_ret
      exact ⟨rfl, hr', hg⟩

theorem markZ_any (w : World) (base : Nat) (v : Value) (l : List Int) (k : Int) (h : OwnZ w base v l) (hs : l.length ≤ 16777216) (h0 : 0 ≤ k) (h1 : k ≤ 1000000000) :
    Calls Try.prog 32 #[v, .int .i64 k] w fun e w' => e = .returned (.int .i64 (k + l.length)) ∧ OwnZ w' base v (markz k l.length) ∧ w.grownBy w' v.ownBlock := by
  obtain ⟨hok, hlen, ⟨rfl, hz⟩ | ⟨g, cap, cur, rfl, hr⟩⟩ := h
  · have e : l = [] := List.eq_nil_of_length_eq_zero hz
    subst e
    refine (markZ_nil w none 0 k).mono ?_
    rintro e w' ⟨rfl, rfl⟩
    exact ⟨by simp, ⟨markz_ok _ _ h0 (by first | omega | (simp; omega)), World.ownsRow_nil _ _ _ _⟩, World.grownBy.refl _ _⟩
  · refine (markZ_row w base g cap l k ⟨hlen, .inr ⟨g, cap, cur, rfl, hr⟩⟩ hs h0 h1).mono ?_
    rintro e w' ⟨rfl, ho, hg⟩
    refine ⟨rfl, ⟨markz_ok _ _ h0 (by first | omega | (simp; omega)), ?_⟩, hg⟩
    rw [markz_len]
    exact ho

theorem heldZ_nil (w : World) (a : Option Addr) (cap : Nat) (k : Int) :
    Calls Try.prog 39 #[.slice a 0 cap, .int .i64 k] w fun e w' => e = .returned (.int .i64 k) ∧ w' = w := by
  go_enter Try.func39, Try.ntmps39
  go_wp2
  refine wp_loop_rounds 1 ?_
  rw [rounds_succ]
  go_wp2
  go_ret
  exact ⟨rfl, rfl⟩

set_option maxHeartbeats 1600000 in
set_option maxRecDepth 1000000 in
theorem heldZ_row (w : World) (b off cap n : Nat) (k : Int) (hc : ∀ i, i < n → w.cell? ⟨b, off + i, none⟩ = some (.int .i64 ((markz k n).getD i 0))) (hs : n ≤ 16777216) (h0 : 0 ≤ k) (h1 : k ≤ 1000000000) :
    Calls Try.prog 39 #[.slice (some ⟨b, off, none⟩) n cap, .int .i64 k] w fun e w' => e = .returned (.int .i64 (k + n)) ∧ w' = w := by
  go_enter Try.func39, Try.ntmps39
  go_wp2
  go_loop [1, 5] (fun c i => ∃ j : Nat, j ≤ n ∧ i = .int .i64 j ∧ c = .int .i64 (k + (j : Int))) (fun _ i => n - (intOf i).toNat)
  case atStart => exact ⟨0, Nat.zero_le _, rfl, by simp⟩
  case round =>
    obtain ⟨j, hj, rfl, rfl⟩ := hrel
    by_cases hlt : j < n
    · have c1 := hc j hlt
      rw [markz_at k n j hlt] at c1
      clear hc
      have hlt' : (j : Int) < (n : Int) := by omega
      go_wp2
      go_round
      case rel => exact ⟨j + 1, by omega, by go_num, by go_num⟩
      case measure => simp [intOf]; omega
    · have e : j = n := by omega
      subst e
      clear hc
      go_wp2
      go_ret
      exact ⟨rfl, rfl⟩

theorem heldZ_any (w : World) (v : Value) (n : Nat) (k : Int) (h : Ints w v (markz k n)) (hs : n ≤ 16777216) (h0 : 0 ≤ k) (h1 : k ≤ 1000000000) :
    Calls Try.prog 39 #[v, .int .i64 k] w fun e w' => e = .returned (.int .i64 (k + n)) ∧ w' = w := by
  obtain ⟨_, _, ⟨rfl, hn⟩ | ⟨x, cap, rfl, hc, hn⟩ | ⟨b, off, cap, rfl, _, _, _, _, h5⟩⟩ := h
  · have e : n = 0 := by have := congrArg List.length hn; rw [markz_len] at this; exact this
    subst e
    refine (heldZ_nil w none 0 k).mono ?_
    rintro e w' ⟨rfl, rfl⟩
    exact ⟨by simp, rfl⟩
  · have e : n = 0 := by have := congrArg List.length hn; rw [markz_len] at this; exact this
    subst e
    refine (heldZ_nil w (some x) cap k).mono ?_
    rintro e w' ⟨rfl, rfl⟩
    exact ⟨by simp, rfl⟩
  · rw [markz_len] at h5 ⊢
    exact heldZ_row w b off cap n k h5 hs h0 h1

end Go.Proofs.Ytjannojebngoeab
