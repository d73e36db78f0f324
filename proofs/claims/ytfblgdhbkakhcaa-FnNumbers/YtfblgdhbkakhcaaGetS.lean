/- spec.GetNum answers what the plain function getN says. -/
import Derived.Test.YtfblgdhbkakhcaaChecked
import Derived.Test.YtfblgdhbkakhcaaNum
namespace Go.Proofs.Ytfblgdhbkakhcaa
open Go.RowKit
set_option linter.unusedVariables false

theorem tup2 {a b c d : Int} (h : (a, b) = (c, d)) : Ending.returned (.tuple #[.int .i64 a, .int .i64 b]) = .returned (.tuple #[.int .i64 c, .int .i64 d]) := by
  simp only [Prod.mk.injEq] at h; rw [h.1, h.2]

theorem getS_neg (w : World) (a : Option Addr) (n cap : Nat) (p : Int) (hp : p < 0) :
    Calls Try.prog 21 #[.slice a n cap, .int .i64 p] w fun e w' => e = .returned (.tuple #[.int .i64 0, .int .i64 (-1)]) ∧ w' = w := by
  go_enter Try.func21, Try.ntmps21
  go_wp2
  go_ret2
  exact ⟨rfl, rfl⟩

theorem getS_out (w : World) (a : Option Addr) (n cap : Nat) (p : Nat) (hp : n ≤ p) (hn : n ≤ maxLen) (hm : (p : Int) ≤ 9223372036854775807) :
    Calls Try.prog 21 #[.slice a n cap, .int .i64 p] w fun e w' => e = .returned (.tuple #[.int .i64 0, .int .i64 (-1)]) ∧ w' = w := by
  unfold maxLen at hn
  go_enter Try.func21, Try.ntmps21
  go_wp2
  refine wp_loop_rounds 1 ?_
  rw [rounds_succ]
  go_wp2
  go_ret2
  exact ⟨rfl, rfl⟩

set_option maxHeartbeats 1600000 in
set_option maxRecDepth 1000000 in
theorem getS_row (w : World) (b off cap : Nat) (l : List Int) (p : Nat) (hok : okB l) (hm : l.length ≤ maxLen) (hp : p < l.length)
    (hc : ∀ i, i < l.length → w.cell? ⟨b, off + i, none⟩ = some (.int .u8 (l.getD i 0))) :
    Calls Try.prog 21 #[.slice (some ⟨b, off, none⟩) l.length cap, .int .i64 p] w fun e w' => e = .returned (.tuple #[.int .i64 (getN l p).1, .int .i64 (getN l p).2]) ∧ w' = w := by
  unfold maxLen at hm
  generalize hn : l.length = n at *
  have HN := hide hn
  clear hn
  have hm' : (n : Int) ≤ 9223372036854775807 := by omega
  go_enter Try.func21, Try.ntmps21
  go_wp2
  go_loop [6, 7, 8] (fun a s i => ∃ (k : Nat) (acc : Int), k ≤ 5 ∧ a = .int .i64 acc ∧ s = .int .i64 (sc k) ∧ i = .int .i64 k ∧ 0 ≤ acc ∧ acc < sc k ∧ Hid (numGo (5 - k) (l.drop (p + k)) k acc = num (l.drop p))) (fun _ _ i => 5 - (intOf i).toNat)
  case atStart => exact ⟨0, 0, by omega, rfl, rfl, rfl, by omega, by decide, hide rfl⟩
  case round =>
    obtain ⟨k, acc, hk, rfl, rfl, rfl, ha0, ha1, HI⟩ := hrel
    by_cases h5 : k = 5
    · subst h5
      have hr := getN_none (unhide HI).symm
      have HR := hide hr
      clear hr HI hc
      go_wp2
      go_ret2
      exact ⟨by rw [unhide HR]; rfl, rfl⟩
    by_cases hl : p + k < n
    · obtain ⟨x, hx⟩ : ∃ x, x = l.getD (p + k) 0 := ⟨_, rfl⟩
      have hcx : w.cell? ⟨b, off + (p + k), none⟩ = some (.int .u8 x) := by rw [hx]; exact hc _ hl
      have hxb : 0 ≤ x ∧ x ≤ 255 := by rw [hx, List.getD_eq_getElem?_getD]; exact hok.at _
      obtain ⟨hx0, hx1⟩ := hxb
      have hd : l.drop (p + k) = x :: l.drop (p + (k + 1)) := by
        have hl' : p + k < l.length := by have := unhide HN; omega
        rw [hx, getD_at hl', List.drop_eq_getElem_cons hl']; rfl
      have hI := unhide HI
      rw [hd] at hI
      have hli5 : (k : Int) < 5 := by omega
      rw [show 5 - k = (5 - (k + 1)) + 1 by omega] at hI
      clear HI hc hx hd
      have hli : (k : Int) < (n : Int) - (p : Int) := by omega
      have hs := sc_le k
      have hss := sc_step k (by omega)
      obtain ⟨s, hse⟩ : ∃ s, s = sc k := ⟨_, rfl⟩
      rw [← hse] at hs hss ha1 ⊢
      obtain ⟨hs0, hs1⟩ := hs
      obtain ⟨hq0, hq1, hq2⟩ := part_le (x := x) hs0 hs1
      have HSS := hide hss
      clear hss
      by_cases hx2 : x < 128
      · by_cases hbad : (x = 0 ∧ 0 < k) ∨ 2147483647 < acc + x % 128 * s
        · have hR := getN_none (hI.symm.trans (numGo_bad hx2 (hse ▸ hbad)))
          have HR := hide hR
          clear hR hI hse
          by_cases hz : x = 0
          · by_cases hk0 : 0 < k
            · have hk0' : (0 : Int) < (k : Int) := by omega
              clear hbad
              subst hz
              go_wp2
              go_ret2
              exact ⟨by rw [unhide HR]; rfl, rfl⟩
            · have hk0' : decide ((0 : Int) < (k : Int)) = false := by simp; omega
              have hgt : 2147483647 < acc + x % 128 * s := by omega
              clear hbad
              have hz' : (x == 0) = true := by simp [hz]
              clear hz
              go_wp2
              go_ret2
              exact ⟨by rw [unhide HR]; rfl, rfl⟩
          · have hgt : 2147483647 < acc + x % 128 * s := by omega
            have hz' : (x == 0) = false := by simp [hz]
            clear hbad hz
            go_wp2
            go_ret2
            exact ⟨by rw [unhide HR]; rfl, rfl⟩
        · have hR := getN_some (hI.symm.trans (numGo_end hx2 (hse ▸ hbad)))
          rw [← hse] at hR
          have HR := hide hR
          clear hR hI hse
          have hle : acc + x % 128 * s ≤ 2147483647 := by omega
          by_cases hz : x = 0
          · have hz' : (x == 0) = true := by simp [hz]
            have hk0 : k = 0 := by omega
            clear hbad hz
            subst hk0
            have hcx0 : w.cell? ⟨b, off + p, none⟩ = some (.int .u8 x) := hcx
            clear hcx
            go_wp2
            go_ret2
            exact ⟨by rw [unhide HR]; exact tup2 (by simp), rfl⟩
          · have hz' : (x == 0) = false := by simp [hz]
            clear hbad hz
            go_wp2
            go_ret2
            exact ⟨by rw [unhide HR]; exact tup2 (by simp; omega), rfl⟩
      · have h128 : 128 ≤ x := by omega
        have hI2 := (hI.symm.trans (numGo_on hx2)).symm
        rw [← hse] at hI2
        have HI := hide hI2
        clear hI hI2 hse
        go_wp2
        go_round
        case rel => exact ⟨k + 1, acc + x % 128 * s, by omega, rfl, by rw [unhide HSS], by go_num, by omega, by rw [unhide HSS]; omega, HI⟩
        case measure => simp [intOf]; omega
    · have hr := unhide HI
      rw [List.drop_of_length_le (by have := unhide HN; omega), numGo_nil] at hr
      have HR := hide (getN_none hr.symm)
      clear hr HI hc
      go_wp2
      go_ret2
      exact ⟨by rw [unhide HR]; rfl, rfl⟩
/-- spec.GetNum, whatever it is asked. -/
theorem getS_any (w : World) (v : Value) (l : List Int) (p : Int) (h : Byt w v l) (hp : p ≤ 9223372036854775807) :
    Calls Try.prog 21 #[v, .int .i64 p] w fun e w' => e = .returned (.tuple #[.int .i64 (getN l p).1, .int .i64 (getN l p).2]) ∧ w' = w := by
  by_cases h0 : p < 0
  · obtain ⟨a, cap, rfl, _⟩ := h.shape
    rw [getN_neg h0]
    exact getS_neg w a _ cap p h0
  · obtain ⟨p, rfl⟩ := Int.eq_ofNat_of_zero_le (show 0 ≤ p by omega)
    by_cases h1 : l.length ≤ p
    · obtain ⟨a, cap, rfl, _⟩ := h.shape
      rw [getN_none (by rw [List.drop_of_length_le h1]; rfl)]
      exact getS_out w a _ cap p h1 h.2.1 hp
    · obtain ⟨hok, hm, ⟨rfl, rfl⟩ | ⟨x, cap, rfl, hc, rfl⟩ | ⟨b, off, cap, rfl, _, _, _, _, h5⟩⟩ := h
      · simp at h1
      · simp at h1
      · exact getS_row w b off cap l p hok hm (by omega) h5

end Go.Proofs.Ytfblgdhbkakhcaa
