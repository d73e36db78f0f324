/- impl.endCode, impl.readNum and impl.GetNum, by their contracts: impl.GetNum answers what the plain function getN says. -/
import Derived.Test.YtfblgdhbkakhcaaChecked
import Derived.Test.YtfblgdhbkakhcaaNum
import Derived.Test.YtfblgdhbkakhcaaGetS
namespace Go.Proofs.Ytfblgdhbkakhcaa
open Go.RowKit
set_option linter.unusedVariables false

theorem endCode_well (n size x : Int) (w : World) (h : ¬ ((1 < size ∧ x = 0) ∨ 2147483647 < n)) :
    Calls Try.prog 36 #[.int .i64 n, .int .i64 size, .int .u8 x] w fun e w' => e = .returned (.int .i64 0) ∧ w' = w := by
  have hn : n ≤ 2147483647 := by omega
  by_cases h1 : 1 < size
  · have hx : (x == 0) = false := by simp; omega
    go_enter Try.func36, Try.ntmps36
    go_wp2
    go_ret
    exact ⟨rfl, rfl⟩
  · have hx : decide (1 < size) = false := by simpa using h1
    go_enter Try.func36, Try.ntmps36
    go_wp2
    go_ret
    exact ⟨rfl, rfl⟩
theorem endCode_bad (n size x : Int) (w : World) (h : (1 < size ∧ x = 0) ∨ 2147483647 < n) :
    Calls Try.prog 36 #[.int .i64 n, .int .i64 size, .int .u8 x] w fun e w' => (∃ c, e = .returned (.int .i64 c) ∧ (c != 0) = true) ∧ w' = w := by
  by_cases h1 : 1 < size
  · by_cases h2 : x = 0
    · subst h2
      go_enter Try.func36, Try.ntmps36
      go_wp2
      go_ret
      exact ⟨⟨_, rfl, by decide⟩, rfl⟩
    · have hx : (x == 0) = false := by simpa using h2
      have hn : 2147483647 < n := by omega
      go_enter Try.func36, Try.ntmps36
      go_wp2
      go_ret
      exact ⟨⟨_, rfl, by decide⟩, rfl⟩
  · have hx : decide (1 < size) = false := by simpa using h1
    have hn : 2147483647 < n := by omega
    go_enter Try.func36, Try.ntmps36
    go_wp2
    go_ret
    exact ⟨⟨_, rfl, by decide⟩, rfl⟩

def readPost (l : List Int) (e : Ending) : Prop := match num l with
  | some (n, k) => e = .returned (.tuple #[.int .i64 n, .int .i64 (k : Int), .int .i64 0])
  | none => ∃ a b c, e = .returned (.tuple #[.int .i64 a, .int .i64 b, .int .i64 c]) ∧ (c != 0) = true
theorem readPost_none {l : List Int} (h : num l = none) (a b c : Int) (hc : (c != 0) = true) : readPost l (.returned (.tuple #[.int .i64 a, .int .i64 b, .int .i64 c])) := by
  unfold readPost; rw [h]; exact ⟨a, b, c, rfl, hc⟩
theorem readPost_some {l : List Int} {n : Int} {k : Nat} (h : num l = some (n, k)) : readPost l (.returned (.tuple #[.int .i64 n, .int .i64 (k : Int), .int .i64 0])) := by
  unfold readPost; rw [h]

set_option maxHeartbeats 1600000 in
set_option maxRecDepth 1000000 in
theorem readNum_row (w : World) (b off cap : Nat) (l : List Int) (hok : okB l) (hm : l.length ≤ maxLen)
    (hc : ∀ i, i < l.length → w.cell? ⟨b, off + i, none⟩ = some (.int .u8 (l.getD i 0))) :
    Calls Try.prog 29 #[.slice (some ⟨b, off, none⟩) l.length cap] w fun e w' => readPost l e ∧ w' = w := by
  unfold maxLen at hm
  generalize hn : l.length = n at *
  have HN := hide hn
  clear hn
  have hm' : (n : Int) ≤ 9223372036854775807 := by omega
  go_enter Try.func29, Try.ntmps29
  go_wp2
  go_loop [2, 9] (fun a i => ∃ (k : Nat) (acc : Int), k ≤ 5 ∧ k ≤ n ∧ a = .int .i64 acc ∧ i = .int .i64 k ∧ 0 ≤ acc ∧ acc < sc k ∧ Hid (numGo (5 - k) (l.drop k) k acc = num l)) (fun _ i => n - (intOf i).toNat)
  case atStart => exact ⟨0, 0, by omega, by omega, rfl, rfl, by omega, by decide, hide rfl⟩
  case round =>
    obtain ⟨k, acc, hk, hkn, rfl, rfl, ha0, ha1, HI⟩ := hrel
    by_cases hl : k < n
    · obtain ⟨x, hx⟩ : ∃ x, x = l.getD k 0 := ⟨_, rfl⟩
      have hcx : w.cell? ⟨b, off + k, none⟩ = some (.int .u8 x) := by rw [hx]; exact hc _ hl
      have hxb : 0 ≤ x ∧ x ≤ 255 := by rw [hx, List.getD_eq_getElem?_getD]; exact hok.at _
      obtain ⟨hx0, hx1⟩ := hxb
      have hd : l.drop k = x :: l.drop (k + 1) := by
        have hl' : k < l.length := by have := unhide HN; omega
        rw [hx, getD_at hl', List.drop_eq_getElem_cons hl']
      have hli : (k : Int) < (n : Int) := by omega
      by_cases h5 : k = 5
      · subst h5
        have HR := hide (unhide HI).symm
        clear HI hc hx hd
        go_wp2
        go_ret3
        exact ⟨readPost_none (unhide HR) _ _ _ rfl, rfl⟩
      have hk5 : ((k : Int) == 5) = false := by simp; omega
      have hI := unhide HI
      rw [hd, show 5 - k = (5 - (k + 1)) + 1 by omega] at hI
      clear HI hc hx hd
      by_cases hx2 : x < 128
      · by_cases hbad : (x = 0 ∧ 0 < k) ∨ 2147483647 < acc + x % 128 * sc k
        · have HR := hide (hI.symm.trans (numGo_bad hx2 hbad))
          clear hI
          have : k = 0 ∨ k = 1 ∨ k = 2 ∨ k = 3 ∨ k = 4 := by omega
          rcases this with rfl | rfl | rfl | rfl | rfl
          all_goals
            simp only [sc] at ha1 hbad
            try simp only [Nat.add_zero] at hcx
            have hb2 := hide hbad
            clear hbad
            go_wp2_with (go_at_call 36; refine (endCode_bad _ _ _ _ (by have := unhide hb2; omega)).mono ?_; rintro e w' ⟨⟨c, rfl, hc0⟩, rfl⟩)
            go_ret3
            exact ⟨readPost_none (unhide HR) _ _ _ hc0, rfl⟩
        · have HR := hide (hI.symm.trans (numGo_end hx2 hbad))
          clear hI
          have : k = 0 ∨ k = 1 ∨ k = 2 ∨ k = 3 ∨ k = 4 := by omega
          rcases this with rfl | rfl | rfl | rfl | rfl
          all_goals
            simp only [sc] at ha1 hbad
            try simp only [Nat.add_zero] at hcx
            have hb2 := hide hbad
            clear hbad
            go_wp2_with (go_at_call 36; refine (endCode_well _ _ _ _ (by have := unhide hb2; omega)).mono ?_; rintro e w' ⟨rfl, rfl⟩)
            go_ret3
            refine ⟨?_, rfl⟩
            have R := readPost_some (unhide HR)
            simp only [sc] at R
            simpa using R
      · have h128 : 128 ≤ x := by omega
        have HI := hide (hI.symm.trans (numGo_on hx2)).symm
        clear hI
        have : k = 0 ∨ k = 1 ∨ k = 2 ∨ k = 3 ∨ k = 4 := by omega
        rcases this with rfl | rfl | rfl | rfl | rfl
        all_goals
          simp only [sc] at ha1
          try simp only [Nat.add_zero] at hcx
          go_wp2
          go_round
          case measure => simp [intOf]; omega
        case rel => exact ⟨1, _, by omega, by omega, rfl, rfl, by omega, by simp only [sc]; omega, by simpa [sc] using HI⟩
        case rel => exact ⟨2, _, by omega, by omega, rfl, rfl, by omega, by simp only [sc]; omega, by simpa [sc] using HI⟩
        case rel => exact ⟨3, _, by omega, by omega, rfl, rfl, by omega, by simp only [sc]; omega, by simpa [sc] using HI⟩
        case rel => exact ⟨4, _, by omega, by omega, rfl, rfl, by omega, by simp only [sc]; omega, by simpa [sc] using HI⟩
        case rel => exact ⟨5, _, by omega, by omega, rfl, rfl, by omega, by simp only [sc]; omega, by simpa [sc] using HI⟩
    · have hr := unhide HI
      rw [List.drop_of_length_le (by have := unhide HN; omega), numGo_nil] at hr
      have HR := hide hr.symm
      clear hr HI hc
      go_wp2
      go_ret3
      exact ⟨readPost_none (unhide HR) _ _ _ rfl, rfl⟩
theorem readNum_nil (w : World) (a : Option Addr) (cap : Nat) :
    Calls Try.prog 29 #[.slice a 0 cap] w fun e w' => readPost [] e ∧ w' = w := by
  go_enter Try.func29, Try.ntmps29
  go_wp2
  refine wp_loop_rounds 1 ?_
  rw [rounds_succ]
  go_wp2
  go_ret3
  exact ⟨readPost_none rfl _ _ _ rfl, rfl⟩

theorem readNum_any (w : World) (v : Value) (l : List Int) (h : Byt w v l) :
    Calls Try.prog 29 #[v] w fun e w' => readPost l e ∧ w' = w := by
  obtain ⟨hok, hm, ⟨rfl, rfl⟩ | ⟨x, cap, rfl, hc, rfl⟩ | ⟨b, off, cap, rfl, _, _, _, _, h5⟩⟩ := h
  · exact readNum_nil w _ _
  · exact readNum_nil w _ _
  · exact readNum_row w b off cap l hok hm h5

/-- A slice cut from p on can be read: what is left of the bytes. -/
theorem Byt.cut {w : World} {b off cap p : Nat} {l : List Int} (hok : okB l) (hm : l.length ≤ maxLen) (hp : p ≤ l.length) (hlc : l.length ≤ cap) (hcm : cap ≤ maxLen) (hb : b < w.heap.size)
    (hc : ∀ i, i < l.length → w.cell? ⟨b, off + i, none⟩ = some (.int .u8 (l.getD i 0))) : Byt w (.slice (some ⟨b, off + p, none⟩) (l.length - p) (cap - p)) (l.drop p) := by
  have hl : (l.drop p).length = l.length - p := by simp
  refine ⟨hok.drop p, by omega, .inr ?_⟩
  by_cases h0 : l.drop p = []
  · refine .inl ⟨⟨b, off + p, none⟩, cap - p, ?_, by omega, h0⟩
    rw [h0] at hl
    rw [← hl]; rfl
  · refine .inr ⟨b, off + p, cap - p, by rw [hl], by omega, by omega, h0, hb, fun i hi => ?_⟩
    rw [Nat.add_assoc, hc (p + i) (by omega)]
    simp

set_option maxHeartbeats 1600000 in
theorem getI_neg (w : World) (a : Option Addr) (n cap : Nat) (p : Int) (hp : p < 0) :
    Calls Try.prog 10 #[.slice a n cap, .int .i64 p] w fun e w' => e = .returned (.tuple #[.int .i64 0, .int .i64 (-1)]) ∧ w' = w := by
  go_enter Try.func10, Try.ntmps10
  go_wp2
  go_ret2
  exact ⟨rfl, rfl⟩

theorem getI_out (w : World) (a : Option Addr) (n cap : Nat) (p : Nat) (hp : n < p) :
    Calls Try.prog 10 #[.slice a n cap, .int .i64 p] w fun e w' => e = .returned (.tuple #[.int .i64 0, .int .i64 (-1)]) ∧ w' = w := by
  have h0 : (0 : Int) ≤ (p : Int) := by omega
  have h1 : (n : Int) < (p : Int) := by omega
  go_enter Try.func10, Try.ntmps10
  go_wp2
  go_ret2
  exact ⟨rfl, rfl⟩

set_option maxHeartbeats 1600000 in
theorem getI_in (w : World) (a : Option Addr) (l : List Int) (cap : Nat) (p : Nat) (hm : l.length ≤ maxLen) (hp : p ≤ l.length) (hlc : l.length ≤ cap) (hcm : cap ≤ maxLen)
    (hcp : ¬ cap = p) (hcut : Byt w (.slice (a.map (fun x => x.add p)) (l.length - p) (cap - p)) (l.drop p)) :
    Calls Try.prog 10 #[.slice a l.length cap, .int .i64 p] w fun e w' => e = .returned (.tuple #[.int .i64 (getN l p).1, .int .i64 (getN l p).2]) ∧ w' = w := by
  have h0 : (0 : Int) ≤ (p : Int) := by omega
  have h1 : (p : Int) ≤ (l.length : Int) := by omega
  have hok := hcut.1
  unfold maxLen at hm hcm
  go_enter Try.func10, Try.ntmps10
  go_wp2_with fail
  refine (readNum_any _ _ (l.drop p) hcut).mono ?_
  rintro e w' ⟨hr, rfl⟩
  cases hq : num (l.drop p) with
  | none =>
    have HR := hide (getN_none hq)
    unfold readPost at hr
    rw [hq] at hr
    obtain ⟨x, y, c, rfl, hc0⟩ := hr
    clear hq hcut
    go_wp2
    go_ret2
    exact ⟨by rw [unhide HR]; rfl, rfl⟩
  | some y =>
    obtain ⟨n, k⟩ := y
    have hb := num_some hok hq
    have hkl : k ≤ l.length - p := by have := hb.2.2.2.2; simpa using this
    have HR := hide (getN_some hq)
    unfold readPost at hr
    rw [hq] at hr
    simp only at hr
    subst hr
    clear hq hcut hb
    go_wp2
    go_ret2
    exact ⟨by rw [unhide HR]; rfl, rfl⟩

set_option maxHeartbeats 1600000 in
theorem getI_end (w : World) (a : Option Addr) (p : Nat) (hm : p ≤ maxLen) :
    Calls Try.prog 10 #[.slice a p p, .int .i64 p] w fun e w' => e = .returned (.tuple #[.int .i64 0, .int .i64 (-1)]) ∧ w' = w := by
  have h0 : (0 : Int) ≤ (p : Int) := by omega
  unfold maxLen at hm
  go_enter Try.func10, Try.ntmps10
  go_wp2_with fail
  refine (readNum_nil _ _ _).mono ?_
  rintro e w' ⟨hr, rfl⟩
  unfold readPost at hr
  rw [show num [] = none from rfl] at hr
  obtain ⟨x, y, c, rfl, hc0⟩ := hr
  go_wp2
  go_ret2
  exact ⟨rfl, rfl⟩

/-- impl.GetNum, whatever it is asked. -/
theorem getI_any (w : World) (v : Value) (l : List Int) (p : Int) (h : Byt w v l) :
    Calls Try.prog 10 #[v, .int .i64 p] w fun e w' => e = .returned (.tuple #[.int .i64 (getN l p).1, .int .i64 (getN l p).2]) ∧ w' = w := by
  by_cases h0 : p < 0
  · obtain ⟨a, cap, rfl, _⟩ := h.shape
    rw [getN_neg h0]
    exact getI_neg w a _ cap p h0
  · obtain ⟨p, rfl⟩ := Int.eq_ofNat_of_zero_le (show 0 ≤ p by omega)
    by_cases h1 : l.length < p
    · obtain ⟨a, cap, rfl, _⟩ := h.shape
      rw [getN_none (by rw [List.drop_of_length_le (by omega)]; rfl)]
      exact getI_out w a _ cap p h1
    · have hm := h.2.1
      obtain ⟨a, cap, hv, hlc, hcm⟩ := h.shape
      by_cases hcp : cap = p
      · have hl : l.length = p := by omega
        rw [getN_none (by rw [List.drop_of_length_le (by omega)]; rfl), hv, hcp, hl]
        exact getI_end w a p (by omega)
      · rw [hv]
        refine getI_in w a l cap p hm (by omega) hlc hcm hcp ?_
        obtain ⟨hok, _, ⟨rfl, rfl⟩ | ⟨x, cap', rfl, hc, rfl⟩ | ⟨b, off, cap', rfl, g1, g2, _, hb, h5⟩⟩ := h
        · simp at hv hcp h1; omega
        · simp at hv
          obtain ⟨rfl, rfl⟩ := hv
          refine ⟨by simpa using okB_nil, by simp [maxLen], .inr (.inl ⟨x.add p, cap' - p, ?_, by omega, by simp⟩)⟩
          simp
        · simp at hv
          obtain ⟨rfl, rfl⟩ := hv
          have hcut := Byt.cut (p := p) hok hm (by omega) hlc hcm hb h5
          rw [Option.map_some, add_plain]
          exact hcut

end Go.Proofs.Ytfblgdhbkakhcaa
