/- impl.numRow: the bytes of a number in a new array of five, by its contract. -/
import Derived.Test.YtjannojebngoeabApp
import Derived.Test.YtjannojebngoeabPutM
namespace Go.Proofs.Ytjannojebngoeab
open Go.RowKit
set_option linter.unusedVariables false

/-- An array of five bytes in a new block. -/
def five (c0 c1 c2 c3 c4 : Int) : Obj := .cells #[.int .u8 c0, .int .u8 c1, .int .u8 c2, .int .u8 c3, .int .u8 c4] 78

set_option maxHeartbeats 1600000 in
set_option maxRecDepth 1000000 in
theorem numRow_any (w : World) (n : Int) (h0 : 0 ≤ n) (h1 : n ≤ 2147483647) :
    Calls Try.prog 59 #[.int .i64 n] w fun e w' => ∃ c0 c1 c2 c3 c4 : Int, e = .returned (.tuple #[.agg #[.int .u8 c0, .int .u8 c1, .int .u8 c2, .int .u8 c3, .int .u8 c4], .int .i64 ((putN n).length : Nat)]) ∧
      [c0, c1, c2, c3, c4].take (putN n).length = putN n ∧ Below w.heap.size w w' := by
  go_enter Try.func59, Try.ntmps59
  go_wp2
  go_loopw [0, 3] (fun m s wr => ∃ (k f : Nat) (q c0 c1 c2 c3 c4 : Int), k + f = 4 ∧ m = .int .i64 q ∧ s = .int .i64 k ∧ 0 ≤ q ∧ q ≤ 2147483647 ∧ q < sc (f + 1) ∧ wr = w.alloc (.cells #[.int .u8 c0, .int .u8 c1, .int .u8 c2, .int .u8 c3, .int .u8 c4] 78) ∧ Hid (putN n = [c0, c1, c2, c3, c4].take k ++ putGo f q)) (fun m _ _ => (intOf m).toNat)
  case atStart => exact ⟨0, 4, n, 0, 0, 0, 0, 0, rfl, rfl, rfl, h0, h1, by simp only [sc]; omega, rfl, hide rfl⟩
  case round =>
    obtain ⟨k, f, q, c0, c1, c2, c3, c4, hkf, rfl, rfl, hq0, hq1, hq2, rfl, HP⟩ := hrel
    by_cases hq : 128 ≤ q
    · have hf : 1 ≤ f := by
        cases f with
        | zero => simp [sc] at hq2; omega
        | succ f => omega
      obtain ⟨f, rfl⟩ : ∃ g, f = g + 1 := ⟨f - 1, by omega⟩
      have hss := sc_step (f + 1) (by omega)
      have HQ := hide (show q / 128 < sc (f + 1) by omega)
      have HP2 := hide ((unhide HP).trans (congrArg ([c0, c1, c2, c3, c4].take k ++ ·) (putGo_on (f := f) (show 127 < q by omega))))
      clear hss hq2 HP
      have : k = 0 ∨ k = 1 ∨ k = 2 ∨ k = 3 := by omega
      rcases this with rfl | rfl | rfl | rfl
      all_goals
        go_wp2
        go_roundw
        case measure => simp [intOf]; omega
      case rel => exact ⟨1, f, q / 128, _, _, _, _, _, by omega, rfl, rfl, by omega, by omega, unhide HQ, rfl, hide (by simpa using unhide HP2)⟩
      case rel => exact ⟨2, f, q / 128, _, _, _, _, _, by omega, rfl, rfl, by omega, by omega, unhide HQ, rfl, hide (by simpa using unhide HP2)⟩
      case rel => exact ⟨3, f, q / 128, _, _, _, _, _, by omega, rfl, rfl, by omega, by omega, unhide HQ, rfl, hide (by simpa using unhide HP2)⟩
      case rel => exact ⟨4, f, q / 128, _, _, _, _, _, by omega, rfl, rfl, by omega, by omega, unhide HQ, rfl, hide (by simpa using unhide HP2)⟩
    · have HP2 := hide ((unhide HP).trans (congrArg ([c0, c1, c2, c3, c4].take k ++ ·) (putGo_end (f := f) (show ¬ 127 < q by omega))))
      clear HP hq2
      have hq' : ¬ (128 : Int) ≤ q := hq
      have : k = 0 ∨ k = 1 ∨ k = 2 ∨ k = 3 ∨ k = 4 := by omega
      rcases this with rfl | rfl | rfl | rfl | rfl
      · go_wp2
        rw [unhide HP2]
        exact bodyPost_ret (v := .tuple #[.agg #[.int .u8 q, .int .u8 c1, .int .u8 c2, .int .u8 c3, .int .u8 c4], .int .i64 1]) (by simp [results, Try.results59, go_sem]) rfl ⟨q, c1, c2, c3, c4, rfl, by simp, (Below.refl _ _).alloc (Nat.le_refl _) _⟩
      · go_wp2
        rw [unhide HP2]
        exact bodyPost_ret (v := .tuple #[.agg #[.int .u8 c0, .int .u8 q, .int .u8 c2, .int .u8 c3, .int .u8 c4], .int .i64 2]) (by simp [results, Try.results59, go_sem]) rfl ⟨c0, q, c2, c3, c4, rfl, by simp, (Below.refl _ _).alloc (Nat.le_refl _) _⟩
      · go_wp2
        rw [unhide HP2]
        exact bodyPost_ret (v := .tuple #[.agg #[.int .u8 c0, .int .u8 c1, .int .u8 q, .int .u8 c3, .int .u8 c4], .int .i64 3]) (by simp [results, Try.results59, go_sem]) rfl ⟨c0, c1, q, c3, c4, rfl, by simp, (Below.refl _ _).alloc (Nat.le_refl _) _⟩
      · go_wp2
        rw [unhide HP2]
        exact bodyPost_ret (v := .tuple #[.agg #[.int .u8 c0, .int .u8 c1, .int .u8 c2, .int .u8 q, .int .u8 c4], .int .i64 4]) (by simp [results, Try.results59, go_sem]) rfl ⟨c0, c1, c2, q, c4, rfl, by simp, (Below.refl _ _).alloc (Nat.le_refl _) _⟩
      · go_wp2
        rw [unhide HP2]
        exact bodyPost_ret (v := .tuple #[.agg #[.int .u8 c0, .int .u8 c1, .int .u8 c2, .int .u8 c3, .int .u8 q], .int .i64 5]) (by simp [results, Try.results59, go_sem]) rfl ⟨c0, c1, c2, c3, q, rfl, by simp, (Below.refl _ _).alloc (Nat.le_refl _) _⟩
end Go.Proofs.Ytjannojebngoeab
