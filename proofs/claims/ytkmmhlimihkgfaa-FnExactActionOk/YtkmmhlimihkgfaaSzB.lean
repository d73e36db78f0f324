/- The laws' own count of how great a row of bytes is, by contracts. -/
import Derived.Test.YtkmmhlimihkgfaaChecked
import Derived.Test.YtkmmhlimihkgfaaBase
namespace Go.Proofs.Ytkmmhlimihkgfaa
open Go.RowKit
set_option linter.unusedVariables false

/-- What is left when n are taken: -1 where there aren't so many. -/
def left4 (n : Nat) (left : Int) : Int := if (n : Int) ≤ left then left - n else -1
theorem left4_in {n : Nat} {left : Int} (h : (n : Int) ≤ left) : left4 n left = left - n := if_pos h
theorem left4_out {n : Nat} {left : Int} (h : ¬ (n : Int) ≤ left) : left4 n left = -1 := if_neg h

theorem szB4_any (w : World) (a : Option Addr) (n cap : Nat) (left : Int) (hn : n ≤ maxLen) (h0 : 0 ≤ left) (h1 : left ≤ 1000000000) :
    Calls Try.prog 17 #[.slice a n cap, .int .i64 left] w fun e w' => e = .returned (.int .i64 (left4 n left)) ∧ w' = w := by
  unfold maxLen at hn
  by_cases h : (n : Int) ≤ left
  · have HR := hide (left4_in h)
    have hd : ¬ left - (n : Int) < 0 := by omega
    go_enter Try.func17, Try.ntmps17
    go_wp2
    go_ret
    exact ⟨by rw [unhide HR]; rfl, rfl⟩
  · have HR := hide (left4_out h)
    have hd : left - (n : Int) < 0 := by omega
    go_enter Try.func17, Try.ntmps17
    go_wp2
    go_ret
    exact ⟨by rw [unhide HR]; rfl, rfl⟩

end Go.Proofs.Ytkmmhlimihkgfaa
