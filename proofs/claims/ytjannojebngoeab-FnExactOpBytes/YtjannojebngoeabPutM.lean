/- The bytes of a number, in plain mathematics. -/
import Derived.Test.YtjannojebngoeabNum
namespace Go.Proofs.Ytjannojebngoeab

/-- The bytes of n, at most f + 1 of them. -/
def putGo : Nat → Int → List Int
  | 0, n => [n]
  | f + 1, n => if 127 < n then (n % 128 + 128) :: putGo f (n / 128) else [n]
def putN (n : Int) : List Int := putGo 4 n
/-- b and the bytes of n, where n may be put. -/
def putAll (l : List Int) (n : Int) : List Int := if n < 0 ∨ 2147483647 < n then l else l ++ putN n

theorem putGo_on {f : Nat} {n : Int} (h : 127 < n) : putGo (f + 1) n = (n % 128 + 128) :: putGo f (n / 128) := by rw [putGo, if_pos h]
theorem putGo_end {f : Nat} {n : Int} (h : ¬ 127 < n) : putGo f n = [n] := by cases f with
  | zero => rfl
  | succ f => rw [putGo, if_neg h]
theorem putGo_len (f : Nat) (n : Int) : (putGo f n).length ≤ f + 1 := by
  induction f generalizing n with
  | zero => simp [putGo]
  | succ f ih =>
    by_cases h : 127 < n
    · rw [putGo_on h]; have := ih (n / 128); simp; omega
    · rw [putGo_end h]; simp
theorem putGo_pos (f : Nat) (n : Int) : 0 < (putGo f n).length := by
  cases f with
  | zero => simp [putGo]
  | succ f =>
    by_cases h : 127 < n
    · rw [putGo_on h]; simp
    · rw [putGo_end h]; simp
theorem putGo_ok (f : Nat) (n : Int) (h0 : 0 ≤ n) (h1 : n < sc (f + 1)) (hf : f ≤ 4) : okB (putGo f n) := by
  induction f generalizing n with
  | zero => intro x hx; simp [putGo] at hx; subst hx; simp [sc] at h1; omega
  | succ f ih =>
    by_cases h : 127 < n
    · rw [putGo_on h]
      have := sc_step (f + 1) (by omega)
      intro x hx
      rcases List.mem_cons.1 hx with rfl | hx
      · omega
      · exact ih (n / 128) (by omega) (by omega) (by omega) x hx
    · rw [putGo_end h]; intro x hx; simp at hx; omega
theorem putN_ok {n : Int} (h0 : 0 ≤ n) (h1 : n ≤ 2147483647) : okB (putN n) := putGo_ok 4 n h0 (by simp only [sc]; omega) (by omega)
theorem putN_len (n : Int) : (putN n).length ≤ 5 := putGo_len 4 n
theorem putAll_in {l : List Int} {n : Int} (h0 : 0 ≤ n) (h1 : n ≤ 2147483647) : putAll l n = l ++ putN n := by rw [putAll, if_neg (by omega)]
theorem putAll_out {l : List Int} {n : Int} (h : n < 0 ∨ 2147483647 < n) : putAll l n = l := by rw [putAll, if_pos h]
theorem putAll_len (l : List Int) (n : Int) : (putAll l n).length ≤ l.length + 5 := by
  unfold putAll
  split
  · omega
  · have := putN_len n; simp; omega

end Go.Proofs.Ytjannojebngoeab
