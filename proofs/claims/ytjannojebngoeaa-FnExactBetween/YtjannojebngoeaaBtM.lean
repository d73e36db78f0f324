/- A key between two keys, in plain mathematics. -/
import Derived.Test.YtjannojebngoeaaKlM
import Derived.Test.YtjannojebngoeaaKeyS
namespace Go.Proofs.Ytjannojebngoeaa
set_option linter.unusedVariables false

/-- The upper number at the place i. -/
def hiB (b : List Int) (i : Nat) (opn : Bool) : Int := if opn then 1000 else b.getD i 0
/-- f places from i on. -/
def btGo (a b : List Int) : Nat → Nat → Bool → List Int → Option (List Int)
  | 0, _, _, _ => none
  | f + 1, i, opn, out => if 1 < hiB b i opn - a.getD i 0 then some (out ++ [(a.getD i 0 + hiB b i opn) / 2]) else btGo a b f (i + 1) (opn || decide (a.getD i 0 < hiB b i opn)) (out ++ [a.getD i 0])
def bt (a b : List Int) : Option (List Int) := btGo a b 12 0 (decide (b.length = 0)) []

theorem btGo_yes {a b out : List Int} {f i : Nat} {opn : Bool} (h : 1 < hiB b i opn - a.getD i 0) : btGo a b (f + 1) i opn out = some (out ++ [(a.getD i 0 + hiB b i opn) / 2]) := by rw [btGo, if_pos h]
theorem btGo_on {a b out : List Int} {f i : Nat} {opn : Bool} (h : ¬ 1 < hiB b i opn - a.getD i 0) : btGo a b (f + 1) i opn out = btGo a b f (i + 1) (opn || decide (a.getD i 0 < hiB b i opn)) (out ++ [a.getD i 0]) := by rw [btGo, if_neg h]
theorem btGo_len {a b : List Int} {f i : Nat} {opn : Bool} {out r : List Int} (h : btGo a b f i opn out = some r) : r.length ≤ out.length + f := by
  induction f generalizing i opn out with
  | zero => cases h
  | succ f ih =>
    rw [btGo] at h
    split at h
    · injection h with h; subst h; simp
    · have := ih h; simp at this; omega

/-- What is told of two rows. -/
def btBad (a b : List Int) : Bool := (decide (0 < a.length) && !keyB a) || ((decide (0 < b.length) && !keyB b) || (decide (0 < b.length) && !klB a b))
def btAll (a b : List Int) : Option (List Int) := if btBad a b then none else bt a b
theorem btAll_len {a b r : List Int} (h : btAll a b = some r) : r.length ≤ 12 := by
  unfold btAll at h
  split at h
  · cases h
  · have := btGo_len h; simpa using this
/-- Each number of a row that is a key, or empty, is in 0 .. 999. -/
theorem key_rng {a : List Int} (h : (decide (0 < a.length) && !keyB a) = false) (i : Nat) : 0 ≤ a.getD i 0 ∧ a.getD i 0 ≤ 999 := by
  by_cases hi : i < a.length
  · have hk : keyB a = true := by
      have : decide (0 < a.length) = true := by simp; omega
      rw [this] at h
      simpa using h
    obtain ⟨_, _, _, h4⟩ := (keyB_iff a).1 hk
    have := h4 i hi
    unfold keyCh at this
    exact this
  · have : a.getD i 0 = 0 := by simp [List.getD_eq_getElem?_getD, List.getElem?_eq_none (show a.length ≤ i by omega)]
    omega
end Go.Proofs.Ytjannojebngoeaa
