/- Numbers as rows of bytes, in plain mathematics: what a row is read as. -/
import Derived.Test.YtjannojebngoeabBase
namespace Go.Proofs.Ytjannojebngoeab

/-- 128 to the power k, for k up to 5. -/
def sc : Nat → Int
  | 0 => 1
  | 1 => 128
  | 2 => 16384
  | 3 => 2097152
  | 4 => 268435456
  | _ => 34359738368

/-- The number whose bytes begin the row, and how many they are; i bytes have been read, they came to acc. -/
def numGo : Nat → List Int → Nat → Int → Option (Int × Nat)
  | 0, _, _, _ => none
  | _ + 1, [], _, _ => none
  | f + 1, x :: r, i, acc => if x < 128 then (if (x = 0 ∧ 0 < i) ∨ 2147483647 < acc + x % 128 * sc i then none else some (acc + x % 128 * sc i, i + 1)) else numGo f r (i + 1) (acc + x % 128 * sc i)

def num (r : List Int) : Option (Int × Nat) := numGo 5 r 0 0

def getN (l : List Int) (p : Int) : Int × Int := if p < 0 then (0, -1) else match num (l.drop p.toNat) with
  | some (n, k) => (n, p + (k : Int))
  | none => (0, -1)

theorem sc_step (k : Nat) (h : k < 5) : sc (k + 1) = sc k * 128 := by
  have : k = 0 ∨ k = 1 ∨ k = 2 ∨ k = 3 ∨ k = 4 := by omega
  rcases this with rfl | rfl | rfl | rfl | rfl <;> rfl
theorem sc_le (k : Nat) : 1 ≤ sc k ∧ sc k ≤ 34359738368 := by unfold sc; split <;> omega
theorem part_le {x s : Int} (h0 : 1 ≤ s) (h1 : s ≤ 34359738368) : 0 ≤ x % 128 * s ∧ x % 128 * s ≤ 127 * s ∧ x % 128 * s ≤ 4363686772736 := by
  have a : 0 ≤ x % 128 * s := Int.mul_nonneg (by omega) (by omega)
  have b : x % 128 * s ≤ 127 * s := Int.mul_le_mul_of_nonneg_right (by omega) (by omega)
  omega

theorem numGo_nil (f i : Nat) (acc : Int) : numGo f [] i acc = none := by cases f <;> rfl
theorem numGo_end {f i : Nat} {acc x : Int} {r : List Int} (h : x < 128) (h1 : ¬ ((x = 0 ∧ 0 < i) ∨ 2147483647 < acc + x % 128 * sc i)) : numGo (f + 1) (x :: r) i acc = some (acc + x % 128 * sc i, i + 1) := by
  rw [numGo, if_pos h, if_neg h1]
theorem numGo_bad {f i : Nat} {acc x : Int} {r : List Int} (h : x < 128) (h1 : (x = 0 ∧ 0 < i) ∨ 2147483647 < acc + x % 128 * sc i) : numGo (f + 1) (x :: r) i acc = none := by
  rw [numGo, if_pos h, if_pos h1]
theorem numGo_on {f i : Nat} {acc x : Int} {r : List Int} (h : ¬ x < 128) : numGo (f + 1) (x :: r) i acc = numGo f r (i + 1) (acc + x % 128 * sc i) := by
  rw [numGo, if_neg h]

/-- What is read is a number that may be, of one to five bytes, and not more than are there. -/
theorem numGo_some {f i : Nat} {acc : Int} {r : List Int} {n : Int} {k : Nat} (ha : 0 ≤ acc) (hr : okB r) (h : numGo f r i acc = some (n, k)) : 0 ≤ n ∧ n ≤ 2147483647 ∧ i < k ∧ k ≤ i + f ∧ k ≤ i + r.length := by
  induction f generalizing i acc r with
  | zero => simp [numGo] at h
  | succ f ih =>
    cases r with
    | nil => simp [numGo] at h
    | cons x r =>
      have hx := hr x (by simp)
      have hs : 0 ≤ sc i := by unfold sc; split <;> omega
      have hm : 0 ≤ x % 128 * sc i := Int.mul_nonneg (by omega) hs
      by_cases h1 : x < 128
      · by_cases h2 : (x = 0 ∧ 0 < i) ∨ 2147483647 < acc + x % 128 * sc i
        · rw [numGo_bad h1 h2] at h; cases h
        · rw [numGo_end h1 h2] at h
          simp only [Option.some.injEq, Prod.mk.injEq] at h
          obtain ⟨rfl, rfl⟩ := h
          refine ⟨by omega, by omega, by omega, by omega, by simp⟩
      · rw [numGo_on h1] at h
        have := ih (by omega) (fun y hy => hr y (by simp [hy])) h
        simp only [List.length_cons]
        omega
theorem num_some {r : List Int} {n : Int} {k : Nat} (hr : okB r) (h : num r = some (n, k)) : 0 ≤ n ∧ n ≤ 2147483647 ∧ 0 < k ∧ k ≤ 5 ∧ k ≤ r.length := by
  have := numGo_some (Int.le_refl 0) hr h
  omega

theorem getN_neg {l : List Int} {p : Int} (h : p < 0) : getN l p = (0, -1) := by rw [getN, if_pos h]
theorem getN_none {l : List Int} {p : Nat} (h : num (l.drop p) = none) : getN l (p : Int) = (0, -1) := by
  rw [getN, if_neg (by omega), Int.toNat_natCast, h]
theorem getN_some {l : List Int} {p : Nat} {n : Int} {k : Nat} (h : num (l.drop p) = some (n, k)) : getN l (p : Int) = (n, (p : Int) + (k : Int)) := by
  rw [getN, if_neg (by omega), Int.toNat_natCast, h]

end Go.Proofs.Ytjannojebngoeab
