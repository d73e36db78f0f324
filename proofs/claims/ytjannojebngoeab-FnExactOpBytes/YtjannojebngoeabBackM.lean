/- What was put is got, what is got was put: numbers and texts as rows of bytes, in plain mathematics. -/
import Derived.Test.YtjannojebngoeabTextM
namespace Go.Proofs.Ytjannojebngoeab

theorem mod_part {n : Int} : (n % 128 + 128) % 128 = n % 128 := by omega

/-- The bytes of n, whatever stands behind them, are read as n. -/
theorem go_back (f i : Nat) (acc n : Int) (r : List Int) (h0 : 0 ≤ n) (h1 : n < sc (f + 1)) (hif : i + f = 4) (ha : 0 ≤ acc) (hmax : acc + n * sc i ≤ 2147483647) (hn : 0 < i → 0 < n) :
    numGo (f + 1) (putGo f n ++ r) i acc = some (acc + n * sc i, i + (putGo f n).length) := by
  induction f generalizing i acc n with
  | zero =>
    have h2 : n < 128 := h1
    rw [show putGo 0 n ++ r = n :: r from rfl, numGo_end h2]
    · rw [show n % 128 = n by omega]; simp [putGo]
    · rw [show n % 128 = n by omega]
      intro hc
      rcases hc with ⟨e, hi⟩ | hc
      · have := hn hi; omega
      · omega
  | succ f ih =>
    by_cases hb : 127 < n
    · rw [putGo_on hb, List.cons_append, numGo_on (by omega), mod_part]
      have hs := sc_step i (by omega)
      have hss := sc_step (f + 1) (by omega)
      have hpos := (sc_le i).1
      have e : acc + n % 128 * sc i + n / 128 * sc (i + 1) = acc + n * sc i := by
        rw [hs]
        have hd : n = n / 128 * 128 + n % 128 := by omega
        have : n * sc i = (n / 128 * 128 + n % 128) * sc i := by rw [← hd]
        rw [this, Int.add_mul, Int.mul_comm (sc i) 128, ← Int.mul_assoc]
        omega
      have hm0 : 0 ≤ n % 128 * sc i := Int.mul_nonneg (by omega) (by omega)
      rw [ih (i + 1) (acc + n % 128 * sc i) (n / 128) (by omega) (by omega) (by omega) (by omega) (by rw [e]; exact hmax) (by omega), e]
      simp only [List.length_cons, Option.some.injEq, Prod.mk.injEq, true_and]
      omega
    · have h2 : n < 128 := by omega
      rw [putGo_end hb, List.cons_append, numGo_end h2]
      · rw [show n % 128 = n by omega]; simp
      · rw [show n % 128 = n by omega]
        intro hc
        rcases hc with ⟨e, hi⟩ | hc
        · have := hn hi; omega
        · omega

theorem num_back {n : Int} (h0 : 0 ≤ n) (h1 : n ≤ 2147483647) (r : List Int) : num (putN n ++ r) = some (n, (putN n).length) := by
  have h := go_back 4 0 0 n r h0 (by simp only [sc]; omega) rfl (Int.le_refl 0) (by simp only [sc]; omega) (by omega)
  simpa [num, putN, sc] using h

/-- Whatever bytes are read as a number are just its bytes. -/
theorem go_just (f i : Nat) (acc n : Int) (k : Nat) (r : List Int) (hok : okB r) (hif : i + f = 4) (h : numGo (f + 1) r i acc = some (n, k)) :
    ∃ q : Int, 0 ≤ q ∧ n = acc + q * sc i ∧ r.take (k - i) = putGo f q ∧ i < k ∧ (0 < i → 0 < q) := by
  induction f generalizing i acc r with
  | zero =>
    cases r with
    | nil => simp [numGo] at h
    | cons x r =>
      have hx := hok x (by simp)
      by_cases h1 : x < 128
      · by_cases h2 : (x = 0 ∧ 0 < i) ∨ 2147483647 < acc + x % 128 * sc i
        · rw [numGo_bad h1 h2] at h; cases h
        · rw [numGo_end h1 h2] at h
          simp only [Option.some.injEq, Prod.mk.injEq] at h
          obtain ⟨rfl, rfl⟩ := h
          refine ⟨x, hx.1, by rw [show x % 128 = x by omega], ?_, by omega, by omega⟩
          rw [show i + 1 - i = 1 by omega]; rfl
      · rw [numGo_on h1] at h; simp [numGo] at h
  | succ f ih =>
    cases r with
    | nil => simp [numGo] at h
    | cons x r =>
      have hx := hok x (by simp)
      by_cases h1 : x < 128
      · by_cases h2 : (x = 0 ∧ 0 < i) ∨ 2147483647 < acc + x % 128 * sc i
        · rw [numGo_bad h1 h2] at h; cases h
        · rw [numGo_end h1 h2] at h
          simp only [Option.some.injEq, Prod.mk.injEq] at h
          obtain ⟨rfl, rfl⟩ := h
          refine ⟨x, hx.1, by rw [show x % 128 = x by omega], ?_, by omega, by omega⟩
          rw [show i + 1 - i = 1 by omega, putGo_end (by omega)]; rfl
      · rw [numGo_on h1] at h
        obtain ⟨q, hq0, hqn, hqr, hik, hqp⟩ := ih (i + 1) _ r (fun y hy => hok y (by simp [hy])) (by omega) h
        have hq1 := hqp (by omega)
        have hs := sc_step i (by omega)
        refine ⟨x % 128 + q * 128, by omega, ?_, ?_, by omega, by omega⟩
        · rw [hqn, hs, Int.add_mul, Int.mul_comm (sc i) 128, ← Int.mul_assoc]; omega
        · rw [show k - i = (k - (i + 1)) + 1 by omega, List.take_succ_cons, hqr, putGo_on (by omega)]
          congr 1
          · omega
          · rw [show (x % 128 + q * 128) / 128 = q by omega]

theorem num_just {r : List Int} {n : Int} {k : Nat} (hok : okB r) (h : num r = some (n, k)) : r.take k = putN n := by
  obtain ⟨q, _, hqn, hqr, _, _⟩ := go_just 4 0 0 n k r hok rfl h
  have e : q = n := by simp only [sc] at hqn; omega
  rw [e] at hqr
  simpa [putN] using hqr

/-- A text that was put is got. -/
theorem getT_back {l t : List Int} (ht : t.length ≤ 30) : getT (putT l t) (l.length : Int) = (t, ((putT l t).length : Int)) := by
  have hp := putT_in (l := l) (t := t) (by omega)
  have hn := num_back (n := (t.length : Int)) (by omega) (by omega) t
  have e : getN (putT l t) (l.length : Int) = ((t.length : Int), ((l.length + (putN t.length).length : Nat) : Int)) := by
    rw [hp, List.append_assoc, getN_some (n := (t.length : Int)) (k := (putN t.length).length)]
    · simp
    · rw [List.drop_left]; exact hn
  rw [getT_in e ht (by rw [hp]; simp; omega)]
  rw [hp]
  have hd : (l ++ putN t.length ++ t).drop (l.length + (putN t.length).length) = t := by
    rw [← List.length_append, List.drop_left]
  rw [hd, List.take_of_length_le (Nat.le_refl _)]
  simp
  omega
end Go.Proofs.Ytjannojebngoeab
