/- Texts as rows of bytes, in plain mathematics, and a cut of a readable row. -/
import Derived.Test.YtjannojebngoeabPutM
namespace Go.Proofs.Ytjannojebngoeab
open Go.RowKit
set_option linter.unusedVariables false

/-- b, how many bytes t has, and t, where t may be put. -/
def putT (l t : List Int) : List Int := if 30 < t.length then l else l ++ putN t.length ++ t
/-- The text that stands at p, and the place behind it. -/
def getT (l : List Int) (p : Int) : List Int × Int := if (getN l p).2 < 0 ∨ 30 < (getN l p).1 ∨ (l.length : Int) - (getN l p).2 < (getN l p).1 then ([], -1)
  else ((l.drop (getN l p).2.toNat).take (getN l p).1.toNat, (getN l p).2 + (getN l p).1)

theorem putT_out {l t : List Int} (h : 30 < t.length) : putT l t = l := by rw [putT, if_pos h]
theorem putT_in {l t : List Int} (h : ¬ 30 < t.length) : putT l t = l ++ putN t.length ++ t := by rw [putT, if_neg h]
theorem putT_len (l t : List Int) : (putT l t).length ≤ l.length + 40 := by
  unfold putT
  split
  · omega
  · have := putN_len t.length; simp; omega
theorem getT_out {l : List Int} {p : Int} (h : (getN l p).2 < 0 ∨ 30 < (getN l p).1 ∨ (l.length : Int) - (getN l p).2 < (getN l p).1) : getT l p = ([], -1) := by rw [getT, if_pos h]
theorem getT_in {l : List Int} {p : Int} {n k : Nat} (e : getN l p = ((n : Int), (k : Int))) (h1 : n ≤ 30) (h2 : k + n ≤ l.length) : getT l p = ((l.drop k).take n, (k : Int) + (n : Int)) := by
  rw [getT, e, if_neg (by simp only; omega)]
  simp

/-- What getN says is the refusal, or a number that may be and a place within the row behind its first byte. -/
theorem getN_cases {l : List Int} (hok : okB l) (p : Int) : getN l p = (0, -1) ∨ ∃ n k : Nat, getN l p = ((n : Int), (k : Int)) ∧ n ≤ 2147483647 ∧ 1 ≤ k ∧ k ≤ l.length := by
  by_cases h0 : p < 0
  · exact .inl (getN_neg h0)
  · obtain ⟨p, rfl⟩ := Int.eq_ofNat_of_zero_le (show 0 ≤ p by omega)
    cases hq : num (l.drop p) with
    | none => exact .inl (getN_none hq)
    | some y =>
      obtain ⟨n, k⟩ := y
      obtain ⟨a1, a2, a3, a4, a5⟩ := num_some (hok.drop p) hq
      right
      have hlen : (l.drop p).length = l.length - p := by simp
      refine ⟨n.toNat, p + k, ?_, by omega, by omega, by omega⟩
      rw [getN_some hq]
      simp only [Prod.mk.injEq]
      omega

/-- A slice cut out of a row can be read. -/
theorem Byt.cut2 {w : World} {b off cap p n : Nat} {l : List Int} (hok : okB l) (hm : l.length ≤ maxLen) (hp : p + n ≤ l.length) (hlc : l.length ≤ cap) (hcm : cap ≤ maxLen) (hb : b < w.heap.size)
    (hc : ∀ i, i < l.length → w.cell? ⟨b, off + i, none⟩ = some (.int .u8 (l.getD i 0))) : Byt w (.slice (some ⟨b, off + p, none⟩) n (cap - p)) ((l.drop p).take n) := by
  have hl : ((l.drop p).take n).length = n := by simp; omega
  refine ⟨(hok.drop p).take n, by omega, .inr ?_⟩
  by_cases h0 : n = 0
  · subst h0
    exact .inl ⟨⟨b, off + p, none⟩, cap - p, rfl, by omega, by simp⟩
  · refine .inr ⟨b, off + p, cap - p, by rw [hl], by omega, by omega, fun e => by rw [e] at hl; simp at hl; omega, hb, fun i hi => ?_⟩
    rw [Nat.add_assoc, hc (p + i) (by omega), List.getD_eq_getElem?_getD, List.getD_eq_getElem?_getD, List.getElem?_take, if_pos (by omega), List.getElem?_drop]

end Go.Proofs.Ytjannojebngoeab
