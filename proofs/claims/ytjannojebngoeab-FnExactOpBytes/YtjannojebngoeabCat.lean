/- slices.Grow of nothing and slices.Concat over rows of bytes, by their contracts. -/
import Derived.Test.YtjannojebngoeabApp
import Derived.Lib.AppendZeros
namespace Go.Proofs.Ytjannojebngoeab
open Go.RowKit
set_option linter.unusedVariables false

theorem grow_nil (w : World) : Calls Try.prog 70 #[.slice none 0 0, .int .i64 0] w fun e w' => e = .returned (.slice none 0 0) ∧ w' = w := by
  go_enter Try.func70, Try.ntmps70
  go_wp2
  go_ret
  exact ⟨rfl, rfl⟩

set_option maxHeartbeats 1600000 in
theorem grow_some (w : World) (n : Nat) (h0 : 0 < n) (hn : n ≤ 134217728) :
    Calls Try.prog 70 #[.slice none 0 0, .int .i64 n] w fun e w' => ∃ v, e = .returned v ∧ w'.ownsRow w.heap.size 5 1 v 0 [] ∧ Below w.heap.size w w' := by
  obtain ⟨i0, hi, hz0, hz1, hz2⟩ := info_parts Try.info5
  obtain ⟨G, hG⟩ : ∃ G, G = grownCap w n 0 5 := ⟨_, rfl⟩
  have hGn : n ≤ G := by rw [hG]; exact grownCap_ge w _ _ _
  have hGm : G ≤ maxLen := by rw [hG]; exact grownCap_le_maxLen w _ _ _ (by unfold maxLen; omega)
  have hr := fun ty => Lib.run_append_nil_zeros w 25 3 ty 5 i0 (.int .u8 0) .i64 .i64 Try.underlying25 Try.underlying3 hi hz0 n h0 (by omega) (by omega) (by rw [hz2]; omega)
  rw [← hG] at hr
  obtain ⟨cs, hcs⟩ : ∃ cs, cs = Builtin.zeroCells (Value.int .u8 0).cells n ++ Builtin.zeroCells (Value.int .u8 0).cells (G - n) := ⟨_, rfl⟩
  have hsz : cs.size = G * 1 := by
    have h1 : (Value.int .u8 0).cells.size = 1 := rfl
    rw [hcs, Array.size_append, size_zeroCells, size_zeroCells, h1]; omega
  rw [← hcs] at hr
  clear hcs hG
  have hn0 : (0 : Int) < (n : Int) := by omega
  have hn1 : ¬ (n : Int) < 0 := by omega
  have hGz : G ≠ 0 := by omega
  have hGm' := hGm
  unfold maxLen at hGm'
  go_enter Try.func70, Try.ntmps70
  go_wp2_with (at_builtin; refine Lib.wpList_append_run _ rfl _ _ _ _ rfl _ _ rfl rfl _ _ (hr _) ?_)
  go_ret
  refine ⟨_, rfl, ?_, ((Below.refl _ _).drew).alloc (Nat.le_refl _) _⟩
  exact ⟨rfl, .inr ⟨w.heap.size, G, cs, rfl, Nat.le_refl _, heap_alloc_new w.drew _, Nat.zero_le _, hGm, hsz, by simp⟩⟩

theorem grow_any (w : World) (n : Nat) (hn : n ≤ 134217728) :
    Calls Try.prog 70 #[.slice none 0 0, .int .i64 n] w fun e w' => ∃ v, e = .returned v ∧ Own w' w.heap.size v [] ∧ Below w.heap.size w w' := by
  by_cases h0 : n = 0
  · subst h0
    refine (grow_nil w).mono ?_
    rintro e w' ⟨rfl, rfl⟩
    exact ⟨_, rfl, ⟨okB_nil, World.ownsRow_nil _ _ _ _⟩, Below.refl _ _⟩
  · refine (grow_some w n (by omega) hn).mono ?_
    rintro e w' ⟨v, rfl, h1, h2⟩
    exact ⟨_, rfl, ⟨okB_nil, h1⟩, h2⟩

/-- How many bytes the rows have together. -/
def sumLen (ls : List (List Int)) : Nat := (ls.map List.length).sum
theorem sumLen_take (ls : List (List Int)) (k : Nat) (h : k < ls.length) : sumLen (ls.take (k + 1)) = sumLen (ls.take k) + (ls[k]).length := by
  unfold sumLen
  rw [List.take_succ_eq_append_getElem h]
  simp only [List.map_append, List.sum_append, List.map_cons, List.map_nil, List.sum_cons, List.sum_nil, Nat.add_zero]
theorem sumLen_le (ls : List (List Int)) (k : Nat) : sumLen (ls.take k) ≤ sumLen ls := by
  have h : sumLen ls = sumLen (ls.take k) + sumLen (ls.drop k) := by
    unfold sumLen
    rw [← List.sum_append, ← List.map_append, List.take_append_drop]
  omega
theorem flatten_take (ls : List (List Int)) (k : Nat) (h : k < ls.length) : (ls.take (k + 1)).flatten = (ls.take k).flatten ++ ls[k] := by
  rw [List.take_succ_eq_append_getElem h]
  simp only [List.flatten_append, List.flatten_cons, List.flatten_nil, List.append_nil]
theorem flatten_len (ls : List (List Int)) : ls.flatten.length = sumLen ls := by unfold sumLen; rw [List.length_flatten]

set_option maxHeartbeats 1600000 in
theorem concat_any (w : World) (b off cap : Nat) (n : Nat) (vs : List Value) (ls : List (List Int)) (hn : n = ls.length) (hn1 : n ≤ 1000) (hb : b < w.heap.size)
    (hc : ∀ i, i < n → w.cell? ⟨b, off + i, none⟩ = some (vs.getD i undef)) (hv : ∀ i, i < n → Byt w (vs.getD i undef) (ls.getD i [])) (hs : sumLen ls ≤ 67108864) :
    Calls Try.prog 58 #[.slice (some ⟨b, off, none⟩) n cap] w fun e w' => ∃ v, e = .returned v ∧ Own w' w.heap.size v ls.flatten ∧ Below w.heap.size w w' := by
  have HN := hide hn
  clear hn
  go_enter Try.func58, Try.ntmps58
  go_wp2
  go_loop [3, 11] (fun s i => ∃ k : Nat, k ≤ n ∧ i = .int .i64 k ∧ s = .int .i64 (sumLen (ls.take k) : Nat)) (fun _ i => n - (intOf i).toNat)
  case atStart => exact ⟨0, Nat.zero_le _, rfl, rfl⟩
  case round =>
    obtain ⟨k, hk, rfl, rfl⟩ := hrel
    by_cases hlt : k < n
    · have hkl : k < ls.length := by have := unhide HN; omega
      have hvk := hv k hlt
      have hck := hc k hlt
      obtain ⟨a, c, hsh, hl1, hl2⟩ := hvk.shape
      rw [hsh] at hck
      have hqm : sumLen (ls.take (k + 1)) = sumLen (ls.take k) + (ls.getD k []).length := by rw [sumLen_take ls k hkl]; simp [hkl]
      have hle := sumLen_le ls (k + 1)
      rw [hqm] at hle
      generalize sumLen (ls.take k) = q at *
      generalize (ls.getD k []).length = m at *
      have HQ := hide hqm
      have hlt' : (k : Int) < (n : Int) := by omega
      have hpos : ¬ ((q : Int) + (m : Int)) < 0 := by omega
      clear hqm hvk hsh hc hv
      go_wp2
      go_round
      case rel => exact ⟨k + 1, by omega, by go_num, by rw [unhide HQ]; go_num⟩
      case measure => simp [intOf]; omega
    · have e : k = n := by omega
      subst e
      have hall : ls.take k = ls := List.take_of_length_le (by have := unhide HN; omega)
      rw [hall]
      clear hall
      go_wp2_with fail
      refine (grow_any w (sumLen ls) (by omega)).mono ?_
      rintro e w1 ⟨v1, rfl, ho1, hB1⟩
      go_wp2
      go_loopw [6, 27] (fun u i wr => ∃ j : Nat, j ≤ k ∧ i = .int .i64 j ∧ Own wr w.heap.size u (ls.take j).flatten ∧ Below w.heap.size w wr) (fun _ i _ => k - (intOf i).toNat)
      case atStart => exact ⟨0, Nat.zero_le _, rfl, ho1, hB1⟩
      case round =>
        obtain ⟨j, hj, rfl, ho, hB⟩ := hrel
        clear ho1 hB1
        by_cases hlt2 : j < k
        · have hkl : j < ls.length := by have := unhide HN; omega
          have hvk := (hv j hlt2)
          have hck := (hB.cell (p := ⟨b, off + j, none⟩) hb).trans (hc j hlt2)
          have hvr : Byt wr (vs.getD j undef) (ls.getD j []) := hvk.keep hB
          have hqm : sumLen (ls.take (j + 1)) = sumLen (ls.take j) + (ls.getD j []).length := by rw [sumLen_take ls j hkl]; simp [hkl]
          have hle := sumLen_le ls (j + 1)
          rw [hqm, ← flatten_len] at hle
          have hfl := flatten_take ls j hkl
          rw [show ls[j] = ls.getD j [] by simp [hkl]] at hfl
          have HF := hide hfl
          have hlt' : (j : Int) < (k : Int) := by omega
          generalize vs.getD j undef = u at *
          generalize ls.getD j [] = m at *
          generalize (ls.take j).flatten = L at *
          clear hqm hvk hc hv hfl
          go_wp2_with (at_builtin; refine wpList_app rfl _ _ rfl w.heap.size _ L rfl ho u m rfl hvr ?c1 ?c2 ?_)
          case c1 => omega
          case c2 => exact hB.size
          intro v2 w2 ho2 hg2
          have hB2 : Below w.heap.size w w2 := bstepBy hB hg2 ho.base_le
          go_wp2
          go_roundw
          case rel => exact ⟨j + 1, by omega, by go_num, by rw [unhide HF]; exact ho2, hB2⟩
          case measure => simp [intOf]; omega
        · have e : j = k := by omega
          subst e
          rw [List.take_of_length_le (by have := unhide HN; omega)] at ho
          clear hc hv
          go_wp2
          go_ret
          exact ⟨_, rfl, ho, hB⟩
end Go.Proofs.Ytjannojebngoeab
