/- impl.KeyLess answers what the plain order says. -/
import Derived.Test.YtjannojebngoeaaChecked
import Derived.Test.YtjannojebngoeaaKlM
import Derived.Deep.QuietTactic
import Derived.BigQuiet
namespace Go.Proofs.Ytjannojebngoeaa
open Go.RowKit
set_option linter.unusedVariables false

set_option maxHeartbeats 1600000 in
set_option maxRecDepth 1000000 in
theorem rowLess_any (w : World) (u v : Value) (a b : List Int) (hu : Ints w u a) (hv : Ints w v b) :
    Calls Try.prog 62 #[u, v] w fun e w' => e = .returned (.bool (klB a b)) ∧ Below w.heap.size w w' := by
  have hma := hu.2.1
  have hmb := hv.2.1
  unfold maxLen at hma hmb
  by_cases h0 : a = [] ∨ b = []
  · have HE := hide (klB_end h0)
    have h0' : a.length = 0 ∨ b.length = 0 := by rcases h0 with rfl | rfl <;> simp
    obtain ⟨a1, c1, rfl, _⟩ := hu.shape
    obtain ⟨a2, c2, rfl, _⟩ := hv.shape
    clear hu hv h0
    generalize a.length = n at *
    generalize b.length = m at *
    rcases h0' with rfl | rfl <;> rcases a1 with _ | a1
    all_goals
      go_enter Try.func62, Try.ntmps62
      go_wp2
      all_goals
        refine wp_loop_rounds 1 ?_
        rw [rounds_succ]
        go_wp2
        go_ret
        exact ⟨by rw [unhide HE]; simp, Below.refl _ _⟩
  have ha0 : a ≠ [] := fun h => h0 (.inl h)
  have hb0 : b ≠ [] := fun h => h0 (.inr h)
  obtain ⟨hoka, _, ⟨rfl, rfl⟩ | ⟨x, cap, rfl, hc, rfl⟩ | ⟨p, off, cap, rfl, h1, h2, h3, h4, h5⟩⟩ := hu
  · exact absurd rfl ha0
  · exact absurd rfl ha0
  obtain ⟨hokb, _, ⟨rfl, rfl⟩ | ⟨x, cap, rfl, hc, rfl⟩ | ⟨q, off', cap', rfl, g1, g2, g3, g4, g5⟩⟩ := hv
  · exact absurd rfl hb0
  · exact absurd rfl hb0
  generalize hA : a.length = n at *
  generalize hC : b.length = m at *
  clear h0
  go_enter Try.func62, Try.ntmps62
  go_wp2
  all_goals
    go_loopw [15] (fun i wr => ∃ k : Nat, k ≤ n ∧ k ≤ m ∧ i = .int .i64 k ∧ Hid (klB a b = klB (a.drop k) (b.drop k)) ∧ Below w.heap.size w wr) (fun i _ => n - (intOf i).toNat)
    case atStart => exact ⟨0, Nat.zero_le _, Nat.zero_le _, rfl, hide rfl, Below.refl _ _⟩
    case round =>
      obtain ⟨k, hk, hk', rfl, ht, hB⟩ := hrel
      by_cases hlt : k < n ∧ k < m
      · obtain ⟨hka, hkb⟩ := hlt
        obtain ⟨x, hx⟩ : ∃ x, x = a.getD k 0 := ⟨_, rfl⟩
        obtain ⟨y, hy⟩ : ∃ y, y = b.getD k 0 := ⟨_, rfl⟩
        have c1 : wr.cell? ⟨p, off + k, none⟩ = some (.int .i64 x) := by rw [hx]; exact (hB.cell (p := ⟨p, off + k, none⟩) h4).trans (h5 k hka)
        have c2 : wr.cell? ⟨q, off' + k, none⟩ = some (.int .i64 y) := by rw [hy]; exact (hB.cell (p := ⟨q, off' + k, none⟩) g4).trans (g5 k hkb)
        have HX := hide hx
        have HY := hide hy
        have hlt' : (k : Int) < (n : Int) := by omega
        have hlt2 : (k : Int) < (m : Int) := by omega
        clear hx hy h5 g5
        by_cases hxy : x = y
        · have HT := hide ((unhide ht).trans (klB_same (by omega) (by omega) (by rw [← unhide HX, ← unhide HY]; exact hxy)))
          have hne : (x != y) = false := by simp [hxy]
          clear hxy
          go_wp2
          go_roundw
          case rel => exact ⟨k + 1, by omega, by omega, by go_num, HT, hB⟩
          case measure => simp [intOf]; omega
        · have HD := hide ((unhide ht).trans (klB_diff (by omega) (by omega) (by rw [← unhide HX, ← unhide HY]; exact hxy)))
          rw [← unhide HX, ← unhide HY] at HD
          have hne : (x != y) = true := by simp [hxy]
          clear hxy ht
          go_wp2
          go_ret
          exact ⟨by rw [unhide HD]; rfl, hB⟩
      · have HD := hide ((unhide ht).trans (klB_over (by omega) (by omega) (by omega)))
        rw [hA, hC] at HD
        clear h5 g5 ht
        rcases (show k = n ∨ (k < n ∧ k = m) by omega) with rfl | ⟨hlt', rfl⟩ <;> first | (exfalso; omega) | skip
        all_goals
          go_wp2
          go_ret
          exact ⟨by rw [unhide HD]; simp, hB⟩

set_option maxHeartbeats 1600000 in
set_option maxRecDepth 1000000 in
theorem klI_any (w : World) (u v : Value) (a b : List Int) (hu : Ints w u a) (hv : Ints w v b) :
    Calls Try.prog 20 #[u, v] w fun e w' => e = .returned (.bool (klB a b)) ∧ Below w.heap.size w w' := by
  have HL := hide (rowLess_any w u v a b hu hv)
  obtain ⟨a1, c1, rfl, _⟩ := hu.shape
  obtain ⟨a2, c2, rfl, _⟩ := hv.shape
  clear hu hv
  go_enter Try.func20, Try.ntmps20
  go_wp2_with fail
  trace_state
  refine (unhide HL).mono ?_
  rintro e w1 ⟨rfl, hB1⟩
  go_wp2
  go_ret
  exact ⟨rfl, hB1⟩
end Go.Proofs.Ytjannojebngoeaa
