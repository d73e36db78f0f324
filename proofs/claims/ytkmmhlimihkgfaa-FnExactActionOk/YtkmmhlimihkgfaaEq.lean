/- The law's own helper that holds two rows of bytes against each other, by its contract. -/
import Derived.Test.YtkmmhlimihkgfaaChecked
import Derived.Test.YtkmmhlimihkgfaaBase
import Derived.Deep.QuietTactic
import Derived.BigQuiet
namespace Go.Proofs.Ytkmmhlimihkgfaa
open Go.RowKit
set_option linter.unusedVariables false

theorem take_eq_step {a b : List Int} {k : Nat} (h : a.take k = b.take k) (ha : k < a.length) (hb : k < b.length) (e : a[k] = b[k]) : a.take (k + 1) = b.take (k + 1) := by
  rw [List.take_succ_eq_append_getElem ha, List.take_succ_eq_append_getElem hb, h, e]
theorem decide_ne {a b : List Int} {k : Nat} (ha : k < a.length) (hb : k < b.length) (e : a[k] ≠ b[k]) : decide (a = b) = false := by
  simp only [decide_eq_false_iff_not]
  intro h; subst h; exact e rfl

set_option maxHeartbeats 1600000 in
set_option maxRecDepth 1000000 in
theorem eqB_any (w : World) (u v : Value) (a b : List Int) (hu : Byt w u a) (hv : Byt w v b) :
    Calls Try.prog 29 #[u, v] w fun e w' => e = .returned (.bool (decide (a = b))) ∧ Below w.heap.size w w' := by
  have hma := hu.2.1
  have hmb := hv.2.1
  unfold maxLen at hma hmb
  by_cases hl : a.length = b.length
  · by_cases h0 : a.length = 0
    · have ha : a = [] := List.eq_nil_of_length_eq_zero h0
      have hb : b = [] := List.eq_nil_of_length_eq_zero (by omega)
      subst ha hb
      obtain ⟨a1, c1, rfl, _⟩ := hu.shape
      obtain ⟨a2, c2, rfl, _⟩ := hv.shape
      go_enter Try.func29, Try.ntmps29
      go_wp2
      refine wp_loop_rounds 1 ?_
      rw [rounds_succ]
      go_wp2
      go_ret
      exact ⟨rfl, Below.refl _ _⟩
    · obtain ⟨hoka, _, ⟨rfl, rfl⟩ | ⟨x, cap, rfl, hc, rfl⟩ | ⟨p, off, cap, rfl, h1, h2, h3, h4, h5⟩⟩ := hu
      · simp at h0
      · simp at h0
      obtain ⟨hokb, _, ⟨rfl, rfl⟩ | ⟨x, cap, rfl, hc, rfl⟩ | ⟨q, off', cap', rfl, g1, g2, g3, g4, g5⟩⟩ := hv
      · simp at hl; simp [hl] at h0
      · simp at hl; simp [hl] at h0
      generalize hA : a.length = n at *
      have HL := hide hl
      clear hl
      rw [← unhide HL]
      go_enter Try.func29, Try.ntmps29
      go_wp2
      go_loopw [5] (fun i wr => ∃ k : Nat, k ≤ n ∧ i = .int .i64 k ∧ Hid (a.take k = b.take k) ∧ Below w.heap.size w wr) (fun i _ => n - (intOf i).toNat)
      case atStart => exact ⟨0, Nat.zero_le _, rfl, hide rfl, Below.refl _ _⟩
      case round =>
        obtain ⟨k, hk, rfl, ht, hB⟩ := hrel
        by_cases hlt : k < n
        · obtain ⟨x, hx⟩ : ∃ x, x = a.getD k 0 := ⟨_, rfl⟩
          obtain ⟨y, hy⟩ : ∃ y, y = b.getD k 0 := ⟨_, rfl⟩
          have c1 : wr.cell? ⟨p, off + k, none⟩ = some (.int .u8 x) := by rw [hx]; exact (hB.cell (p := ⟨p, off + k, none⟩) h4).trans (h5 k hlt)
          have c2 : wr.cell? ⟨q, off' + k, none⟩ = some (.int .u8 y) := by rw [hy]; exact (hB.cell (p := ⟨q, off' + k, none⟩) g4).trans (g5 k (by have := unhide HL; omega))
          have hka : k < a.length := by omega
          have hkb : k < b.length := by have := unhide HL; omega
          rw [getD_at hka] at hx
          rw [getD_at hkb] at hy
          have HX := hide hx
          have HY := hide hy
          have hlt' : (k : Int) < (n : Int) := by omega
          clear hx hy h5 g5
          by_cases hxy : x = y
          · have hne : (x != y) = false := by simp [hxy]
            clear hxy
            go_wp2
            go_quiet (fail)
            go_wp2
            go_roundw
            case rel => exact ⟨k + 1, by omega, by go_num, hide (take_eq_step (unhide ht) hka hkb (by rw [← unhide HX, ← unhide HY]; simpa using hne)), below_drewN hB _⟩
            case measure => simp [intOf]; omega
          · have hne : (x != y) = true := by simp [hxy]
            have hd : decide (a = b) = false := decide_ne hka hkb (by rw [← unhide HX, ← unhide HY]; exact hxy)
            have HD := hide hd
            clear hxy hd
            go_wp2
            go_quiet (fail)
            go_wp2
            go_ret
            exact ⟨by rw [unhide HD]; rfl, below_drewN hB _⟩
        · have e : k = n := by omega
          have hd : decide (a = b) = true := by
            have h := unhide ht
            rw [List.take_of_length_le (by omega), List.take_of_length_le (by have := unhide HL; omega)] at h
            simpa using h
          have HD := hide hd
          clear hd ht
          subst e
          go_wp2
          go_ret
          exact ⟨by rw [unhide HD]; rfl, hB⟩
  · have hd : decide (a = b) = false := by
      simp only [decide_eq_false_iff_not]
      intro h; subst h; exact hl rfl
    have hne : ((a.length : Int) != (b.length : Int)) = true := by simp; omega
    have HD := hide hd
    clear hd
    obtain ⟨a1, c1, rfl, _⟩ := hu.shape
    obtain ⟨a2, c2, rfl, _⟩ := hv.shape
    go_enter Try.func29, Try.ntmps29
    go_wp2
    go_ret
    exact ⟨by rw [unhide HD]; rfl, Below.refl _ _⟩
end Go.Proofs.Ytkmmhlimihkgfaa
