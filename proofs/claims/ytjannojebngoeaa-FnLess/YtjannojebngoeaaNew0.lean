/- The cursor at its beginning. -/
import Derived.Test.YtjannojebngoeaaCur
namespace Go.Proofs.Ytjannojebngoeaa
open Go.RowKit
set_option linter.unusedVariables false

/-- What a new cursor is. -/
theorem Cur.made (w : World) (code : Value) (l : List Int) (x : Int) (h : Byt w code l) : Cur w (w.alloc (.cells #[code, .int .i64 0, .int .i64 x] 85)) w.heap.size code l :=
  ⟨h, (Below.refl _ _).alloc (Nat.le_refl _) _, Nat.le_refl _, 0, x, Nat.zero_le _, heap_alloc_new w _⟩

set_option maxHeartbeats 1600000 in
theorem l1New_any (w : World) (code : Value) (l : List Int) (h : Byt w code l) :
    Calls Try.prog 34 #[code] w fun e w' => e = .returned (.pointer (some ⟨w.heap.size, 0, none⟩)) ∧ Cur w w' w.heap.size code l ∧ Below w.heap.size w w' := by
  have hm := h.2.1
  unfold maxLen at hm
  by_cases h0 : l = []
  · obtain ⟨a, cap, rfl, _⟩ := h.shape
    subst h0
    go_enter Try.func34, Try.ntmps34
    go_wp2
    refine wp_loop_rounds 1 ?_
    rw [rounds_succ]
    go_wp2
    go_ret
    exact ⟨rfl, Cur.made _ _ _ _ h, (Below.refl _ _).alloc (Nat.le_refl _) _⟩
  · have h' := h
    obtain ⟨hok, _, ⟨rfl, rfl⟩ | ⟨x, cap, rfl, hc, rfl⟩ | ⟨b, off, cap, rfl, h1, h2, h3, h4, h5⟩⟩ := h'
    · exact absurd rfl h0
    · exact absurd rfl h0
    go_enter Try.func34, Try.ntmps34
    go_wp2
    go_loop [3, 4] (fun x i => ∃ (k : Nat) (y : Int), k ≤ l.length ∧ i = .int .i64 k ∧ x = .int .i64 y) (fun _ i => l.length - (intOf i).toNat)
    case atStart => exact ⟨0, _, Nat.zero_le _, rfl, rfl⟩
    case round =>
      obtain ⟨k, y, hk, rfl, rfl⟩ := hrel
      by_cases hlt : k < l.length
      · obtain ⟨c, hcc⟩ : ∃ c, c = l.getD k 0 := ⟨_, rfl⟩
        have hcx : w.cell? ⟨b, off + k, none⟩ = some (.int .u8 c) := by rw [hcc]; exact h5 k hlt
        have hcb : 0 ≤ c ∧ c ≤ 255 := by rw [hcc, List.getD_eq_getElem?_getD]; exact hok.at _
        have hlt' : (k : Int) < (l.length : Int) := by omega
        obtain ⟨hcb0, hcb1⟩ := hcb
        clear h5 hcc
        by_cases h4k : k < 4000
        · have h4k' : (k : Int) < 4000 := by omega
          go_wp2
          go_round
          case rel => exact ⟨k + 1, _, by omega, by go_num, rfl⟩
          case measure => simp [intOf]; omega
        · have h4k' : ¬ (k : Int) < 4000 := by omega
          go_wp2
          go_ret
          exact ⟨rfl, Cur.made _ _ _ _ h, (Below.refl _ _).alloc (Nat.le_refl _) _⟩
      · have hlt' : decide ((k : Int) < (l.length : Int)) = false := by simp; omega
        clear h5
        go_wp2
        go_ret
        exact ⟨rfl, Cur.made _ _ _ _ h, (Below.refl _ _).alloc (Nat.le_refl _) _⟩

/-- An owned row that was made behind the cursor keeps its bytes while the cursor goes on. -/
theorem Own.past {w w' : World} {base g : Nat} {v : Value} {l : List Int} (h : Own w base v l) (hg : w.grownBy w' (some g)) (hb : g < base) : Own w' base v l :=
  h.keepBy hg (.inr (fun e => by have := h.base_le g e; omega))

/-- A step that writes a block which was not there at the start adds nothing to what may have been written. -/
theorem grown_new {a b c : World} {row row' : Option Nat} (h : a.grownBy b row) (k : b.grownBy c row') (hr : ∀ q, row' = some q → a.heap.size ≤ q) : a.grownBy c row :=
  ⟨k.os.trans h.os, k.tape.trans h.tape, k.output.trans h.output, Nat.le_trans h.size k.size, fun i hi hne => (k.block i (Nat.lt_of_lt_of_le hi h.size) (fun e => by have := hr i e.symm; omega)).trans (h.block i hi hne)⟩
theorem grown_below {a b c : World} {row : Option Nat} (h : a.grownBy b row) (k : Below b.heap.size b c) : a.grownBy c row := grown_new h (Below.toGrown k none) (fun q hq => by cases hq)

end Go.Proofs.Ytjannojebngoeaa
