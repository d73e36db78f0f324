/- Own texts joined: EvL, EvR, EvG, EvH, EvI, EvW. -/
import Derived.Test.YtpijenlmfmknnaaGreatDoorJa
import Derived.Test.YtpijenlmfmknnaaGreatDoorJb
import Derived.Below
import Derived.Laws.Cells

/- The laws of the store of pairs and of the forcing words. No program. -/
namespace Go.Proofs.YtpijenlmfmknnaaGreatDoor
set_option linter.unusedVariables false

theorem bit_land (k i : Nat) : Nat.beq (Nat.land k (2 ^ i)) 0 = !k.testBit i := by
  have h : ∀ j, (Nat.land k (2 ^ i)).testBit j = (k.testBit j && decide (i = j)) := fun j => by
    show (k &&& 2 ^ i).testBit j = _
    rw [Nat.testBit_and, Nat.testBit_two_pow]
  cases hb : k.testBit i with
  | false =>
    have h0 : Nat.land k (2 ^ i) = 0 := by
      apply Nat.eq_of_testBit_eq
      intro j
      rw [h j, Nat.zero_testBit]
      by_cases e : i = j
      · subst e; rw [hb]; rfl
      · simp [e]
    rw [h0]; rfl
  | true =>
    have hi := h i
    rw [hb] at hi
    cases hz : Nat.beq (Nat.land k (2 ^ i)) 0 with
    | false => rfl
    | true =>
      rw [Nat.eq_of_beq_eq_true hz] at hi
      simp at hi
theorem mod_bits (k j m : Nat) : (k % 2 ^ m = j % 2 ^ m) ↔ ∀ b, b < m → k.testBit b = j.testBit b := by
  constructor
  · intro h b hb
    have := congrArg (fun x => Nat.testBit x b) h
    simpa [Nat.testBit_mod_two_pow, hb] using this
  · intro h
    apply Nat.eq_of_testBit_eq
    intro b
    rw [Nat.testBit_mod_two_pow, Nat.testBit_mod_two_pow]
    by_cases hb : b < m
    · rw [h b hb]
    · simp [hb]
theorem mod_bit (k j i : Nat) : (k % 2 ^ (i + 1) = j % 2 ^ (i + 1)) ↔ (k % 2 ^ i = j % 2 ^ i ∧ k.testBit i = j.testBit i) := by
  rw [mod_bits, mod_bits]
  constructor
  · exact fun h => ⟨fun b hb => h b (by omega), h i (by omega)⟩
  · intro h b hb
    by_cases e : b = i
    · subst e; exact h.2
    · exact h.1 b (by omega)
theorem bit_land' (k i n : Nat) (hn : n = 2 ^ i) : Nat.beq (Nat.land k n) 0 = !k.testBit i := by subst hn; exact bit_land k i

theorem tset0_eq.{u} {α : Type} {β : Sort u} (t : T0 α) (k : Nat) (v : α) (K : T0 α → β) : tset0 t k v K = K (tset0 t k v id) := rfl
theorem tget0_set {α : Type} (t : T0 α) (k j : Nat) (v : α) : tget0 (tset0 t k v id) j = if k % 2 ^ 0 = j % 2 ^ 0 then v else tget0 t j := by
  rw [if_pos (by simp [Nat.mod_one])]; rfl
theorem tget0_mk {α : Type} (x : α) (j : Nat) : tget0 (tmk0 x) j = x := rfl
theorem tset1_eq.{u} {α : Type} {β : Sort u} (t : T1 α) (k : Nat) (v : α) (K : T1 α → β) : tset1 t k v K = K (tset1 t k v id) := by
  obtain ⟨a, b⟩ := t
  unfold tset1
  cases Nat.beq (Nat.land k 1) 0
  · exact (tset0_eq b k v _).trans (congrArg K (tset0_eq b k v (fun x => (⟨a, x⟩ : T1 α))).symm)
  · exact (tset0_eq a k v _).trans (congrArg K (tset0_eq a k v (fun x => (⟨x, b⟩ : T1 α))).symm)
theorem tget1_set {α : Type} (t : T1 α) (k j : Nat) (v : α) : tget1 (tset1 t k v id) j = if k % 2 ^ 1 = j % 2 ^ 1 then v else tget1 t j := by
  obtain ⟨a, b⟩ := t
  have hm := mod_bit k j 0
  have hk := bit_land' k 0 1 rfl
  have hj := bit_land' j 0 1 rfl
  have h1 : tset1 ⟨a, b⟩ k v id = if k.testBit 0 then (⟨a, tset0 b k v id⟩ : T1 α) else ⟨tset0 a k v id, b⟩ := by
    unfold tset1
    simp only [hk]
    cases k.testBit 0
    · exact tset0_eq a k v _
    · exact tset0_eq b k v _
  have h2 : ∀ t : T1 α, tget1 t j = if j.testBit 0 then tget0 t.b j else tget0 t.a j := by
    intro t
    unfold tget1
    simp only [hj]
    cases j.testBit 0 <;> rfl
  rw [h1, h2, h2]
  have ga := tget0_set a k j v
  have gb := tget0_set b k j v
  by_cases hc : k % 2 ^ 0 = j % 2 ^ 0
  · rw [if_pos hc] at ga gb
    cases e1 : k.testBit 0 <;> cases e2 : j.testBit 0 <;> rw [e1, e2] at hm
    · rw [if_pos (show k % 2 ^ 1 = j % 2 ^ 1 from hm.2 ⟨hc, rfl⟩)]; exact ga
    · rw [if_neg (show ¬ (k % 2 ^ 1 = j % 2 ^ 1) from fun h => by cases (hm.1 h).2)]; rfl
    · rw [if_neg (show ¬ (k % 2 ^ 1 = j % 2 ^ 1) from fun h => by cases (hm.1 h).2)]; rfl
    · rw [if_pos (show k % 2 ^ 1 = j % 2 ^ 1 from hm.2 ⟨hc, rfl⟩)]; exact gb
  · rw [if_neg hc] at ga gb
    rw [if_neg (show ¬ (k % 2 ^ 1 = j % 2 ^ 1) from fun h => hc (hm.1 h).1)]
    cases k.testBit 0 <;> cases j.testBit 0
    · exact ga
    · rfl
    · rfl
    · exact gb
theorem tget1_mk {α : Type} (x : α) (j : Nat) : tget1 (tmk1 x) j = x := by
  simp only [tget1, tmk1]
  split <;> exact tget0_mk x j
theorem tset2_eq.{u} {α : Type} {β : Sort u} (t : T2 α) (k : Nat) (v : α) (K : T2 α → β) : tset2 t k v K = K (tset2 t k v id) := by
  obtain ⟨a, b⟩ := t
  unfold tset2
  cases Nat.beq (Nat.land k 2) 0
  · exact (tset1_eq b k v _).trans (congrArg K (tset1_eq b k v (fun x => (⟨a, x⟩ : T2 α))).symm)
  · exact (tset1_eq a k v _).trans (congrArg K (tset1_eq a k v (fun x => (⟨x, b⟩ : T2 α))).symm)
theorem tget2_set {α : Type} (t : T2 α) (k j : Nat) (v : α) : tget2 (tset2 t k v id) j = if k % 2 ^ 2 = j % 2 ^ 2 then v else tget2 t j := by
  obtain ⟨a, b⟩ := t
  have hm := mod_bit k j 1
  have hk := bit_land' k 1 2 rfl
  have hj := bit_land' j 1 2 rfl
  have h1 : tset2 ⟨a, b⟩ k v id = if k.testBit 1 then (⟨a, tset1 b k v id⟩ : T2 α) else ⟨tset1 a k v id, b⟩ := by
    unfold tset2
    simp only [hk]
    cases k.testBit 1
    · exact tset1_eq a k v _
    · exact tset1_eq b k v _
  have h2 : ∀ t : T2 α, tget2 t j = if j.testBit 1 then tget1 t.b j else tget1 t.a j := by
    intro t
    unfold tget2
    simp only [hj]
    cases j.testBit 1 <;> rfl
  rw [h1, h2, h2]
  have ga := tget1_set a k j v
  have gb := tget1_set b k j v
  by_cases hc : k % 2 ^ 1 = j % 2 ^ 1
  · rw [if_pos hc] at ga gb
    cases e1 : k.testBit 1 <;> cases e2 : j.testBit 1 <;> rw [e1, e2] at hm
    · rw [if_pos (show k % 2 ^ 2 = j % 2 ^ 2 from hm.2 ⟨hc, rfl⟩)]; exact ga
    · rw [if_neg (show ¬ (k % 2 ^ 2 = j % 2 ^ 2) from fun h => by cases (hm.1 h).2)]; rfl
    · rw [if_neg (show ¬ (k % 2 ^ 2 = j % 2 ^ 2) from fun h => by cases (hm.1 h).2)]; rfl
    · rw [if_pos (show k % 2 ^ 2 = j % 2 ^ 2 from hm.2 ⟨hc, rfl⟩)]; exact gb
  · rw [if_neg hc] at ga gb
    rw [if_neg (show ¬ (k % 2 ^ 2 = j % 2 ^ 2) from fun h => hc (hm.1 h).1)]
    cases k.testBit 1 <;> cases j.testBit 1
    · exact ga
    · rfl
    · rfl
    · exact gb
theorem tget2_mk {α : Type} (x : α) (j : Nat) : tget2 (tmk2 x) j = x := by
  simp only [tget2, tmk2]
  split <;> exact tget1_mk x j
theorem tset3_eq.{u} {α : Type} {β : Sort u} (t : T3 α) (k : Nat) (v : α) (K : T3 α → β) : tset3 t k v K = K (tset3 t k v id) := by
  obtain ⟨a, b⟩ := t
  unfold tset3
  cases Nat.beq (Nat.land k 4) 0
  · exact (tset2_eq b k v _).trans (congrArg K (tset2_eq b k v (fun x => (⟨a, x⟩ : T3 α))).symm)
  · exact (tset2_eq a k v _).trans (congrArg K (tset2_eq a k v (fun x => (⟨x, b⟩ : T3 α))).symm)
theorem tget3_set {α : Type} (t : T3 α) (k j : Nat) (v : α) : tget3 (tset3 t k v id) j = if k % 2 ^ 3 = j % 2 ^ 3 then v else tget3 t j := by
  obtain ⟨a, b⟩ := t
  have hm := mod_bit k j 2
  have hk := bit_land' k 2 4 rfl
  have hj := bit_land' j 2 4 rfl
  have h1 : tset3 ⟨a, b⟩ k v id = if k.testBit 2 then (⟨a, tset2 b k v id⟩ : T3 α) else ⟨tset2 a k v id, b⟩ := by
    unfold tset3
    simp only [hk]
    cases k.testBit 2
    · exact tset2_eq a k v _
    · exact tset2_eq b k v _
  have h2 : ∀ t : T3 α, tget3 t j = if j.testBit 2 then tget2 t.b j else tget2 t.a j := by
    intro t
    unfold tget3
    simp only [hj]
    cases j.testBit 2 <;> rfl
  rw [h1, h2, h2]
  have ga := tget2_set a k j v
  have gb := tget2_set b k j v
  by_cases hc : k % 2 ^ 2 = j % 2 ^ 2
  · rw [if_pos hc] at ga gb
    cases e1 : k.testBit 2 <;> cases e2 : j.testBit 2 <;> rw [e1, e2] at hm
    · rw [if_pos (show k % 2 ^ 3 = j % 2 ^ 3 from hm.2 ⟨hc, rfl⟩)]; exact ga
    · rw [if_neg (show ¬ (k % 2 ^ 3 = j % 2 ^ 3) from fun h => by cases (hm.1 h).2)]; rfl
    · rw [if_neg (show ¬ (k % 2 ^ 3 = j % 2 ^ 3) from fun h => by cases (hm.1 h).2)]; rfl
    · rw [if_pos (show k % 2 ^ 3 = j % 2 ^ 3 from hm.2 ⟨hc, rfl⟩)]; exact gb
  · rw [if_neg hc] at ga gb
    rw [if_neg (show ¬ (k % 2 ^ 3 = j % 2 ^ 3) from fun h => hc (hm.1 h).1)]
    cases k.testBit 2 <;> cases j.testBit 2
    · exact ga
    · rfl
    · rfl
    · exact gb
theorem tget3_mk {α : Type} (x : α) (j : Nat) : tget3 (tmk3 x) j = x := by
  simp only [tget3, tmk3]
  split <;> exact tget2_mk x j
theorem tset4_eq.{u} {α : Type} {β : Sort u} (t : T4 α) (k : Nat) (v : α) (K : T4 α → β) : tset4 t k v K = K (tset4 t k v id) := by
  obtain ⟨a, b⟩ := t
  unfold tset4
  cases Nat.beq (Nat.land k 8) 0
  · exact (tset3_eq b k v _).trans (congrArg K (tset3_eq b k v (fun x => (⟨a, x⟩ : T4 α))).symm)
  · exact (tset3_eq a k v _).trans (congrArg K (tset3_eq a k v (fun x => (⟨x, b⟩ : T4 α))).symm)
theorem tget4_set {α : Type} (t : T4 α) (k j : Nat) (v : α) : tget4 (tset4 t k v id) j = if k % 2 ^ 4 = j % 2 ^ 4 then v else tget4 t j := by
  obtain ⟨a, b⟩ := t
  have hm := mod_bit k j 3
  have hk := bit_land' k 3 8 rfl
  have hj := bit_land' j 3 8 rfl
  have h1 : tset4 ⟨a, b⟩ k v id = if k.testBit 3 then (⟨a, tset3 b k v id⟩ : T4 α) else ⟨tset3 a k v id, b⟩ := by
    unfold tset4
    simp only [hk]
    cases k.testBit 3
    · exact tset3_eq a k v _
    · exact tset3_eq b k v _
  have h2 : ∀ t : T4 α, tget4 t j = if j.testBit 3 then tget3 t.b j else tget3 t.a j := by
    intro t
    unfold tget4
    simp only [hj]
    cases j.testBit 3 <;> rfl
  rw [h1, h2, h2]
  have ga := tget3_set a k j v
  have gb := tget3_set b k j v
  by_cases hc : k % 2 ^ 3 = j % 2 ^ 3
  · rw [if_pos hc] at ga gb
    cases e1 : k.testBit 3 <;> cases e2 : j.testBit 3 <;> rw [e1, e2] at hm
    · rw [if_pos (show k % 2 ^ 4 = j % 2 ^ 4 from hm.2 ⟨hc, rfl⟩)]; exact ga
    · rw [if_neg (show ¬ (k % 2 ^ 4 = j % 2 ^ 4) from fun h => by cases (hm.1 h).2)]; rfl
    · rw [if_neg (show ¬ (k % 2 ^ 4 = j % 2 ^ 4) from fun h => by cases (hm.1 h).2)]; rfl
    · rw [if_pos (show k % 2 ^ 4 = j % 2 ^ 4 from hm.2 ⟨hc, rfl⟩)]; exact gb
  · rw [if_neg hc] at ga gb
    rw [if_neg (show ¬ (k % 2 ^ 4 = j % 2 ^ 4) from fun h => hc (hm.1 h).1)]
    cases k.testBit 3 <;> cases j.testBit 3
    · exact ga
    · rfl
    · rfl
    · exact gb
theorem tget4_mk {α : Type} (x : α) (j : Nat) : tget4 (tmk4 x) j = x := by
  simp only [tget4, tmk4]
  split <;> exact tget3_mk x j
theorem tset5_eq.{u} {α : Type} {β : Sort u} (t : T5 α) (k : Nat) (v : α) (K : T5 α → β) : tset5 t k v K = K (tset5 t k v id) := by
  obtain ⟨a, b⟩ := t
  unfold tset5
  cases Nat.beq (Nat.land k 16) 0
  · exact (tset4_eq b k v _).trans (congrArg K (tset4_eq b k v (fun x => (⟨a, x⟩ : T5 α))).symm)
  · exact (tset4_eq a k v _).trans (congrArg K (tset4_eq a k v (fun x => (⟨x, b⟩ : T5 α))).symm)
theorem tget5_set {α : Type} (t : T5 α) (k j : Nat) (v : α) : tget5 (tset5 t k v id) j = if k % 2 ^ 5 = j % 2 ^ 5 then v else tget5 t j := by
  obtain ⟨a, b⟩ := t
  have hm := mod_bit k j 4
  have hk := bit_land' k 4 16 rfl
  have hj := bit_land' j 4 16 rfl
  have h1 : tset5 ⟨a, b⟩ k v id = if k.testBit 4 then (⟨a, tset4 b k v id⟩ : T5 α) else ⟨tset4 a k v id, b⟩ := by
    unfold tset5
    simp only [hk]
    cases k.testBit 4
    · exact tset4_eq a k v _
    · exact tset4_eq b k v _
  have h2 : ∀ t : T5 α, tget5 t j = if j.testBit 4 then tget4 t.b j else tget4 t.a j := by
    intro t
    unfold tget5
    simp only [hj]
    cases j.testBit 4 <;> rfl
  rw [h1, h2, h2]
  have ga := tget4_set a k j v
  have gb := tget4_set b k j v
  by_cases hc : k % 2 ^ 4 = j % 2 ^ 4
  · rw [if_pos hc] at ga gb
    cases e1 : k.testBit 4 <;> cases e2 : j.testBit 4 <;> rw [e1, e2] at hm
    · rw [if_pos (show k % 2 ^ 5 = j % 2 ^ 5 from hm.2 ⟨hc, rfl⟩)]; exact ga
    · rw [if_neg (show ¬ (k % 2 ^ 5 = j % 2 ^ 5) from fun h => by cases (hm.1 h).2)]; rfl
    · rw [if_neg (show ¬ (k % 2 ^ 5 = j % 2 ^ 5) from fun h => by cases (hm.1 h).2)]; rfl
    · rw [if_pos (show k % 2 ^ 5 = j % 2 ^ 5 from hm.2 ⟨hc, rfl⟩)]; exact gb
  · rw [if_neg hc] at ga gb
    rw [if_neg (show ¬ (k % 2 ^ 5 = j % 2 ^ 5) from fun h => hc (hm.1 h).1)]
    cases k.testBit 4 <;> cases j.testBit 4
    · exact ga
    · rfl
    · rfl
    · exact gb
theorem tget5_mk {α : Type} (x : α) (j : Nat) : tget5 (tmk5 x) j = x := by
  simp only [tget5, tmk5]
  split <;> exact tget4_mk x j
theorem tset6_eq.{u} {α : Type} {β : Sort u} (t : T6 α) (k : Nat) (v : α) (K : T6 α → β) : tset6 t k v K = K (tset6 t k v id) := by
  obtain ⟨a, b⟩ := t
  unfold tset6
  cases Nat.beq (Nat.land k 32) 0
  · exact (tset5_eq b k v _).trans (congrArg K (tset5_eq b k v (fun x => (⟨a, x⟩ : T6 α))).symm)
  · exact (tset5_eq a k v _).trans (congrArg K (tset5_eq a k v (fun x => (⟨x, b⟩ : T6 α))).symm)
theorem tget6_set {α : Type} (t : T6 α) (k j : Nat) (v : α) : tget6 (tset6 t k v id) j = if k % 2 ^ 6 = j % 2 ^ 6 then v else tget6 t j := by
  obtain ⟨a, b⟩ := t
  have hm := mod_bit k j 5
  have hk := bit_land' k 5 32 rfl
  have hj := bit_land' j 5 32 rfl
  have h1 : tset6 ⟨a, b⟩ k v id = if k.testBit 5 then (⟨a, tset5 b k v id⟩ : T6 α) else ⟨tset5 a k v id, b⟩ := by
    unfold tset6
    simp only [hk]
    cases k.testBit 5
    · exact tset5_eq a k v _
    · exact tset5_eq b k v _
  have h2 : ∀ t : T6 α, tget6 t j = if j.testBit 5 then tget5 t.b j else tget5 t.a j := by
    intro t
    unfold tget6
    simp only [hj]
    cases j.testBit 5 <;> rfl
  rw [h1, h2, h2]
  have ga := tget5_set a k j v
  have gb := tget5_set b k j v
  by_cases hc : k % 2 ^ 5 = j % 2 ^ 5
  · rw [if_pos hc] at ga gb
    cases e1 : k.testBit 5 <;> cases e2 : j.testBit 5 <;> rw [e1, e2] at hm
    · rw [if_pos (show k % 2 ^ 6 = j % 2 ^ 6 from hm.2 ⟨hc, rfl⟩)]; exact ga
    · rw [if_neg (show ¬ (k % 2 ^ 6 = j % 2 ^ 6) from fun h => by cases (hm.1 h).2)]; rfl
    · rw [if_neg (show ¬ (k % 2 ^ 6 = j % 2 ^ 6) from fun h => by cases (hm.1 h).2)]; rfl
    · rw [if_pos (show k % 2 ^ 6 = j % 2 ^ 6 from hm.2 ⟨hc, rfl⟩)]; exact gb
  · rw [if_neg hc] at ga gb
    rw [if_neg (show ¬ (k % 2 ^ 6 = j % 2 ^ 6) from fun h => hc (hm.1 h).1)]
    cases k.testBit 5 <;> cases j.testBit 5
    · exact ga
    · rfl
    · rfl
    · exact gb
theorem tget6_mk {α : Type} (x : α) (j : Nat) : tget6 (tmk6 x) j = x := by
  simp only [tget6, tmk6]
  split <;> exact tget5_mk x j
theorem tset7_eq.{u} {α : Type} {β : Sort u} (t : T7 α) (k : Nat) (v : α) (K : T7 α → β) : tset7 t k v K = K (tset7 t k v id) := by
  obtain ⟨a, b⟩ := t
  unfold tset7
  cases Nat.beq (Nat.land k 64) 0
  · exact (tset6_eq b k v _).trans (congrArg K (tset6_eq b k v (fun x => (⟨a, x⟩ : T7 α))).symm)
  · exact (tset6_eq a k v _).trans (congrArg K (tset6_eq a k v (fun x => (⟨x, b⟩ : T7 α))).symm)
theorem tget7_set {α : Type} (t : T7 α) (k j : Nat) (v : α) : tget7 (tset7 t k v id) j = if k % 2 ^ 7 = j % 2 ^ 7 then v else tget7 t j := by
  obtain ⟨a, b⟩ := t
  have hm := mod_bit k j 6
  have hk := bit_land' k 6 64 rfl
  have hj := bit_land' j 6 64 rfl
  have h1 : tset7 ⟨a, b⟩ k v id = if k.testBit 6 then (⟨a, tset6 b k v id⟩ : T7 α) else ⟨tset6 a k v id, b⟩ := by
    unfold tset7
    simp only [hk]
    cases k.testBit 6
    · exact tset6_eq a k v _
    · exact tset6_eq b k v _
  have h2 : ∀ t : T7 α, tget7 t j = if j.testBit 6 then tget6 t.b j else tget6 t.a j := by
    intro t
    unfold tget7
    simp only [hj]
    cases j.testBit 6 <;> rfl
  rw [h1, h2, h2]
  have ga := tget6_set a k j v
  have gb := tget6_set b k j v
  by_cases hc : k % 2 ^ 6 = j % 2 ^ 6
  · rw [if_pos hc] at ga gb
    cases e1 : k.testBit 6 <;> cases e2 : j.testBit 6 <;> rw [e1, e2] at hm
    · rw [if_pos (show k % 2 ^ 7 = j % 2 ^ 7 from hm.2 ⟨hc, rfl⟩)]; exact ga
    · rw [if_neg (show ¬ (k % 2 ^ 7 = j % 2 ^ 7) from fun h => by cases (hm.1 h).2)]; rfl
    · rw [if_neg (show ¬ (k % 2 ^ 7 = j % 2 ^ 7) from fun h => by cases (hm.1 h).2)]; rfl
    · rw [if_pos (show k % 2 ^ 7 = j % 2 ^ 7 from hm.2 ⟨hc, rfl⟩)]; exact gb
  · rw [if_neg hc] at ga gb
    rw [if_neg (show ¬ (k % 2 ^ 7 = j % 2 ^ 7) from fun h => hc (hm.1 h).1)]
    cases k.testBit 6 <;> cases j.testBit 6
    · exact ga
    · rfl
    · rfl
    · exact gb
theorem tget7_mk {α : Type} (x : α) (j : Nat) : tget7 (tmk7 x) j = x := by
  simp only [tget7, tmk7]
  split <;> exact tget6_mk x j
theorem tset8_eq.{u} {α : Type} {β : Sort u} (t : T8 α) (k : Nat) (v : α) (K : T8 α → β) : tset8 t k v K = K (tset8 t k v id) := by
  obtain ⟨a, b⟩ := t
  unfold tset8
  cases Nat.beq (Nat.land k 128) 0
  · exact (tset7_eq b k v _).trans (congrArg K (tset7_eq b k v (fun x => (⟨a, x⟩ : T8 α))).symm)
  · exact (tset7_eq a k v _).trans (congrArg K (tset7_eq a k v (fun x => (⟨x, b⟩ : T8 α))).symm)
theorem tget8_set {α : Type} (t : T8 α) (k j : Nat) (v : α) : tget8 (tset8 t k v id) j = if k % 2 ^ 8 = j % 2 ^ 8 then v else tget8 t j := by
  obtain ⟨a, b⟩ := t
  have hm := mod_bit k j 7
  have hk := bit_land' k 7 128 rfl
  have hj := bit_land' j 7 128 rfl
  have h1 : tset8 ⟨a, b⟩ k v id = if k.testBit 7 then (⟨a, tset7 b k v id⟩ : T8 α) else ⟨tset7 a k v id, b⟩ := by
    unfold tset8
    simp only [hk]
    cases k.testBit 7
    · exact tset7_eq a k v _
    · exact tset7_eq b k v _
  have h2 : ∀ t : T8 α, tget8 t j = if j.testBit 7 then tget7 t.b j else tget7 t.a j := by
    intro t
    unfold tget8
    simp only [hj]
    cases j.testBit 7 <;> rfl
  rw [h1, h2, h2]
  have ga := tget7_set a k j v
  have gb := tget7_set b k j v
  by_cases hc : k % 2 ^ 7 = j % 2 ^ 7
  · rw [if_pos hc] at ga gb
    cases e1 : k.testBit 7 <;> cases e2 : j.testBit 7 <;> rw [e1, e2] at hm
    · rw [if_pos (show k % 2 ^ 8 = j % 2 ^ 8 from hm.2 ⟨hc, rfl⟩)]; exact ga
    · rw [if_neg (show ¬ (k % 2 ^ 8 = j % 2 ^ 8) from fun h => by cases (hm.1 h).2)]; rfl
    · rw [if_neg (show ¬ (k % 2 ^ 8 = j % 2 ^ 8) from fun h => by cases (hm.1 h).2)]; rfl
    · rw [if_pos (show k % 2 ^ 8 = j % 2 ^ 8 from hm.2 ⟨hc, rfl⟩)]; exact gb
  · rw [if_neg hc] at ga gb
    rw [if_neg (show ¬ (k % 2 ^ 8 = j % 2 ^ 8) from fun h => hc (hm.1 h).1)]
    cases k.testBit 7 <;> cases j.testBit 7
    · exact ga
    · rfl
    · rfl
    · exact gb
theorem tget8_mk {α : Type} (x : α) (j : Nat) : tget8 (tmk8 x) j = x := by
  simp only [tget8, tmk8]
  split <;> exact tget7_mk x j
theorem tset9_eq.{u} {α : Type} {β : Sort u} (t : T9 α) (k : Nat) (v : α) (K : T9 α → β) : tset9 t k v K = K (tset9 t k v id) := by
  obtain ⟨a, b⟩ := t
  unfold tset9
  cases Nat.beq (Nat.land k 256) 0
  · exact (tset8_eq b k v _).trans (congrArg K (tset8_eq b k v (fun x => (⟨a, x⟩ : T9 α))).symm)
  · exact (tset8_eq a k v _).trans (congrArg K (tset8_eq a k v (fun x => (⟨x, b⟩ : T9 α))).symm)
theorem tget9_set {α : Type} (t : T9 α) (k j : Nat) (v : α) : tget9 (tset9 t k v id) j = if k % 2 ^ 9 = j % 2 ^ 9 then v else tget9 t j := by
  obtain ⟨a, b⟩ := t
  have hm := mod_bit k j 8
  have hk := bit_land' k 8 256 rfl
  have hj := bit_land' j 8 256 rfl
  have h1 : tset9 ⟨a, b⟩ k v id = if k.testBit 8 then (⟨a, tset8 b k v id⟩ : T9 α) else ⟨tset8 a k v id, b⟩ := by
    unfold tset9
    simp only [hk]
    cases k.testBit 8
    · exact tset8_eq a k v _
    · exact tset8_eq b k v _
  have h2 : ∀ t : T9 α, tget9 t j = if j.testBit 8 then tget8 t.b j else tget8 t.a j := by
    intro t
    unfold tget9
    simp only [hj]
    cases j.testBit 8 <;> rfl
  rw [h1, h2, h2]
  have ga := tget8_set a k j v
  have gb := tget8_set b k j v
  by_cases hc : k % 2 ^ 8 = j % 2 ^ 8
  · rw [if_pos hc] at ga gb
    cases e1 : k.testBit 8 <;> cases e2 : j.testBit 8 <;> rw [e1, e2] at hm
    · rw [if_pos (show k % 2 ^ 9 = j % 2 ^ 9 from hm.2 ⟨hc, rfl⟩)]; exact ga
    · rw [if_neg (show ¬ (k % 2 ^ 9 = j % 2 ^ 9) from fun h => by cases (hm.1 h).2)]; rfl
    · rw [if_neg (show ¬ (k % 2 ^ 9 = j % 2 ^ 9) from fun h => by cases (hm.1 h).2)]; rfl
    · rw [if_pos (show k % 2 ^ 9 = j % 2 ^ 9 from hm.2 ⟨hc, rfl⟩)]; exact gb
  · rw [if_neg hc] at ga gb
    rw [if_neg (show ¬ (k % 2 ^ 9 = j % 2 ^ 9) from fun h => hc (hm.1 h).1)]
    cases k.testBit 8 <;> cases j.testBit 8
    · exact ga
    · rfl
    · rfl
    · exact gb
theorem tget9_mk {α : Type} (x : α) (j : Nat) : tget9 (tmk9 x) j = x := by
  simp only [tget9, tmk9]
  split <;> exact tget8_mk x j
theorem tset10_eq.{u} {α : Type} {β : Sort u} (t : T10 α) (k : Nat) (v : α) (K : T10 α → β) : tset10 t k v K = K (tset10 t k v id) := by
  obtain ⟨a, b⟩ := t
  unfold tset10
  cases Nat.beq (Nat.land k 512) 0
  · exact (tset9_eq b k v _).trans (congrArg K (tset9_eq b k v (fun x => (⟨a, x⟩ : T10 α))).symm)
  · exact (tset9_eq a k v _).trans (congrArg K (tset9_eq a k v (fun x => (⟨x, b⟩ : T10 α))).symm)
theorem tget10_set {α : Type} (t : T10 α) (k j : Nat) (v : α) : tget10 (tset10 t k v id) j = if k % 2 ^ 10 = j % 2 ^ 10 then v else tget10 t j := by
  obtain ⟨a, b⟩ := t
  have hm := mod_bit k j 9
  have hk := bit_land' k 9 512 rfl
  have hj := bit_land' j 9 512 rfl
  have h1 : tset10 ⟨a, b⟩ k v id = if k.testBit 9 then (⟨a, tset9 b k v id⟩ : T10 α) else ⟨tset9 a k v id, b⟩ := by
    unfold tset10
    simp only [hk]
    cases k.testBit 9
    · exact tset9_eq a k v _
    · exact tset9_eq b k v _
  have h2 : ∀ t : T10 α, tget10 t j = if j.testBit 9 then tget9 t.b j else tget9 t.a j := by
    intro t
    unfold tget10
    simp only [hj]
    cases j.testBit 9 <;> rfl
  rw [h1, h2, h2]
  have ga := tget9_set a k j v
  have gb := tget9_set b k j v
  by_cases hc : k % 2 ^ 9 = j % 2 ^ 9
  · rw [if_pos hc] at ga gb
    cases e1 : k.testBit 9 <;> cases e2 : j.testBit 9 <;> rw [e1, e2] at hm
    · rw [if_pos (show k % 2 ^ 10 = j % 2 ^ 10 from hm.2 ⟨hc, rfl⟩)]; exact ga
    · rw [if_neg (show ¬ (k % 2 ^ 10 = j % 2 ^ 10) from fun h => by cases (hm.1 h).2)]; rfl
    · rw [if_neg (show ¬ (k % 2 ^ 10 = j % 2 ^ 10) from fun h => by cases (hm.1 h).2)]; rfl
    · rw [if_pos (show k % 2 ^ 10 = j % 2 ^ 10 from hm.2 ⟨hc, rfl⟩)]; exact gb
  · rw [if_neg hc] at ga gb
    rw [if_neg (show ¬ (k % 2 ^ 10 = j % 2 ^ 10) from fun h => hc (hm.1 h).1)]
    cases k.testBit 9 <;> cases j.testBit 9
    · exact ga
    · rfl
    · rfl
    · exact gb
theorem tget10_mk {α : Type} (x : α) (j : Nat) : tget10 (tmk10 x) j = x := by
  simp only [tget10, tmk10]
  split <;> exact tget9_mk x j
theorem tset11_eq.{u} {α : Type} {β : Sort u} (t : T11 α) (k : Nat) (v : α) (K : T11 α → β) : tset11 t k v K = K (tset11 t k v id) := by
  obtain ⟨a, b⟩ := t
  unfold tset11
  cases Nat.beq (Nat.land k 1024) 0
  · exact (tset10_eq b k v _).trans (congrArg K (tset10_eq b k v (fun x => (⟨a, x⟩ : T11 α))).symm)
  · exact (tset10_eq a k v _).trans (congrArg K (tset10_eq a k v (fun x => (⟨x, b⟩ : T11 α))).symm)
theorem tget11_set {α : Type} (t : T11 α) (k j : Nat) (v : α) : tget11 (tset11 t k v id) j = if k % 2 ^ 11 = j % 2 ^ 11 then v else tget11 t j := by
  obtain ⟨a, b⟩ := t
  have hm := mod_bit k j 10
  have hk := bit_land' k 10 1024 rfl
  have hj := bit_land' j 10 1024 rfl
  have h1 : tset11 ⟨a, b⟩ k v id = if k.testBit 10 then (⟨a, tset10 b k v id⟩ : T11 α) else ⟨tset10 a k v id, b⟩ := by
    unfold tset11
    simp only [hk]
    cases k.testBit 10
    · exact tset10_eq a k v _
    · exact tset10_eq b k v _
  have h2 : ∀ t : T11 α, tget11 t j = if j.testBit 10 then tget10 t.b j else tget10 t.a j := by
    intro t
    unfold tget11
    simp only [hj]
    cases j.testBit 10 <;> rfl
  rw [h1, h2, h2]
  have ga := tget10_set a k j v
  have gb := tget10_set b k j v
  by_cases hc : k % 2 ^ 10 = j % 2 ^ 10
  · rw [if_pos hc] at ga gb
    cases e1 : k.testBit 10 <;> cases e2 : j.testBit 10 <;> rw [e1, e2] at hm
    · rw [if_pos (show k % 2 ^ 11 = j % 2 ^ 11 from hm.2 ⟨hc, rfl⟩)]; exact ga
    · rw [if_neg (show ¬ (k % 2 ^ 11 = j % 2 ^ 11) from fun h => by cases (hm.1 h).2)]; rfl
    · rw [if_neg (show ¬ (k % 2 ^ 11 = j % 2 ^ 11) from fun h => by cases (hm.1 h).2)]; rfl
    · rw [if_pos (show k % 2 ^ 11 = j % 2 ^ 11 from hm.2 ⟨hc, rfl⟩)]; exact gb
  · rw [if_neg hc] at ga gb
    rw [if_neg (show ¬ (k % 2 ^ 11 = j % 2 ^ 11) from fun h => hc (hm.1 h).1)]
    cases k.testBit 10 <;> cases j.testBit 10
    · exact ga
    · rfl
    · rfl
    · exact gb
theorem tget11_mk {α : Type} (x : α) (j : Nat) : tget11 (tmk11 x) j = x := by
  simp only [tget11, tmk11]
  split <;> exact tget10_mk x j
theorem tset12_eq.{u} {α : Type} {β : Sort u} (t : T12 α) (k : Nat) (v : α) (K : T12 α → β) : tset12 t k v K = K (tset12 t k v id) := by
  obtain ⟨a, b⟩ := t
  unfold tset12
  cases Nat.beq (Nat.land k 2048) 0
  · exact (tset11_eq b k v _).trans (congrArg K (tset11_eq b k v (fun x => (⟨a, x⟩ : T12 α))).symm)
  · exact (tset11_eq a k v _).trans (congrArg K (tset11_eq a k v (fun x => (⟨x, b⟩ : T12 α))).symm)
theorem tget12_set {α : Type} (t : T12 α) (k j : Nat) (v : α) : tget12 (tset12 t k v id) j = if k % 2 ^ 12 = j % 2 ^ 12 then v else tget12 t j := by
  obtain ⟨a, b⟩ := t
  have hm := mod_bit k j 11
  have hk := bit_land' k 11 2048 rfl
  have hj := bit_land' j 11 2048 rfl
  have h1 : tset12 ⟨a, b⟩ k v id = if k.testBit 11 then (⟨a, tset11 b k v id⟩ : T12 α) else ⟨tset11 a k v id, b⟩ := by
    unfold tset12
    simp only [hk]
    cases k.testBit 11
    · exact tset11_eq a k v _
    · exact tset11_eq b k v _
  have h2 : ∀ t : T12 α, tget12 t j = if j.testBit 11 then tget11 t.b j else tget11 t.a j := by
    intro t
    unfold tget12
    simp only [hj]
    cases j.testBit 11 <;> rfl
  rw [h1, h2, h2]
  have ga := tget11_set a k j v
  have gb := tget11_set b k j v
  by_cases hc : k % 2 ^ 11 = j % 2 ^ 11
  · rw [if_pos hc] at ga gb
    cases e1 : k.testBit 11 <;> cases e2 : j.testBit 11 <;> rw [e1, e2] at hm
    · rw [if_pos (show k % 2 ^ 12 = j % 2 ^ 12 from hm.2 ⟨hc, rfl⟩)]; exact ga
    · rw [if_neg (show ¬ (k % 2 ^ 12 = j % 2 ^ 12) from fun h => by cases (hm.1 h).2)]; rfl
    · rw [if_neg (show ¬ (k % 2 ^ 12 = j % 2 ^ 12) from fun h => by cases (hm.1 h).2)]; rfl
    · rw [if_pos (show k % 2 ^ 12 = j % 2 ^ 12 from hm.2 ⟨hc, rfl⟩)]; exact gb
  · rw [if_neg hc] at ga gb
    rw [if_neg (show ¬ (k % 2 ^ 12 = j % 2 ^ 12) from fun h => hc (hm.1 h).1)]
    cases k.testBit 11 <;> cases j.testBit 11
    · exact ga
    · rfl
    · rfl
    · exact gb
theorem tget12_mk {α : Type} (x : α) (j : Nat) : tget12 (tmk12 x) j = x := by
  simp only [tget12, tmk12]
  split <;> exact tget11_mk x j
theorem tset13_eq.{u} {α : Type} {β : Sort u} (t : T13 α) (k : Nat) (v : α) (K : T13 α → β) : tset13 t k v K = K (tset13 t k v id) := by
  obtain ⟨a, b⟩ := t
  unfold tset13
  cases Nat.beq (Nat.land k 4096) 0
  · exact (tset12_eq b k v _).trans (congrArg K (tset12_eq b k v (fun x => (⟨a, x⟩ : T13 α))).symm)
  · exact (tset12_eq a k v _).trans (congrArg K (tset12_eq a k v (fun x => (⟨x, b⟩ : T13 α))).symm)
theorem tget13_set {α : Type} (t : T13 α) (k j : Nat) (v : α) : tget13 (tset13 t k v id) j = if k % 2 ^ 13 = j % 2 ^ 13 then v else tget13 t j := by
  obtain ⟨a, b⟩ := t
  have hm := mod_bit k j 12
  have hk := bit_land' k 12 4096 rfl
  have hj := bit_land' j 12 4096 rfl
  have h1 : tset13 ⟨a, b⟩ k v id = if k.testBit 12 then (⟨a, tset12 b k v id⟩ : T13 α) else ⟨tset12 a k v id, b⟩ := by
    unfold tset13
    simp only [hk]
    cases k.testBit 12
    · exact tset12_eq a k v _
    · exact tset12_eq b k v _
  have h2 : ∀ t : T13 α, tget13 t j = if j.testBit 12 then tget12 t.b j else tget12 t.a j := by
    intro t
    unfold tget13
    simp only [hj]
    cases j.testBit 12 <;> rfl
  rw [h1, h2, h2]
  have ga := tget12_set a k j v
  have gb := tget12_set b k j v
  by_cases hc : k % 2 ^ 12 = j % 2 ^ 12
  · rw [if_pos hc] at ga gb
    cases e1 : k.testBit 12 <;> cases e2 : j.testBit 12 <;> rw [e1, e2] at hm
    · rw [if_pos (show k % 2 ^ 13 = j % 2 ^ 13 from hm.2 ⟨hc, rfl⟩)]; exact ga
    · rw [if_neg (show ¬ (k % 2 ^ 13 = j % 2 ^ 13) from fun h => by cases (hm.1 h).2)]; rfl
    · rw [if_neg (show ¬ (k % 2 ^ 13 = j % 2 ^ 13) from fun h => by cases (hm.1 h).2)]; rfl
    · rw [if_pos (show k % 2 ^ 13 = j % 2 ^ 13 from hm.2 ⟨hc, rfl⟩)]; exact gb
  · rw [if_neg hc] at ga gb
    rw [if_neg (show ¬ (k % 2 ^ 13 = j % 2 ^ 13) from fun h => hc (hm.1 h).1)]
    cases k.testBit 12 <;> cases j.testBit 12
    · exact ga
    · rfl
    · rfl
    · exact gb
theorem tget13_mk {α : Type} (x : α) (j : Nat) : tget13 (tmk13 x) j = x := by
  simp only [tget13, tmk13]
  split <;> exact tget12_mk x j
theorem tget13_put {α : Type} (t : T13 α) (k j : Nat) (v : α) (hk : k ≤ 8191) (hj : j ≤ 8191) : tget13 (tset13 t k v id) j = if k = j then v else tget13 t j := by
  rw [tget13_set, Nat.mod_eq_of_lt (by omega), Nat.mod_eq_of_lt (by omega)]
theorem tget8_put {α : Type} (t : T8 α) (k j : Nat) (v : α) (hk : k ≤ 255) (hj : j ≤ 255) : tget8 (tset8 t k v id) j = if k = j then v else tget8 t j := by
  rw [tget8_set, Nat.mod_eq_of_lt (by omega), Nat.mod_eq_of_lt (by omega)]
theorem forceN_eq.{u} {β : Sort u} (n : Nat) (K : Nat → β) : forceN n K = K n := by cases n <;> rfl
theorem forceI_eq.{u} {β : Sort u} (n : Int) (K : Int → β) : forceI n K = K n := match n with
  | .ofNat n => forceN_eq n fun n => K (.ofNat n)
  | .negSucc n => forceN_eq n fun n => K (.negSucc n)
theorem forceB_eq.{u} {β : Sort u} (n : Bool) (K : Bool → β) : forceB n K = K n := by cases n <;> rfl
theorem forceL_eq.{u} {α : Type} {β : Sort u} (l : List α) (K : List α → β) : forceL l K = K l := by
  induction l generalizing K with
  | nil => rfl
  | cons x l ih => rw [forceL, ih]
theorem forceV_eq.{u} {β : Sort u} (v : Value) (K : Value → β) : forceV v K = K v := by
  unfold forceV
  split
  · exact forceB_eq _ _
  · exact forceI_eq _ _
  · exact forceL_eq _ _
  · exact forceL_eq _ _
  · rfl
end Go.Proofs.YtpijenlmfmknnaaGreatDoor

/- How the reckoner's small store stands for memory: which block each number is, what lies there, what is as it was. No program. -/
namespace Go.Proofs.YtpijenlmfmknnaaGreatDoor
open Go.RowKit
set_option linter.unusedVariables false

/-- Where a numbered block lies: block, first cell, cells known; elements' size and how many more elements there is room for. -/
structure Pl where
  blk : Nat
  off : Nat
  sz : Nat
  es : Nat
  sl : Nat
abbrev Rn := Nat → Option Pl

/-- Two rows, one by one. -/
def LR (R : Value → Value → Prop) : List Value → List Value → Prop
  | [], l => l = []
  | v :: l, l' => ∃ v' t, l' = v' :: t ∧ R v v' ∧ LR R l t

def SlR (ρ : Rn) (a : Addr) (l c : Nat) (v' : Value) : Prop :=
  a.spot = none ∧ l ≤ c ∧ ∃ p, ρ a.block = some p ∧ ∃ a' c', v' = .slice (some a') l c' ∧ c' = c + (if a.off + c * p.es = p.sz then p.sl else 0) ∧
    (c' ≠ 0 → a' = ⟨p.blk, p.off + a.off, none⟩) ∧ c' ≤ 9223372036854775807
def fnFine : Fn → Prop
  | .yield _ => False
  | _ => True

/-- The value v of the reckoner stands for v', to a depth. -/
def VR (ρ : Rn) : Nat → Value → Value → Prop
  | 0, _, _ => False
  | n + 1, v, v' => match v with
    | .chan none => True
    | .bool b => v' = .bool b
    | .int k i => v' = .int k i
    | .string s => v' = .string s
    | .pointer none => v' = .pointer none
    | .pointer (some a) => a.spot = none ∧ ∃ p, ρ a.block = some p ∧ v' = .pointer (some ⟨p.blk, p.off + a.off, none⟩)
    | .slice none l c => l = 0 ∧ c = 0 ∧ v' = .slice none 0 0
    | .slice (some a) l c => SlR ρ a l c v'
    | .map none => v' = .map none
    | .map (some r) => ∃ p, ρ r = some p ∧ v' = .map (some p.blk)
    | .func fn f c => fnFine fn ∧ ∃ f' c', v' = .func fn ⟨f'⟩ ⟨c'⟩ ∧ LR (VR ρ n) f.toList f' ∧ LR (VR ρ n) c.toList c'
    | .nilFunc => v' = .nilFunc
    | .iface t x => ∃ x', v' = .iface t x' ∧ VR ρ n x x'
    | .nilIface => v' = .nilIface
    | .agg cs => ∃ cs', v' = .agg ⟨cs'⟩ ∧ LR (VR ρ n) cs.toList cs'
    | .tuple cs => ∃ cs', v' = .tuple ⟨cs'⟩ ∧ LR (VR ρ n) cs.toList cs'
    | _ => False
def VL (ρ : Rn) (v v' : Value) : Prop := ∃ n, VR ρ n v v'

theorem LR.mono {R S : Value → Value → Prop} (h : ∀ v v', R v v' → S v v') : ∀ {l l' : List Value}, LR R l l' → LR S l l'
  | [], _, e => e
  | v :: l, _, ⟨v', t, e, hv, ht⟩ => ⟨v', t, e, h _ _ hv, LR.mono h ht⟩
theorem VR.up {ρ : Rn} : ∀ {n : Nat} {v v' : Value}, VR ρ n v v' → VR ρ (n + 1) v v'
  | 0, v, v', h => h.elim
  | n + 1, v, v', h => by
    have ih : ∀ x x', VR ρ n x x' → VR ρ (n + 1) x x' := fun _ _ => VR.up
    unfold VR at h ⊢
    split at h <;> first
      | exact h
      | (obtain ⟨h1, f', c', e, h2, h3⟩ := h; exact ⟨h1, f', c', e, h2.mono ih, h3.mono ih⟩)
      | (obtain ⟨x', e, h2⟩ := h; exact ⟨x', e, ih _ _ h2⟩)
      | (obtain ⟨x', e, h2⟩ := h; exact ⟨x', e, h2.mono ih⟩)
theorem VR.le {ρ : Rn} {n m : Nat} {v v' : Value} (h : VR ρ n v v') (hm : n ≤ m) : VR ρ m v v' := by
  induction m with
  | zero => have : n = 0 := by omega
            subst this; exact h
  | succ m ih =>
    by_cases e : n = m + 1
    · subst e; exact h
    · exact (ih (by omega)).up
/-- A finite row has one depth. -/
theorem LR.deep {ρ : Rn} : ∀ {l l' : List Value}, LR (VL ρ) l l' → ∃ n, LR (VR ρ n) l l'
  | [], _, e => ⟨0, e⟩
  | v :: l, _, ⟨v', t, e, ⟨n, hv⟩, ht⟩ => by
    obtain ⟨m, hm⟩ := LR.deep ht
    exact ⟨n + m, v', t, e, hv.le (by omega), hm.mono fun _ _ h => h.le (by omega)⟩
theorem LR.flat {ρ : Rn} {n : Nat} {l l' : List Value} (h : LR (VR ρ n) l l') : LR (VL ρ) l l' := h.mono fun _ _ h => ⟨n, h⟩

section
variable {ρ : Rn} {v' : Value}
theorem VL.of {v : Value} (h : VR ρ 1 v v') : VL ρ v v' := ⟨1, h⟩
theorem VL.bool {b : Bool} : VL ρ (.bool b) v' ↔ v' = .bool b := ⟨fun ⟨n, h⟩ => by cases n with | zero => exact h.elim | succ n => exact h, fun h => ⟨1, h⟩⟩
theorem VL.int {k : IntKind} {i : Int} : VL ρ (.int k i) v' ↔ v' = .int k i := ⟨fun ⟨n, h⟩ => by cases n with | zero => exact h.elim | succ n => exact h, fun h => ⟨1, h⟩⟩
theorem VL.string {s : ByteArray} : VL ρ (.string s) v' ↔ v' = .string s := ⟨fun ⟨n, h⟩ => by cases n with | zero => exact h.elim | succ n => exact h, fun h => ⟨1, h⟩⟩
theorem VL.ptr {a : Addr} : VL ρ (.pointer (some a)) v' ↔ a.spot = none ∧ ∃ p, ρ a.block = some p ∧ v' = .pointer (some ⟨p.blk, p.off + a.off, none⟩) :=
  ⟨fun ⟨n, h⟩ => by cases n with | zero => exact h.elim | succ n => exact h, fun h => ⟨1, h⟩⟩
theorem VL.nilp : VL ρ (.pointer none) v' ↔ v' = .pointer none := ⟨fun ⟨n, h⟩ => by cases n with | zero => exact h.elim | succ n => exact h, fun h => ⟨1, h⟩⟩
theorem VL.nils {l c : Nat} : VL ρ (.slice none l c) v' ↔ l = 0 ∧ c = 0 ∧ v' = .slice none 0 0 := ⟨fun ⟨n, h⟩ => by cases n with | zero => exact h.elim | succ n => exact h, fun h => ⟨1, h⟩⟩
theorem VL.slice {a : Addr} {l c : Nat} : VL ρ (.slice (some a) l c) v' ↔ SlR ρ a l c v' := ⟨fun ⟨n, h⟩ => by cases n with | zero => exact h.elim | succ n => exact h, fun h => ⟨1, h⟩⟩
theorem VL.map {r : Nat} : VL ρ (.map (some r)) v' ↔ ∃ p, ρ r = some p ∧ v' = .map (some p.blk) := ⟨fun ⟨n, h⟩ => by cases n with | zero => exact h.elim | succ n => exact h, fun h => ⟨1, h⟩⟩
theorem VL.nilm : VL ρ (.map none) v' ↔ v' = .map none := ⟨fun ⟨n, h⟩ => by cases n with | zero => exact h.elim | succ n => exact h, fun h => ⟨1, h⟩⟩
theorem VL.nilf : VL ρ .nilFunc v' ↔ v' = .nilFunc := ⟨fun ⟨n, h⟩ => by cases n with | zero => exact h.elim | succ n => exact h, fun h => ⟨1, h⟩⟩
theorem VL.nili : VL ρ .nilIface v' ↔ v' = .nilIface := ⟨fun ⟨n, h⟩ => by cases n with | zero => exact h.elim | succ n => exact h, fun h => ⟨1, h⟩⟩
theorem VL.junk : VL ρ (.chan none) v' := ⟨1, trivial⟩
theorem VL.agg {l : List Value} : VL ρ (.agg ⟨l⟩) v' ↔ ∃ l', v' = .agg ⟨l'⟩ ∧ LR (VL ρ) l l' := by
  constructor
  · rintro ⟨n, h⟩
    cases n with
    | zero => exact h.elim
    | succ n => obtain ⟨l', e, h⟩ := h; exact ⟨l', e, h.flat⟩
  · rintro ⟨l', e, h⟩
    obtain ⟨n, hn⟩ := h.deep
    exact ⟨n + 1, l', e, hn⟩
theorem VL.tuple {l : List Value} : VL ρ (.tuple ⟨l⟩) v' ↔ ∃ l', v' = .tuple ⟨l'⟩ ∧ LR (VL ρ) l l' := by
  constructor
  · rintro ⟨n, h⟩
    cases n with
    | zero => exact h.elim
    | succ n => obtain ⟨l', e, h⟩ := h; exact ⟨l', e, h.flat⟩
  · rintro ⟨l', e, h⟩
    obtain ⟨n, hn⟩ := h.deep
    exact ⟨n + 1, l', e, hn⟩
theorem VL.iface {t : TypeId} {x : Value} : VL ρ (.iface t x) v' ↔ ∃ x', v' = .iface t x' ∧ VL ρ x x' := by
  constructor
  · rintro ⟨n, h⟩
    cases n with
    | zero => exact h.elim
    | succ n => obtain ⟨l', e, h⟩ := h; exact ⟨l', e, n, h⟩
  · rintro ⟨l', e, n, h⟩
    exact ⟨n + 1, l', e, h⟩
theorem VL.func {fn : Fn} {f c : List Value} : VL ρ (.func fn ⟨f⟩ ⟨c⟩) v' ↔ fnFine fn ∧ ∃ f' c', v' = .func fn ⟨f'⟩ ⟨c'⟩ ∧ LR (VL ρ) f f' ∧ LR (VL ρ) c c' := by
  constructor
  · rintro ⟨n, h⟩
    cases n with
    | zero => exact h.elim
    | succ n => obtain ⟨h1, f', c', e, h2, h3⟩ := h; exact ⟨h1, f', c', e, h2.flat, h3.flat⟩
  · rintro ⟨h1, f', c', e, h2, h3⟩
    obtain ⟨n, hn⟩ := h2.deep
    obtain ⟨m, hm⟩ := h3.deep
    exact ⟨n + m + 1, h1, f', c', e, hn.mono fun _ _ h => h.le (by omega), hm.mono fun _ _ h => h.le (by omega)⟩
end

/-! More numbers known. -/
def Rn.le (ρ ρ' : Rn) : Prop := ∀ i p, ρ i = some p → ρ' i = some p
theorem SlR.grow {ρ ρ' : Rn} (hρ : ρ.le ρ') {a : Addr} {l c : Nat} {v' : Value} (h : SlR ρ a l c v') : SlR ρ' a l c v' := by
  obtain ⟨h1, h2, p, h3, h4⟩ := h
  exact ⟨h1, h2, p, hρ _ _ h3, h4⟩
theorem VR.grow {ρ ρ' : Rn} (hρ : ρ.le ρ') : ∀ {n : Nat} {v v' : Value}, VR ρ n v v' → VR ρ' n v v'
  | 0, v, v', h => h.elim
  | n + 1, v, v', h => by
    have ih : ∀ x x', VR ρ n x x' → VR ρ' n x x' := fun _ _ => VR.grow hρ
    unfold VR at h ⊢
    split at h <;> first
      | exact h
      | exact h.grow hρ
      | (obtain ⟨h1, f', c', e, h2, h3⟩ := h; exact ⟨h1, f', c', e, h2.mono ih, h3.mono ih⟩)
      | (obtain ⟨h1, p, e, h2⟩ := h; exact ⟨h1, p, hρ _ _ e, h2⟩)
      | (obtain ⟨p, e, h2⟩ := h; exact ⟨p, hρ _ _ e, h2⟩)
      | (obtain ⟨x', e, h2⟩ := h; exact ⟨x', e, ih _ _ h2⟩)
      | (obtain ⟨x', e, h2⟩ := h; exact ⟨x', e, h2.mono ih⟩)
theorem VL.grow {ρ ρ' : Rn} (hρ : ρ.le ρ') {v v' : Value} (h : VL ρ v v') : VL ρ' v v' := by
  obtain ⟨n, h⟩ := h
  exact ⟨n, h.grow hρ⟩
theorem LR.grow {ρ ρ' : Rn} (hρ : ρ.le ρ') {l l' : List Value} (h : LR (VL ρ) l l') : LR (VL ρ') l l' := h.mono fun _ _ h => h.grow hρ
theorem Rn.le.rfl {ρ : Rn} : ρ.le ρ := fun _ _ h => h
theorem Rn.le.trans {a b c : Rn} (h : a.le b) (k : b.le c) : a.le c := fun i p e => k i p (h i p e)

/-! Rows. -/
theorem LR.len {R : Value → Value → Prop} : ∀ {l l' : List Value}, LR R l l' → l'.length = l.length
  | [], _, e => by rw [e]
  | v :: l, _, ⟨v', t, e, _, ht⟩ => by rw [e, List.length_cons, List.length_cons, LR.len ht]
theorem LR.at {R : Value → Value → Prop} : ∀ {l l' : List Value} {i : Nat} {v : Value}, LR R l l' → l[i]? = some v → ∃ v', l'[i]? = some v' ∧ R v v'
  | [], _, i, v, e, h => by simp at h
  | x :: l, _, 0, v, ⟨v', t, e, hv, _⟩, h => by
    subst e
    simp at h
    subst h
    exact ⟨v', by simp, hv⟩
  | x :: l, _, i + 1, v, ⟨v', t, e, _, ht⟩, h => by
    subst e
    simpa using LR.at ht (by simpa using h)
theorem LR.of {R : Value → Value → Prop} : ∀ {l l' : List Value}, l'.length = l.length → (∀ (i : Nat) v v', l[i]? = some v → l'[i]? = some v' → R v v') → LR R l l'
  | [], l', e, _ => by
    show l' = []
    simpa using e
  | v :: l, [], e, _ => by simp at e
  | v :: l, v' :: t, e, h => ⟨v', t, rfl, h 0 v v' (by simp) (by simp), LR.of (by simpa using e) fun i x x' hx hx' => h (i + 1) x x' (by simpa using hx) (by simpa using hx')⟩
theorem LR.app {R : Value → Value → Prop} : ∀ {l l' k k' : List Value}, LR R l l' → LR R k k' → LR R (l ++ k) (l' ++ k')
  | [], _, k, k', e, h => by rw [e]; exact h
  | v :: l, _, k, k', ⟨v', t, e, hv, ht⟩, h => ⟨v', t ++ k', by rw [e]; rfl, hv, LR.app ht h⟩
theorem LR.take {R : Value → Value → Prop} : ∀ {l l' : List Value} (n : Nat), LR R l l' → LR R (l.take n) (l'.take n)
  | l, l', 0, _ => by simp [LR]
  | [], _, n + 1, e => by rw [e]; simp [LR]
  | v :: l, _, n + 1, ⟨v', t, e, hv, ht⟩ => ⟨v', t.take n, by rw [e]; rfl, hv, LR.take n ht⟩
theorem LR.drop {R : Value → Value → Prop} : ∀ {l l' : List Value} (n : Nat), LR R l l' → LR R (l.drop n) (l'.drop n)
  | l, l', 0, h => h
  | [], _, n + 1, e => by rw [e]; simp [LR]
  | v :: l, _, n + 1, ⟨v', t, e, hv, ht⟩ => by subst e; exact LR.drop n ht

/-! Values without an address stand for themselves. -/
theorem plain0_iff {ρ : Rn} {v v' : Value} (h : plain0 v = true) : VL ρ v v' ↔ v' = v := by
  cases v with
  | bool b => exact VL.bool
  | int k i => exact VL.int
  | string s => exact VL.string
  | pointer a => cases a with
    | none => exact VL.nilp
    | some a => cases h
  | slice a l c => cases a with
    | none =>
      rw [plain0, Bool.and_eq_true] at h
      have h1 := Nat.eq_of_beq_eq_true h.1
      have h2 := Nat.eq_of_beq_eq_true h.2
      subst h1 h2
      rw [VL.nils]
      simp
    | some a => cases h
  | map r => cases r with
    | none => exact VL.nilm
    | some a => cases h
  | nilFunc => exact VL.nilf
  | nilIface => exact VL.nili
  | _ => cases h
theorem plainL_iff {ρ : Rn} : ∀ {l l' : List Value}, plainL l = true → (LR (VL ρ) l l' ↔ l' = l)
  | [], _, _ => Iff.rfl
  | v :: l, l', h => by
    rw [plainL, Bool.and_eq_true] at h
    constructor
    · rintro ⟨v', t, e, hv, ht⟩
      rw [e, (plain0_iff h.1).1 hv, (plainL_iff h.2).1 ht]
    · intro e
      exact ⟨v, l, e, (plain0_iff h.1).2 rfl, (plainL_iff h.2).2 rfl⟩
theorem plain1_iff {ρ : Rn} {v v' : Value} (h : plain1 v = true) : VL ρ v v' ↔ v' = v := by
  unfold plain1 at h
  split at h
  · rw [VL.agg]
    constructor
    · rintro ⟨l', e, hl⟩; rw [e, (plainL_iff h).1 hl]
    · intro e; exact ⟨_, e, (plainL_iff h).2 rfl⟩
  · exact plain0_iff h
theorem plainM_iff {ρ : Rn} : ∀ {l l' : List Value}, plainM l = true → (LR (VL ρ) l l' ↔ l' = l)
  | [], _, _ => Iff.rfl
  | v :: l, l', h => by
    rw [plainM, Bool.and_eq_true] at h
    constructor
    · rintro ⟨v', t, e, hv, ht⟩
      rw [e, (plain1_iff h.1).1 hv, (plainM_iff h.2).1 ht]
    · intro e
      exact ⟨v, l, e, (plain1_iff h.1).2 rfl, (plainM_iff h.2).2 rfl⟩
theorem plainV_iff {ρ : Rn} {v v' : Value} (h : plainV v = true) : VL ρ v v' ↔ v' = v := by
  unfold plainV at h
  split at h
  · rw [VL.tuple]
    constructor
    · rintro ⟨l', e, hl⟩; rw [e, (plainM_iff h).1 hl]
    · intro e; exact ⟨_, e, (plainM_iff h).2 rfl⟩
  · exact plain1_iff h

/-! The store and memory. -/
abbrev Hf := Nat → Option Obj
/-- No cell of n is frozen. -/
def Fz (n : Nat) (fz : Nat × Nat) : Prop := fz.1 = fz.2 ∨ n ≤ fz.1
theorem Fz.no {n : Nat} {fz : Nat × Nat} (h : Fz n fz) : ∀ o, o < n → ¬ (fz.1 ≤ o ∧ o < fz.2) := fun o ho hc => by
  rcases h with h | h <;> omega
/-- Beyond that: a whole row of operations bears no mark. -/
def Fy (T : TypeId) (fl : Nat × Nat) (n : Nat) (fz : Nat × Nat) : Prop := Fz n fz ∧ (T = 121 → fl.1 = 0 → fz.1 = fz.2)
theorem Fy.no {T : TypeId} {fl : Nat × Nat} {n : Nat} {fz : Nat × Nat} (h : Fy T fl n fz) : ∀ o, o < n → ¬ (fz.1 ≤ o ∧ o < fz.2) := h.1.no
/-- What block number 'id' stands for lies in memory. -/
def ObjR (ρ : Rn) (w : World) (id : Nat) : Obj → Prop
  | .cells cs T fl => ∃ p, ρ id = some p ∧ p.sz = cs.size ∧ (fl.1 = 0 → p.sl = 0) ∧ (fl.1 ≠ 0 → p.es = fl.1) ∧
      ∃ c' el' fz, w.heap[p.blk]? = some (.cells c' el' fz) ∧ p.off + p.sz + p.sl * p.es ≤ c'.size ∧ (16 ≤ id → Fy T fl c'.size fz) ∧
        ∀ k v, cs[k]? = some v → ∃ v', c'[p.off + k]? = some v' ∧ VL ρ v v'
  | .map es clk => ∃ p, ρ id = some p ∧ w.heap[p.blk]? = some (.map es clk)
  | _ => False
structure HR (w0 : World) (B : Nat) (ρ : Rn) (h : Hf) (w : World) : Prop where
  below : Below B w0 w
  base : B ≤ w0.heap.size
  obj : ∀ id o, h id = some o → ObjR ρ w id o
  sep : ∀ i j oi oj pi pj, i ≠ j → h i = some oi → h j = some oj → ρ i = some pi → ρ j = some pj → pi.blk ≠ pj.blk
  own : ∀ id o p, h id = some o → 16 ≤ id → ρ id = some p → B ≤ p.blk
  glo : ∀ g, g < 16 → ∃ p, ρ g = some p ∧ p.blk = g ∧ p.off = 0
def Hp.f (s : Hp) : Hf := fun id => if id ≤ 8191 then tget13 s.h id else none
end Go.Proofs.YtpijenlmfmknnaaGreatDoor

/- A piece of the reckoner looks at the blocks that it marks and turns those that it marks, and does the same wherever these are the same. No program. -/
namespace Go.Proofs.YtpijenlmfmknnaaGreatDoor
set_option linter.unusedVariables false

structure Fr (s s' : Hp) (r q : Nat) : Prop where
  n : s.n ≤ s'.n
  rd : s'.rd = s.rd ||| r
  wr : s'.wr = s.wr ||| q
  off : ∀ id, q.testBit id = false → s'.f id = s.f id
  new : ∀ id, s.n ≤ id → id < s'.n → q.testBit id = true
structure Ag (s g : Hp) (a : Nat) : Prop where
  n : g.n = s.n
  on : ∀ id, a.testBit id = true → g.f id = s.f id
structure Pat (s' g g' : Hp) (r q : Nat) : Prop where
  n : g'.n = s'.n
  rd : g'.rd = g.rd ||| r
  wr : g'.wr = g.wr ||| q
  on : ∀ id, q.testBit id = true → g'.f id = s'.f id
  off : ∀ id, q.testBit id = false → g'.f id = g.f id

/-- The piece F: what it tells and where it ends hangs on what it marks alone; whatever goes on behind it. -/
structure Good {α : Type} (F : M α) : Prop where
  ok : ∀ {β : Type} (s : Hp) (K : α → Hp → Option β) (x : β), F.run s K = some x → ∃ a s' r q, (∀ {γ : Type} (J : α → Hp → Option γ), F.run s J = J a s') ∧ Fr s s' r q ∧
    ∀ g, Ag s g (r ||| q) → ∃ g', Pat s' g g' r q ∧ ∀ {γ : Type} (J : α → Hp → Option γ), F.run g J = J a g'

theorem good_fail {α : Type} : Good (mfail (α := α)) := ⟨fun _ _ _ h => by cases h⟩
theorem good_pure {α : Type} (a : α) : Good (mpure a) := ⟨fun s K x h =>
  ⟨a, s, 0, 0, fun _ => rfl, ⟨Nat.le_refl _, by simp, by simp, fun _ _ => rfl, fun id h1 h2 => by omega⟩,
    fun g hg => ⟨g, ⟨hg.n, by simp, by simp, fun id h => by simp at h, fun _ _ => rfl⟩, fun _ => rfl⟩⟩⟩
theorem good_bind {α δ : Type} {F : M α} {G : α → M δ} (hF : Good F) (hG : ∀ a, Good (G a)) : Good (mbind F G) := by
  refine ⟨fun {β} s K x h => ?_⟩
  obtain ⟨a, s1, r1, q1, e1, f1, g1⟩ := hF.ok s (fun a s => (G a).run s K) x h
  have h2 : (G a).run s1 K = some x := (e1 fun a s => (G a).run s K).symm.trans h
  obtain ⟨b, s2, r2, q2, e2, f2, g2⟩ := (hG a).ok s1 K x h2
  refine ⟨b, s2, r1 ||| r2, q1 ||| q2, fun J => (e1 fun a s => (G a).run s J).trans (e2 J), ⟨Nat.le_trans f1.n f2.n, ?_, ?_, ?_, ?_⟩, ?_⟩
  · rw [f2.rd, f1.rd, Nat.or_assoc]
  · rw [f2.wr, f1.wr, Nat.or_assoc]
  · intro id h
    rw [Nat.testBit_or, Bool.or_eq_false_iff] at h
    rw [f2.off id h.2, f1.off id h.1]
  · intro id h1 h2
    rw [Nat.testBit_or, Bool.or_eq_true]
    by_cases hc : id < s1.n
    · exact .inl (f1.new id h1 hc)
    · exact .inr (f2.new id (by omega) h2)
  · intro g hg
    obtain ⟨g', hp, eg⟩ := g1 g ⟨hg.n, fun id h => hg.on id (by
      simp only [Nat.testBit_or, Bool.or_eq_true] at h ⊢
      rcases h with h | h
      · exact .inl (.inl h)
      · exact .inr (.inl h))⟩
    obtain ⟨g'', hp2, eg2⟩ := g2 g' ⟨hp.n, fun id h => by
      cases hq : q1.testBit id with
      | true => exact hp.on id hq
      | false =>
        rw [hp.off id hq, f1.off id hq]
        refine hg.on id ?_
        simp only [Nat.testBit_or, Bool.or_eq_true] at h ⊢
        rcases h with h | h
        · exact .inl (.inr h)
        · exact .inr (.inr h)⟩
    refine ⟨g'', ⟨hp2.n, ?_, ?_, ?_, ?_⟩, fun J => (eg fun a s => (G a).run s J).trans (eg2 J)⟩
    · rw [hp2.rd, hp.rd, Nat.or_assoc]
    · rw [hp2.wr, hp.wr, Nat.or_assoc]
    · intro id h
      cases hq : q2.testBit id with
      | true => exact hp2.on id hq
      | false =>
        rw [hp2.off id hq, f2.off id hq]
        rw [Nat.testBit_or, hq, Bool.or_false] at h
        exact hp.on id h
    · intro id h
      rw [Nat.testBit_or, Bool.or_eq_false_iff] at h
      rw [hp2.off id h.2, hp.off id h.1]

theorem bit_one (b id : Nat) : (Nat.shiftLeft 1 b).testBit id = decide (b = id) := by
  show (1 <<< b).testBit id = _
  rw [Nat.one_shiftLeft, Nat.testBit_two_pow]
theorem bit_self (b : Nat) : (Nat.shiftLeft 1 b).testBit b = true := by rw [bit_one]; simp
theorem bit_other {b id : Nat} (h : (Nat.shiftLeft 1 b).testBit id = false) : b ≠ id := by rw [bit_one] at h; simpa using h
theorem bit_this {b id : Nat} (h : (Nat.shiftLeft 1 b).testBit id = true) : b = id := by rw [bit_one] at h; simpa using h

theorem mget_eq {β : Type} (s : Hp) (b : Nat) (K : Obj → Hp → Option β) :
    (mget b).run s K = match s.f b with
      | some o => K o ⟨s.h, s.n, s.rd ||| Nat.shiftLeft 1 b, s.wr⟩
      | none => none := by
  obtain ⟨h, n, rd, wr⟩ := s
  unfold mget Hp.f
  simp only []
  cases hb : Nat.ble b 8191 with
  | true =>
    rw [if_pos (Nat.le_of_ble_eq_true hb)]
    simp only []
    cases tget13 h b with
    | none => rfl
    | some o => exact forceN_eq _ _
  | false =>
    rw [if_neg (fun h => by rw [Nat.ble_eq_true_of_le h] at hb; cases hb)]
theorem good_get (b : Nat) : Good (mget b) := by
  refine ⟨fun {β} s K x h => ?_⟩
  simp only [mget_eq] at h ⊢
  cases hb : s.f b with
  | none => rw [hb] at h; cases h
  | some o =>
    refine ⟨o, ⟨s.h, s.n, s.rd ||| Nat.shiftLeft 1 b, s.wr⟩, Nat.shiftLeft 1 b, 0, fun J => rfl, ⟨Nat.le_refl _, rfl, by simp, fun _ _ => rfl, fun id h1 h2 => by simp at h2; omega⟩, ?_⟩
    intro g hg
    have hgb : g.f b = some o := by rw [hg.on b (by rw [Nat.testBit_or, bit_self]; rfl), hb]
    refine ⟨⟨g.h, g.n, g.rd ||| Nat.shiftLeft 1 b, g.wr⟩, ⟨hg.n, rfl, by simp, fun id h => by simp at h, fun _ _ => rfl⟩, fun J => ?_⟩
    rw [hgb]

def Hp.put (s : Hp) (b : Nat) (o : Option Obj) (n : Nat) : Hp := ⟨tset13 s.h b o id, n, s.rd, s.wr ||| Nat.shiftLeft 1 b⟩
theorem put_f (s : Hp) (b : Nat) (o : Option Obj) (n : Nat) (hb : b ≤ 8191) (id : Nat) : (s.put b o n).f id = if b = id then o else s.f id := by
  unfold Hp.put Hp.f
  by_cases hi : id ≤ 8191
  · rw [if_pos hi, if_pos hi]
    exact tget13_put _ _ _ _ hb hi
  · rw [if_neg hi, if_neg hi, if_neg (by omega)]
theorem mset_eq {β : Type} (s : Hp) (b : Nat) (o : Option Obj) (K : Unit → Hp → Option β) :
    (mset b o).run s K = if 16 ≤ b ∧ b ≤ 8191 then K () (s.put b o s.n) else none := by
  obtain ⟨h, n, rd, wr⟩ := s
  unfold mset
  simp only []
  cases hb : Nat.ble b 8191 && Nat.ble 16 b with
  | true =>
    rw [Bool.and_eq_true] at hb
    rw [if_pos ⟨Nat.le_of_ble_eq_true hb.2, Nat.le_of_ble_eq_true hb.1⟩]
    simp only []
    rw [tset13_eq]
    exact forceN_eq _ _
  | false =>
    rw [if_neg]
    rintro ⟨h1, h2⟩
    rw [Nat.ble_eq_true_of_le h1, Nat.ble_eq_true_of_le h2] at hb
    cases hb
theorem mnew_eq {β : Type} (s : Hp) (o : Obj) (K : Nat → Hp → Option β) :
    (mnew o).run s K = if 16 ≤ s.n ∧ s.n ≤ 8191 then K s.n (s.put s.n (some o) (s.n + 1)) else none := by
  obtain ⟨h, n, rd, wr⟩ := s
  unfold mnew
  simp only []
  cases hb : Nat.ble n 8191 && Nat.ble 16 n with
  | true =>
    rw [Bool.and_eq_true] at hb
    rw [if_pos ⟨Nat.le_of_ble_eq_true hb.2, Nat.le_of_ble_eq_true hb.1⟩]
    simp only []
    rw [tset13_eq]
    exact (forceN_eq _ _).trans (forceN_eq _ _)
  | false =>
    rw [if_neg]
    rintro ⟨h1, h2⟩
    rw [Nat.ble_eq_true_of_le h1, Nat.ble_eq_true_of_le h2] at hb
    cases hb
theorem good_set (b : Nat) (o : Option Obj) : Good (mset b o) := by
  refine ⟨fun {β} s K x h => ?_⟩
  simp only [mset_eq] at h ⊢
  split at h
  · rename_i hc
    refine ⟨(), s.put b o s.n, 0, Nat.shiftLeft 1 b, fun J => if_pos hc, ⟨Nat.le_refl _, by simp [Hp.put], rfl, fun id h => ?_, fun id h1 h2 => by simp [Hp.put] at h2; omega⟩, ?_⟩
    · rw [put_f _ _ _ _ hc.2, if_neg (bit_other h)]
    · intro g hg
      refine ⟨g.put b o g.n, ⟨hg.n, by simp [Hp.put], rfl, fun id h => ?_, fun id h => ?_⟩, fun J => if_pos hc⟩
      · rw [put_f _ _ _ _ hc.2, put_f _ _ _ _ hc.2, if_pos (bit_this h), if_pos (bit_this h)]
      · rw [put_f _ _ _ _ hc.2, if_neg (bit_other h)]
  · cases h
theorem good_new (o : Obj) : Good (mnew o) := by
  refine ⟨fun {β} s K x h => ?_⟩
  simp only [mnew_eq] at h ⊢
  split at h
  · rename_i hc
    refine ⟨s.n, s.put s.n (some o) (s.n + 1), 0, Nat.shiftLeft 1 s.n, fun J => if_pos hc, ⟨by simp [Hp.put], by simp [Hp.put], rfl, fun id h => ?_, fun id h1 h2 => ?_⟩, ?_⟩
    · rw [put_f _ _ _ _ hc.2, if_neg (bit_other h)]
    · simp only [Hp.put] at h2
      have : s.n = id := by omega
      rw [← this]
      exact bit_self _
    · intro g hg
      rw [hg.n]
      refine ⟨g.put s.n (some o) (s.n + 1), ⟨rfl, by simp [Hp.put], rfl, fun id h => ?_, fun id h => ?_⟩, fun J => if_pos hc⟩
      · rw [put_f _ _ _ _ hc.2, put_f _ _ _ _ hc.2, if_pos (bit_this h), if_pos (bit_this h)]
      · rw [put_f _ _ _ _ hc.2, if_neg (bit_other h)]
  · cases h
end Go.Proofs.YtpijenlmfmknnaaGreatDoor

/- All pieces of the reckoner keep to what they mark. No program. -/
namespace Go.Proofs.YtpijenlmfmknnaaGreatDoor
set_option linter.unusedVariables false
variable (P : Program)

theorem good_maev (x : Option Value) : Good (maev x) := by
  unfold maev
  repeat' (first | with_reducible exact good_fail | with_reducible exact good_pure _ | (with_reducible refine good_bind ?_ fun _ => ?_) | rw [forceN_eq] | rw [forceL_eq] | rw [forceI_eq] | rw [forceV_eq] | rw [forceB_eq] | rw [tset8_eq] | split)
theorem good_aevs (e : Operand → Option Value) : ∀ l, Good (aevs e l)
  | [] => good_pure _
  | x :: l => by
    unfold aevs
    split
    · exact good_bind (good_aevs e l) fun _ => good_pure _
    · exact good_fail
theorem good_cut (off n : Nat) (l : List Value) : Good (cut off n l) := by
  unfold cut
  repeat' (first | with_reducible exact good_fail | with_reducible exact good_pure _ | (with_reducible refine good_bind ?_ fun _ => ?_) | rw [forceN_eq] | rw [forceL_eq] | rw [forceI_eq] | rw [forceV_eq] | rw [forceB_eq] | rw [tset8_eq] | split)
theorem good_paste (off : Nat) (vs l : List Value) : Good (paste off vs l) := by
  unfold paste
  repeat' (first | with_reducible exact good_fail | with_reducible exact good_pure _ | (with_reducible refine good_bind ?_ fun _ => ?_) | rw [forceN_eq] | rw [forceL_eq] | rw [forceI_eq] | rw [forceV_eq] | rw [forceB_eq] | rw [tset8_eq] | split)
theorem good_cellsO (o : Obj) : Good (cellsO o) := by
  unfold cellsO
  repeat' (first | with_reducible exact good_fail | with_reducible exact good_pure _ | (with_reducible refine good_bind ?_ fun _ => ?_) | rw [forceN_eq] | rw [forceL_eq] | rw [forceI_eq] | rw [forceV_eq] | rw [forceB_eq] | rw [tset8_eq] | split)
theorem good_mcells (b : Nat) : Good (mcells b) := good_bind (good_get b) good_cellsO
theorem good_mload (a : Addr) (n : Nat) : Good (mload a n) := by
  unfold mload
  repeat' (first | with_reducible exact good_fail | with_reducible exact good_cut _ _ _ | with_reducible exact good_mcells _ | (with_reducible refine good_bind ?_ fun _ => ?_) | rw [forceN_eq] | rw [forceL_eq] | rw [forceI_eq] | rw [forceV_eq] | rw [forceB_eq] | rw [tset8_eq] | split)
theorem good_mstore (a : Addr) (vs : List Value) : Good (mstore a vs) := by
  unfold mstore
  repeat' (first | with_reducible exact good_fail | with_reducible exact good_set _ _ | with_reducible exact good_paste _ _ _ | with_reducible exact good_mcells _ | (with_reducible refine good_bind ?_ fun _ => ?_) | rw [forceN_eq] | rw [forceL_eq] | rw [forceI_eq] | rw [forceV_eq] | rw [forceB_eq] | rw [tset8_eq] | split)
theorem good_mrow (t : TypeId) (l : List Value) (fl : Nat × Nat) : Good (mrow t l fl) := by
  unfold mrow
  repeat' (first | with_reducible exact good_fail | with_reducible exact good_new _ | (with_reducible refine good_bind ?_ fun _ => ?_) | rw [forceN_eq] | rw [forceL_eq] | rw [forceI_eq] | rw [forceV_eq] | rw [forceB_eq] | rw [tset8_eq] | split)
theorem good_addA (a : Addr) (n : Nat) : Good (addA a n) := by
  unfold addA
  repeat' (first | with_reducible exact good_fail | with_reducible exact good_pure _ | (with_reducible refine good_bind ?_ fun _ => ?_) | rw [forceN_eq] | rw [forceL_eq] | rw [forceI_eq] | rw [forceV_eq] | rw [forceB_eq] | rw [tset8_eq] | split)
theorem good_partK (t : TypeId) (l : List Value) (off : Nat) : Good (partK P t l off) := by
  unfold partK
  repeat' (first | with_reducible exact good_fail | with_reducible exact good_pure _ | with_reducible exact good_maev _ | with_reducible exact good_cut _ _ _ | (with_reducible refine good_bind ?_ fun _ => ?_) | rw [forceN_eq] | rw [forceL_eq] | rw [forceI_eq] | rw [forceV_eq] | rw [forceB_eq] | rw [tset8_eq] | split)
theorem good_fillK (pl : Nat → Option (Nat × Nat)) : ∀ (rest : List (Nat × Value)) (cells : List Value), Good (fillK pl cells rest)
  | [], cells => by unfold fillK; exact good_pure _
  | (i, v) :: rest, cells => by
    unfold fillK
    split
    · split
      · split
        · exact good_bind (good_paste _ _ _) fun c => good_fillK pl rest c
        · exact good_fail
      · exact good_fail
    · exact good_fail
theorem good_mprun (x : Sem Value) : Good (mprun P x) := by
  unfold mprun
  repeat' (first | with_reducible exact good_fail | with_reducible exact good_pure _ | (with_reducible refine good_bind ?_ fun _ => ?_) | rw [forceN_eq] | rw [forceL_eq] | rw [forceI_eq] | rw [forceV_eq] | rw [forceB_eq] | rw [tset8_eq] | split)
theorem good_firstK (size n : Nat) (x : Value) : Good (firstK size n x) := by
  unfold firstK
  repeat' (first | with_reducible exact good_fail | with_reducible exact good_pure _ | with_reducible exact good_mload _ _ | (with_reducible refine good_bind ?_ fun _ => ?_) | rw [forceN_eq] | rw [forceL_eq] | rw [forceI_eq] | rw [forceV_eq] | rw [forceB_eq] | rw [tset8_eq] | split)
theorem good_grownK (el : TypeId) (z off len need : Nat) (l new : List Value) : Good (grownK el z off len need l new) := by
  unfold grownK
  repeat' (first | with_reducible exact good_pure _ | with_reducible exact good_cut _ _ _ | with_reducible exact good_mrow _ _ _ | (with_reducible refine good_bind ?_ fun _ => ?_) | rw [forceN_eq] | rw [forceL_eq] | rw [forceI_eq] | rw [forceV_eq] | rw [forceB_eq] | rw [tset8_eq] | split)
theorem good_appNil (el : TypeId) (z n : Nat) (new : List Value) : Good (appNil el z n new) := by
  unfold appNil
  repeat' (first | with_reducible exact good_fail | with_reducible exact good_pure _ | with_reducible exact good_mrow _ _ _ | (with_reducible refine good_bind ?_ fun _ => ?_) | rw [forceN_eq] | rw [forceL_eq] | rw [forceI_eq] | rw [forceV_eq] | rw [forceB_eq] | rw [tset8_eq] | split)
theorem good_appIn (z b off len n need cap : Nat) (new : List Value) : Good (appIn z b off len n need cap new) := by
  unfold appIn
  repeat' (first | with_reducible exact good_pure _ | with_reducible exact good_mstore _ _ | (with_reducible refine good_bind ?_ fun _ => ?_) | rw [forceN_eq] | rw [forceL_eq] | rw [forceI_eq] | rw [forceV_eq] | rw [forceB_eq] | rw [tset8_eq] | split)
theorem good_appOut (el : TypeId) (z b off len need cap : Nat) (new : List Value) : Good (appOut el z b off len need cap new) := by
  unfold appOut
  repeat' (first | with_reducible exact good_fail | with_reducible exact good_set _ _ | with_reducible exact good_mcells _ | with_reducible exact good_grownK _ _ _ _ _ _ _ | (with_reducible refine good_bind ?_ fun _ => ?_) | rw [forceN_eq] | rw [forceL_eq] | rw [forceI_eq] | rw [forceV_eq] | rw [forceB_eq] | rw [tset8_eq] | split)
theorem good_appAt (el : TypeId) (z b off len cap n : Nat) (new : List Value) : Good (appAt el z b off len cap n new) := by
  unfold appAt
  repeat' (first | with_reducible exact good_appIn _ _ _ _ _ _ _ _ | with_reducible exact good_appOut _ _ _ _ _ _ _ _ | (with_reducible refine good_bind ?_ fun _ => ?_) | rw [forceN_eq] | rw [forceL_eq] | rw [forceI_eq] | rw [forceV_eq] | rw [forceB_eq] | rw [tset8_eq] | split)
theorem good_appGo (el : TypeId) (z : Nat) (x : Value) (n : Nat) (new : List Value) : Good (appGo el z x n new) := by
  unfold appGo
  repeat' (first | with_reducible exact good_fail | with_reducible exact good_appNil _ _ _ _ | with_reducible exact good_appAt _ _ _ _ _ _ _ _ | (with_reducible refine good_bind ?_ fun _ => ?_) | rw [forceN_eq] | rw [forceL_eq] | rw [forceI_eq] | rw [forceV_eq] | rw [forceB_eq] | rw [tset8_eq] | split)
theorem good_appendK (at0 : TypeId) (at1 : Option TypeId) (x y : Value) : Good (appendK P at0 at1 x y) := by
  unfold appendK
  repeat' (first | with_reducible exact good_fail | with_reducible exact good_firstK _ _ _ | with_reducible exact good_appGo _ _ _ _ _ | (with_reducible refine good_bind ?_ fun _ => ?_) | rw [forceN_eq] | rw [forceL_eq] | rw [forceI_eq] | rw [forceV_eq] | rw [forceB_eq] | rw [tset8_eq] | split)
theorem good_sliceArr (n size b off : Nat) (lo hi mx : Option Value) : Good (sliceArr n size b off lo hi mx) := by
  unfold sliceArr
  repeat' (first | with_reducible exact good_fail | with_reducible exact good_pure _ | with_reducible exact good_mcells _ | (with_reducible refine good_bind ?_ fun _ => ?_) | rw [forceN_eq] | rw [forceL_eq] | rw [forceI_eq] | rw [forceV_eq] | rw [forceB_eq] | rw [tset8_eq] | split)
theorem good_sliceSl (size b off len cap : Nat) (lo hi mx : Option Value) : Good (sliceSl size b off len cap lo hi mx) := by
  unfold sliceSl
  repeat' (first | with_reducible exact good_fail | with_reducible exact good_pure _ | with_reducible exact good_mcells _ | (with_reducible refine good_bind ?_ fun _ => ?_) | rw [forceN_eq] | rw [forceL_eq] | rw [forceI_eq] | rw [forceV_eq] | rw [forceB_eq] | rw [tset8_eq] | split)
theorem good_slicePl (t : TypeId) (x : Value) (lo hi mx : Option Value) : Good (slicePl P t x lo hi mx) := by
  unfold slicePl
  repeat' (first | with_reducible exact good_fail | with_reducible exact good_mprun _ _ | (with_reducible refine good_bind ?_ fun _ => ?_) | rw [forceN_eq] | rw [forceL_eq] | rw [forceI_eq] | rw [forceV_eq] | rw [forceB_eq] | rw [tset8_eq] | split)
theorem good_sliceK (t : TypeId) (x : Value) (lo hi mx : Option Value) : Good (sliceK P t x lo hi mx) := by
  unfold sliceK
  repeat' (first | with_reducible exact good_fail | with_reducible exact good_sliceArr _ _ _ _ _ _ _ | with_reducible exact good_sliceSl _ _ _ _ _ _ _ _ | with_reducible exact good_slicePl _ _ _ _ _ _ | (with_reducible refine good_bind ?_ fun _ => ?_) | rw [forceN_eq] | rw [forceL_eq] | rw [forceI_eq] | rw [forceV_eq] | rw [forceB_eq] | rw [tset8_eq] | split)
theorem good_mopt (e : En) (y : Option Operand) : Good (mopt e y) := by
  unfold mopt
  repeat' (first | with_reducible exact good_fail | with_reducible exact good_pure _ | (with_reducible refine good_bind ?_ fun _ => ?_) | rw [forceN_eq] | rw [forceL_eq] | rw [forceI_eq] | rw [forceV_eq] | rw [forceB_eq] | rw [tset8_eq] | split)
theorem good_opMove (x : Operand) (e : En) : Good (opMove x e) := by
  unfold opMove
  repeat' (first | with_reducible exact good_maev _ | (with_reducible refine good_bind ?_ fun _ => ?_) | rw [forceN_eq] | rw [forceL_eq] | rw [forceI_eq] | rw [forceV_eq] | rw [forceB_eq] | rw [tset8_eq] | split)
theorem good_opPick (c a b : Operand) (e : En) : Good (opPick c a b e) := by
  unfold opPick
  repeat' (first | with_reducible exact good_fail | with_reducible exact good_maev _ | (with_reducible refine good_bind ?_ fun _ => ?_) | rw [forceN_eq] | rw [forceL_eq] | rw [forceI_eq] | rw [forceV_eq] | rw [forceB_eq] | rw [tset8_eq] | split)
theorem good_opAlloc (t : TypeId) : Good (opAlloc P t) := by
  unfold opAlloc
  repeat' (first | with_reducible exact good_fail | with_reducible exact good_pure _ | with_reducible exact good_mrow _ _ _ | (with_reducible refine good_bind ?_ fun _ => ?_) | rw [forceN_eq] | rw [forceL_eq] | rw [forceI_eq] | rw [forceV_eq] | rw [forceB_eq] | rw [tset8_eq] | split)
theorem good_opBox (t : TypeId) (x : Operand) (e : En) : Good (opBox t x e) := by
  unfold opBox
  repeat' (first | with_reducible exact good_fail | with_reducible exact good_pure _ | with_reducible exact good_mrow _ _ _ | (with_reducible refine good_bind ?_ fun _ => ?_) | rw [forceN_eq] | rw [forceL_eq] | rw [forceI_eq] | rw [forceV_eq] | rw [forceB_eq] | rw [tset8_eq] | split)
theorem good_opBuild (t : TypeId) (parts : Array (Nat × Operand)) (e : En) : Good (opBuild P t parts e) := by
  unfold opBuild
  repeat' (first | with_reducible exact good_fail | with_reducible exact good_pure _ | with_reducible exact good_aevs _ _ | with_reducible exact good_fillK _ _ _ | (with_reducible refine good_bind ?_ fun _ => ?_) | rw [forceN_eq] | rw [forceL_eq] | rw [forceI_eq] | rw [forceV_eq] | rw [forceB_eq] | rw [tset8_eq] | split)
theorem good_opBuildSlice (t : TypeId) (len : Nat) (parts : Array (Nat × Operand)) (e : En) : Good (opBuildSlice P t len parts e) := by
  unfold opBuildSlice
  repeat' (first | with_reducible exact good_fail | with_reducible exact good_pure _ | with_reducible exact good_aevs _ _ | with_reducible exact good_mrow _ _ _ | with_reducible exact good_fillK _ _ _ | (with_reducible refine good_bind ?_ fun _ => ?_) | rw [forceN_eq] | rw [forceL_eq] | rw [forceI_eq] | rw [forceV_eq] | rw [forceB_eq] | rw [tset8_eq] | split)
theorem good_loadK (a : Addr) (x : Option Bool) (y : Option Nat) : Good (loadK a x y) := by
  unfold loadK
  repeat' (first | with_reducible exact good_fail | with_reducible exact good_pure _ | with_reducible exact good_maev _ | with_reducible exact good_mload _ _ | (with_reducible refine good_bind ?_ fun _ => ?_) | rw [forceN_eq] | rw [forceL_eq] | rw [forceI_eq] | rw [forceV_eq] | rw [forceB_eq] | rw [tset8_eq] | split)
theorem good_opLoad (t : TypeId) (a : Operand) (e : En) : Good (opLoad P t a e) := by
  unfold opLoad
  repeat' (first | with_reducible exact good_fail | with_reducible exact good_loadK _ _ _ | (with_reducible refine good_bind ?_ fun _ => ?_) | rw [forceN_eq] | rw [forceL_eq] | rw [forceI_eq] | rw [forceV_eq] | rw [forceB_eq] | rw [tset8_eq] | split)
theorem good_opStore (t : TypeId) (a x : Operand) (e : En) : Good (opStore P t a x e) := by
  unfold opStore
  repeat' (first | with_reducible exact good_fail | with_reducible exact good_pure _ | with_reducible exact good_mstore _ _ | (with_reducible refine good_bind ?_ fun _ => ?_) | rw [forceN_eq] | rw [forceL_eq] | rw [forceI_eq] | rw [forceV_eq] | rw [forceB_eq] | rw [tset8_eq] | split)
theorem good_opNilCheck (x : Operand) (e : En) : Good (opNilCheck x e) := by
  unfold opNilCheck
  repeat' (first | with_reducible exact good_fail | with_reducible exact good_pure _ | (with_reducible refine good_bind ?_ fun _ => ?_) | rw [forceN_eq] | rw [forceL_eq] | rw [forceI_eq] | rw [forceV_eq] | rw [forceB_eq] | rw [tset8_eq] | split)
theorem good_wrapK (k : IntKind) (n : Int) : Good (wrapK k n) := by
  unfold wrapK
  repeat' (first | with_reducible exact good_pure _ | (with_reducible refine good_bind ?_ fun _ => ?_) | rw [forceN_eq] | rw [forceL_eq] | rw [forceI_eq] | rw [forceV_eq] | rw [forceB_eq] | rw [tset8_eq] | split)
theorem good_nilV (op : BinOp) (d : Option TypeDesc) (a b : Value) : Good (nilV op d a b) := by
  unfold nilV
  repeat' (first | with_reducible exact good_fail | with_reducible exact good_pure _ | (with_reducible refine good_bind ?_ fun _ => ?_) | rw [forceN_eq] | rw [forceL_eq] | rw [forceI_eq] | rw [forceV_eq] | rw [forceB_eq] | rw [tset8_eq] | split)
theorem good_binV (op : BinOp) (t : TypeId) (x y : Operand) (a b : Value) : Good (binV P op t x y a b) := by
  unfold binV
  repeat' (first | with_reducible exact good_mprun _ _ | with_reducible exact good_nilV _ _ _ _ | (with_reducible refine good_bind ?_ fun _ => ?_) | rw [forceN_eq] | rw [forceL_eq] | rw [forceI_eq] | rw [forceV_eq] | rw [forceB_eq] | rw [tset8_eq] | split)
theorem good_cmpV (c : Int → Int → Bool) (op : BinOp) (t : TypeId) (x y : Operand) (a b : Value) : Good (cmpV P c op t x y a b) := by
  unfold cmpV
  repeat' (first | with_reducible exact good_fail | with_reducible exact good_pure _ | with_reducible exact good_binV _ _ _ _ _ _ _ | (with_reducible refine good_bind ?_ fun _ => ?_) | rw [forceN_eq] | rw [forceL_eq] | rw [forceI_eq] | rw [forceV_eq] | rw [forceB_eq] | rw [tset8_eq] | split)
theorem good_arithV (c : Int → Int → Int) (op : BinOp) (t : TypeId) (x y : Operand) (a b : Value) : Good (arithV P c op t x y a b) := by
  unfold arithV
  repeat' (first | with_reducible exact good_fail | with_reducible exact good_pure _ | with_reducible exact good_wrapK _ _ | with_reducible exact good_binV _ _ _ _ _ _ _ | (with_reducible refine good_bind ?_ fun _ => ?_) | rw [forceN_eq] | rw [forceL_eq] | rw [forceI_eq] | rw [forceV_eq] | rw [forceB_eq] | rw [tset8_eq] | split)
theorem good_binD (op : BinOp) (t : TypeId) (x y : Operand) (a b : Value) : Good (binD P op t x y a b) := by
  unfold binD
  repeat' (first | with_reducible exact good_binV _ _ _ _ _ _ _ | with_reducible exact good_cmpV _ _ _ _ _ _ _ _ | with_reducible exact good_arithV _ _ _ _ _ _ _ _ | (with_reducible refine good_bind ?_ fun _ => ?_) | rw [forceN_eq] | rw [forceL_eq] | rw [forceI_eq] | rw [forceV_eq] | rw [forceB_eq] | rw [tset8_eq] | split)
theorem good_opBin (op : BinOp) (t : TypeId) (x y : Operand) (e : En) : Good (opBin P op t x y e) := by
  unfold opBin
  repeat' (first | with_reducible exact good_fail | with_reducible exact good_binD _ _ _ _ _ _ _ | (with_reducible refine good_bind ?_ fun _ => ?_) | rw [forceN_eq] | rw [forceL_eq] | rw [forceI_eq] | rw [forceV_eq] | rw [forceB_eq] | rw [tset8_eq] | split)
theorem good_opUnOp (op : UnOp) (x : Operand) (e : En) : Good (opUnOp P op x e) := by
  unfold opUnOp
  repeat' (first | with_reducible exact good_fail | with_reducible exact good_mprun _ _ | (with_reducible refine good_bind ?_ fun _ => ?_) | rw [forceN_eq] | rw [forceL_eq] | rw [forceI_eq] | rw [forceV_eq] | rw [forceB_eq] | rw [tset8_eq] | split)
theorem good_convStr (src dst : TypeId) (b : ByteArray) : Good (convStr P src dst b) := by
  unfold convStr
  repeat' (first | with_reducible exact good_fail | with_reducible exact good_pure _ | with_reducible exact good_mrow _ _ _ | with_reducible exact good_mprun _ _ | (with_reducible refine good_bind ?_ fun _ => ?_) | rw [forceN_eq] | rw [forceL_eq] | rw [forceI_eq] | rw [forceV_eq] | rw [forceB_eq] | rw [tset8_eq] | split)
theorem good_strOf (vs : List Value) : Good (strOf vs) := by
  unfold strOf
  repeat' (first | with_reducible exact good_fail | with_reducible exact good_pure _ | (with_reducible refine good_bind ?_ fun _ => ?_) | rw [forceN_eq] | rw [forceL_eq] | rw [forceI_eq] | rw [forceV_eq] | rw [forceB_eq] | rw [tset8_eq] | split)
theorem good_convSl (src dst : TypeId) (a : Addr) (n c : Nat) : Good (convSl P src dst a n c) := by
  unfold convSl
  repeat' (first | with_reducible exact good_fail | with_reducible exact good_pure _ | with_reducible exact good_mcells _ | with_reducible exact good_mload _ _ | with_reducible exact good_strOf _ | (with_reducible refine good_bind ?_ fun _ => ?_) | rw [forceN_eq] | rw [forceL_eq] | rw [forceI_eq] | rw [forceV_eq] | rw [forceB_eq] | rw [tset8_eq] | split)
theorem good_convPtr (src dst : TypeId) (b off : Nat) : Good (convPtr P src dst b off) := by
  unfold convPtr
  repeat' (first | with_reducible exact good_fail | with_reducible exact good_pure _ | with_reducible exact good_mcells _ | (with_reducible refine good_bind ?_ fun _ => ?_) | rw [forceN_eq] | rw [forceL_eq] | rw [forceI_eq] | rw [forceV_eq] | rw [forceB_eq] | rw [tset8_eq] | split)
theorem good_opConvert (src dst : TypeId) (x : Operand) (e : En) : Good (opConvert P src dst x e) := by
  unfold opConvert
  repeat' (first | with_reducible exact good_fail | with_reducible exact good_mprun _ _ | with_reducible exact good_convStr _ _ _ _ | with_reducible exact good_convSl _ _ _ _ _ _ | with_reducible exact good_convPtr _ _ _ _ _ | (with_reducible refine good_bind ?_ fun _ => ?_) | rw [forceN_eq] | rw [forceL_eq] | rw [forceI_eq] | rw [forceV_eq] | rw [forceB_eq] | rw [tset8_eq] | split)
theorem good_opMakeInterface (t : TypeId) (x : Operand) (e : En) : Good (opMakeInterface P t x e) := by
  unfold opMakeInterface
  repeat' (first | with_reducible exact good_fail | with_reducible exact good_pure _ | with_reducible exact good_maev _ | (with_reducible refine good_bind ?_ fun _ => ?_) | rw [forceN_eq] | rw [forceL_eq] | rw [forceI_eq] | rw [forceV_eq] | rw [forceB_eq] | rw [tset8_eq] | split)
theorem good_opMakeFunc (fn : Fn) (a b : Array Operand) (e : En) : Good (opMakeFunc fn a b e) := by
  unfold opMakeFunc
  repeat' (first | with_reducible exact good_fail | with_reducible exact good_pure _ | with_reducible exact good_aevs _ _ | (with_reducible refine good_bind ?_ fun _ => ?_) | rw [forceN_eq] | rw [forceL_eq] | rw [forceI_eq] | rw [forceV_eq] | rw [forceB_eq] | rw [tset8_eq] | split)
theorem good_opMakeMap (r : Option Operand) : Good (opMakeMap r) := by
  unfold opMakeMap
  repeat' (first | with_reducible exact good_fail | with_reducible exact good_pure _ | with_reducible exact good_new _ | (with_reducible refine good_bind ?_ fun _ => ?_) | rw [forceN_eq] | rw [forceL_eq] | rw [forceI_eq] | rw [forceV_eq] | rw [forceB_eq] | rw [tset8_eq] | split)
theorem good_opMakeSlice (t : TypeId) (l c : Operand) (e : En) : Good (opMakeSlice P t l c e) := by
  unfold opMakeSlice
  repeat' (first | with_reducible exact good_fail | with_reducible exact good_pure _ | with_reducible exact good_mrow _ _ _ | (with_reducible refine good_bind ?_ fun _ => ?_) | rw [forceN_eq] | rw [forceL_eq] | rw [forceI_eq] | rw [forceV_eq] | rw [forceB_eq] | rw [tset8_eq] | split)
theorem good_opSlice (t : TypeId) (x : Operand) (lo hi mx : Option Operand) (e : En) : Good (opSlice P t x lo hi mx e) := by
  unfold opSlice
  repeat' (first | with_reducible exact good_maev _ | with_reducible exact good_sliceK _ _ _ _ _ _ | with_reducible exact good_mopt _ _ | (with_reducible refine good_bind ?_ fun _ => ?_) | rw [forceN_eq] | rw [forceL_eq] | rw [forceI_eq] | rw [forceV_eq] | rw [forceB_eq] | rw [tset8_eq] | split)
theorem good_ptrTo (a : Addr) (n : Nat) : Good (ptrTo a n) := by
  unfold ptrTo
  repeat' (first | with_reducible exact good_pure _ | with_reducible exact good_addA _ _ | (with_reducible refine good_bind ?_ fun _ => ?_) | rw [forceN_eq] | rw [forceL_eq] | rw [forceI_eq] | rw [forceV_eq] | rw [forceB_eq] | rw [tset8_eq] | split)
theorem good_opFieldAddr (t : TypeId) (x : Operand) (f : Nat) (e : En) : Good (opFieldAddr P t x f e) := by
  unfold opFieldAddr
  repeat' (first | with_reducible exact good_fail | with_reducible exact good_ptrTo _ _ | (with_reducible refine good_bind ?_ fun _ => ?_) | rw [forceN_eq] | rw [forceL_eq] | rw [forceI_eq] | rw [forceV_eq] | rw [forceB_eq] | rw [tset8_eq] | split)
theorem good_opField (t : TypeId) (x : Operand) (f : Nat) (e : En) : Good (opField P t x f e) := by
  unfold opField
  repeat' (first | with_reducible exact good_fail | with_reducible exact good_partK _ _ _ _ | (with_reducible refine good_bind ?_ fun _ => ?_) | rw [forceN_eq] | rw [forceL_eq] | rw [forceI_eq] | rw [forceV_eq] | rw [forceB_eq] | rw [tset8_eq] | split)
theorem good_opIndexAddr (t : TypeId) (x ix : Operand) (e : En) : Good (opIndexAddr P t x ix e) := by
  unfold opIndexAddr
  repeat' (first | with_reducible exact good_fail | with_reducible exact good_ptrTo _ _ | (with_reducible refine good_bind ?_ fun _ => ?_) | rw [forceN_eq] | rw [forceL_eq] | rw [forceI_eq] | rw [forceV_eq] | rw [forceB_eq] | rw [tset8_eq] | split)
theorem good_opIndex (t : TypeId) (x ix : Operand) (e : En) : Good (opIndex P t x ix e) := by
  unfold opIndex
  repeat' (first | with_reducible exact good_fail | with_reducible exact good_partK _ _ _ _ | with_reducible exact good_mprun _ _ | (with_reducible refine good_bind ?_ fun _ => ?_) | rw [forceN_eq] | rw [forceL_eq] | rw [forceI_eq] | rw [forceV_eq] | rw [forceB_eq] | rw [tset8_eq] | split)
theorem good_foundV (ok : Bool) (v : Value) (b : Bool) : Good (foundV ok v b) := by
  unfold foundV
  repeat' (first | with_reducible exact good_fail | with_reducible exact good_pure _ | (with_reducible refine good_bind ?_ fun _ => ?_) | rw [forceN_eq] | rw [forceL_eq] | rw [forceI_eq] | rw [forceV_eq] | rw [forceB_eq] | rw [tset8_eq] | split)
theorem good_lookIn (t : TypeId) (k : Value) (ok : Bool) (o : Obj) : Good (lookIn P t k ok o) := by
  unfold lookIn
  repeat' (first | with_reducible exact good_fail | with_reducible exact good_foundV _ _ _ | (with_reducible refine good_bind ?_ fun _ => ?_) | rw [forceN_eq] | rw [forceL_eq] | rw [forceI_eq] | rw [forceV_eq] | rw [forceB_eq] | rw [tset8_eq] | split)
theorem good_opLookup (t : TypeId) (x ix : Operand) (ok : Bool) (e : En) : Good (opLookup P t x ix ok e) := by
  unfold opLookup
  repeat' (first | with_reducible exact good_fail | with_reducible exact good_get _ | with_reducible exact good_lookIn _ _ _ _ _ | (with_reducible refine good_bind ?_ fun _ => ?_) | rw [forceN_eq] | rw [forceL_eq] | rw [forceI_eq] | rw [forceV_eq] | rw [forceB_eq] | rw [tset8_eq] | split)
theorem good_putIn (t : TypeId) (r : Nat) (k v : Value) (o : Obj) : Good (putIn P t r k v o) := by
  unfold putIn
  repeat' (first | with_reducible exact good_fail | with_reducible exact good_pure _ | with_reducible exact good_set _ _ | (with_reducible refine good_bind ?_ fun _ => ?_) | rw [forceN_eq] | rw [forceL_eq] | rw [forceI_eq] | rw [forceV_eq] | rw [forceB_eq] | rw [tset8_eq] | split)
theorem good_opMapUpdate (t : TypeId) (m k x : Operand) (e : En) : Good (opMapUpdate P t m k x e) := by
  unfold opMapUpdate
  repeat' (first | with_reducible exact good_fail | with_reducible exact good_get _ | with_reducible exact good_putIn _ _ _ _ _ _ | (with_reducible refine good_bind ?_ fun _ => ?_) | rw [forceN_eq] | rw [forceL_eq] | rw [forceI_eq] | rw [forceV_eq] | rw [forceB_eq] | rw [tset8_eq] | split)
theorem good_assertV (t u : TypeId) (ok : Bool) (v : Value) : Good (assertV P t u ok v) := by
  unfold assertV
  repeat' (first | with_reducible exact good_fail | with_reducible exact good_pure _ | (with_reducible refine good_bind ?_ fun _ => ?_) | rw [forceN_eq] | rw [forceL_eq] | rw [forceI_eq] | rw [forceV_eq] | rw [forceB_eq] | rw [tset8_eq] | split)
theorem good_opTypeAssert (x : Operand) (t : TypeId) (ok : Bool) (e : En) : Good (opTypeAssert P x t ok e) := by
  unfold opTypeAssert
  repeat' (first | with_reducible exact good_fail | with_reducible exact good_assertV _ _ _ _ _ | (with_reducible refine good_bind ?_ fun _ => ?_) | rw [forceN_eq] | rw [forceL_eq] | rw [forceI_eq] | rw [forceV_eq] | rw [forceB_eq] | rw [tset8_eq] | split)
theorem good_opExtract (t : Operand) (i : Nat) (e : En) : Good (opExtract t i e) := by
  unfold opExtract
  repeat' (first | with_reducible exact good_fail | with_reducible exact good_maev _ | (with_reducible refine good_bind ?_ fun _ => ?_) | rw [forceN_eq] | rw [forceL_eq] | rw [forceI_eq] | rw [forceV_eq] | rw [forceB_eq] | rw [tset8_eq] | split)
theorem good_biLen (t : TypeId) (x : Value) : Good (biLen P t x) := by
  unfold biLen
  repeat' (first | with_reducible exact good_fail | with_reducible exact good_pure _ | (with_reducible refine good_bind ?_ fun _ => ?_) | rw [forceN_eq] | rw [forceL_eq] | rw [forceI_eq] | rw [forceV_eq] | rw [forceB_eq] | rw [tset8_eq] | split)
theorem good_biCap (t : TypeId) (x : Value) : Good (biCap P t x) := by
  unfold biCap
  repeat' (first | with_reducible exact good_fail | with_reducible exact good_pure _ | with_reducible exact good_mcells _ | (with_reducible refine good_bind ?_ fun _ => ?_) | rw [forceN_eq] | rw [forceL_eq] | rw [forceI_eq] | rw [forceV_eq] | rw [forceB_eq] | rw [tset8_eq] | split)
theorem good_biClear (t : TypeId) (x : Value) : Good (biClear P t x) := by
  unfold biClear
  repeat' (first | with_reducible exact good_fail | with_reducible exact good_pure _ | with_reducible exact good_mstore _ _ | (with_reducible refine good_bind ?_ fun _ => ?_) | rw [forceN_eq] | rw [forceL_eq] | rw [forceI_eq] | rw [forceV_eq] | rw [forceB_eq] | rw [tset8_eq] | split)
theorem good_biCopy (t : TypeId) (x y : Value) : Good (biCopy P t x y) := by
  unfold biCopy
  repeat' (first | with_reducible exact good_fail | with_reducible exact good_pure _ | with_reducible exact good_mstore _ _ | with_reducible exact good_firstK _ _ _ | (with_reducible refine good_bind ?_ fun _ => ?_) | rw [forceN_eq] | rw [forceL_eq] | rw [forceI_eq] | rw [forceV_eq] | rw [forceB_eq] | rw [tset8_eq] | split)
theorem good_biPl (vs : List Value) (x : Sem Value) : Good (biPl P vs x) := by
  unfold biPl
  repeat' (first | with_reducible exact good_fail | with_reducible exact good_mprun _ _ | (with_reducible refine good_bind ?_ fun _ => ?_) | rw [forceN_eq] | rw [forceL_eq] | rw [forceI_eq] | rw [forceV_eq] | rw [forceB_eq] | rw [tset8_eq] | split)
theorem good_biltin (ty : TypeId) (b : Builtin) (ts : List TypeId) (vs : List Value) : Good (biltin P ty b ts vs) := by
  unfold biltin
  repeat' (first | with_reducible exact good_fail | with_reducible exact good_appendK _ _ _ _ _ | with_reducible exact good_biLen _ _ _ | with_reducible exact good_biCap _ _ _ | with_reducible exact good_biClear _ _ _ | with_reducible exact good_biCopy _ _ _ _ | with_reducible exact good_biPl _ _ _ | (with_reducible refine good_bind ?_ fun _ => ?_) | rw [forceN_eq] | rw [forceL_eq] | rw [forceI_eq] | rw [forceV_eq] | rw [forceB_eq] | rw [tset8_eq] | split)
theorem good_opBuiltin (ty : TypeId) (b : Builtin) (args : Array Operand) (ts : Array TypeId) (e : En) : Good (opBuiltin P ty b args ts e) := by
  unfold opBuiltin
  repeat' (first | with_reducible exact good_aevs _ _ | with_reducible exact good_biltin _ _ _ _ _ | (with_reducible refine good_bind ?_ fun _ => ?_) | rw [forceN_eq] | rw [forceL_eq] | rw [forceI_eq] | rw [forceV_eq] | rw [forceB_eq] | rw [tset8_eq] | split)
theorem good_deferV (fv : Value) (vs : List Value) : Good (deferV fv vs) := by
  unfold deferV
  repeat' (first | with_reducible exact good_fail | with_reducible exact good_pure _ | (with_reducible refine good_bind ?_ fun _ => ?_) | rw [forceN_eq] | rw [forceL_eq] | rw [forceI_eq] | rw [forceV_eq] | rw [forceB_eq] | rw [tset8_eq] | split)
theorem good_opDefer (f : Operand) (args : Array Operand) (e : En) : Good (opDefer f args e) := by
  unfold opDefer
  repeat' (first | with_reducible exact good_maev _ | with_reducible exact good_aevs _ _ | with_reducible exact good_deferV _ _ | (with_reducible refine good_bind ?_ fun _ => ?_) | rw [forceN_eq] | rw [forceL_eq] | rw [forceI_eq] | rw [forceV_eq] | rw [forceB_eq] | rw [tset8_eq] | split)
end Go.Proofs.YtpijenlmfmknnaaGreatDoor

/- Code and calls of the reckoner keep to what they mark, where the hooks do. No program. -/
namespace Go.Proofs.YtpijenlmfmknnaaGreatDoor
set_option linter.unusedVariables false
variable (P : Program)

theorem good_direct {F : M Value} (hF : Good F) : Good (mcall fun s => F.run s fun v s => some (v, s)) := by
  have key : ∀ {γ : Type} (s : Hp) (J : Value → Hp → Option γ) (a : Value) (s' : Hp), (∀ {γ : Type} (J : Value → Hp → Option γ), F.run s J = J a s') →
      (mcall fun s => F.run s fun v s => some (v, s)).run s J = J a s' := by
    intro γ s J a s' e
    show (match F.run s fun v s => some (v, s) with | some (v, s) => J v s | none => none) = _
    rw [e fun v s => some (v, s)]
  refine ⟨fun {β} s K x h => ?_⟩
  have hs : ∃ y, F.run s (fun v s => some (v, s)) = some y := by
    cases hc : F.run s (fun v s => some (v, s)) with
    | some y => exact ⟨y, rfl⟩
    | none =>
      have : (mcall fun s => F.run s fun v s => some (v, s)).run s K = none := by
        show (match F.run s fun v s => some (v, s) with | some (v, s) => K v s | none => none) = _
        rw [hc]
      rw [this] at h
      cases h
  obtain ⟨y, hy⟩ := hs
  obtain ⟨a, s', r, q, e, f, g⟩ := hF.ok s _ y hy
  refine ⟨a, s', r, q, fun J => key s J a s' e, f, fun g0 hg => ?_⟩
  obtain ⟨g', hp, eg⟩ := g g0 hg
  exact ⟨g', hp, fun J => key g0 J a g' eg⟩
theorem good_same {v : Value} : Good (mcall fun s => some (v, s)) := good_pure v

def GoodE (E : Callee') : Prop := ∀ f vs, Good (mcall (E f vs))
def GoodH (X : Hook) : Prop := ∀ f vs F, X f vs = some F → Good (mcall F)
theorem good_opCallV {E : Callee'} (hE : GoodE E) (f : Operand) (args : Array Operand) (e : En) : Good (opCallV E f args e) := by
  unfold opCallV
  refine good_bind (good_maev _) fun fv => good_bind (good_aevs _ _) fun vs => ?_
  split
  · rw [forceL_eq]; exact hE _ _
  · exact good_fail
theorem good_opCallI {E : Callee'} (hE : GoodE E) (r : Operand) (name : String) (args : Array Operand) (e : En) : Good (opCallI P E r name args e) := by
  unfold opCallI
  split
  · refine good_bind (good_aevs _ _) fun vs => ?_
    split
    · exact hE _ _
    · exact good_fail
  · exact good_fail
theorem good_disp {E : Callee'} (hE : GoodE E) (o : Oper) (e : En) (ds : List Deferred) : Good ((disp P o).f E e ds) := by
  have pd : ∀ F : En → M Value, (∀ e, Good (F e)) → Good ((pureD F).f E e ds) := fun F h => good_bind (h e) fun v => good_pure _
  unfold disp
  split
  · (apply pd; intro e; exact good_opMove _ _)
  · (apply pd; intro e; exact good_opMove _ _)
  · (apply pd; intro e; exact good_opPick _ _ _ _)
  · (apply pd; intro e; exact good_opAlloc _ _)
  · (apply pd; intro e; exact good_opBox _ _ _)
  · (apply pd; intro e; exact good_opBuild _ _ _ _)
  · (apply pd; intro e; exact good_opBuildSlice _ _ _ _ _)
  · (apply pd; intro e; exact good_opLoad _ _ _ _)
  · (apply pd; intro e; exact good_opStore _ _ _ _ _)
  · (apply pd; intro e; exact good_opNilCheck _ _)
  · (apply pd; intro e; exact good_opBin _ _ _ _ _ _)
  · (apply pd; intro e; exact good_opUnOp _ _ _ _)
  · (apply pd; intro e; exact good_opConvert _ _ _ _ _)
  · (apply pd; intro e; exact good_opMakeInterface _ _ _ _)
  · (apply pd; intro e; exact good_opMakeFunc _ _ _ _)
  · (apply pd; intro e; exact good_opMakeMap _)
  · (apply pd; intro e; exact good_opMakeSlice _ _ _ _ _)
  · (apply pd; intro e; exact good_opSlice _ _ _ _ _ _ _)
  · (apply pd; intro e; exact good_opFieldAddr _ _ _ _ _)
  · (apply pd; intro e; exact good_opField _ _ _ _ _)
  · (apply pd; intro e; exact good_opIndexAddr _ _ _ _ _)
  · (apply pd; intro e; exact good_opIndex _ _ _ _ _)
  · (apply pd; intro e; exact good_opLookup _ _ _ _ _ _)
  · (apply pd; intro e; exact good_opMapUpdate _ _ _ _ _ _)
  · (apply pd; intro e; exact good_opMapUpdate _ _ _ _ _ _)
  · (apply pd; intro e; exact good_opTypeAssert _ _ _ _ _)
  · (apply pd; intro e; exact good_opExtract _ _ _)
  · (apply pd; intro e; exact good_opBuiltin _ _ _ _ _ _)
  · exact good_bind (good_opCallV hE _ _ _) fun v => good_pure _
  · exact good_bind (good_opCallI P hE _ _ _ _) fun v => good_pure _
  · exact good_bind (good_opDefer _ _ _) fun v => good_pure _
  · exact good_fail
theorem good_putK (N : Nat) (t : TT) (d : Option Tmp) (v : Value) : Good (putK N t d v) := by
  unfold putK
  split
  · exact good_pure _
  · split
    · rw [tset8_eq]; exact good_pure _
    · exact good_fail
theorem good_opK {E : Callee'} (hE : GoodE E) (N : Nat) (ops : Array Oper) (o : Oper) (a : Ac) : Good (opK P E N ops o a) := by
  unfold opK
  obtain ⟨t, ds⟩ := a
  simp only []
  split
  · exact good_fail
  · exact good_bind (good_putK _ _ _ _) fun t => good_pure _
  · exact good_bind (good_disp P hE o _ ds) fun x => good_bind (good_putK _ _ _ _) fun t => good_pure _
theorem good_opsK {E : Callee'} (hE : GoodE E) (N : Nat) (ops : Array Oper) : ∀ (l : List Oper) (a : Ac), Good (opsK P E N ops l a)
  | [], a => good_pure a
  | o :: l, a => good_bind (good_opK P hE N ops o a) fun a => good_opsK hE N ops l a

theorem mtrk_eq {α γ : Type} (F : M α) (s : Hp) (J : α × Nat × Nat → Hp → Option γ) :
    (mtrk F).run s J = F.run ⟨s.h, s.n, 0, 0⟩ fun a s' => J (a, s'.rd, s'.wr) ⟨s'.h, s'.n, s.rd ||| s'.rd, s.wr ||| s'.wr⟩ := by
  obtain ⟨h, n, rd, wr⟩ := s
  show (F.run ⟨h, n, 0, 0⟩ fun a s => _) = _
  congr 1
  funext a s'
  obtain ⟨h', n', r, q⟩ := s'
  exact (forceN_eq _ _).trans (forceN_eq _ _)
theorem good_mtrk {α : Type} {F : M α} (hF : Good F) : Good (mtrk F) := by
  refine ⟨fun {β} s K x h => ?_⟩
  rw [mtrk_eq] at h
  obtain ⟨a, s', r, q, e, f, g⟩ := hF.ok _ _ x h
  have hr : s'.rd = r := by rw [f.rd]; simp
  have hq : s'.wr = q := by rw [f.wr]; simp
  refine ⟨(a, r, q), ⟨s'.h, s'.n, s.rd ||| r, s.wr ||| q⟩, r, q, fun J => ?_, ⟨f.n, rfl, rfl, fun id h => f.off id h, fun id h1 h2 => f.new id h1 h2⟩, fun g0 hg => ?_⟩
  · rw [mtrk_eq, e, hr, hq]
  · obtain ⟨g', hp, eg⟩ := g ⟨g0.h, g0.n, 0, 0⟩ ⟨hg.n, fun id h => hg.on id h⟩
    have hr' : g'.rd = r := by rw [hp.rd]; simp
    have hq' : g'.wr = q := by rw [hp.wr]; simp
    refine ⟨⟨g'.h, g'.n, g0.rd ||| r, g0.wr ||| q⟩, ⟨hp.n, rfl, rfl, fun id h => hp.on id h, fun id h => hp.off id h⟩, fun J => ?_⟩
    rw [mtrk_eq, eg, hr', hq']
theorem good_drawK {E : Callee'} (hE : GoodE E) (N : Nat) (ops : Array Oper) (ds : List Deferred) : ∀ (l : List Oper) (bef : List Nat) (k : Nat) (acc : List Trk) (t : TT), Good (drawK P E N ops ds l bef k acc t)
  | [], bef, k, acc, t => good_pure t
  | o :: l, bef, k, acc, t => by
    unfold drawK
    refine good_bind (good_mtrk (good_opK P hE N ops o _)) fun x => ?_
    obtain ⟨⟨t', ds'⟩, r, q⟩ := x
    simp only []
    split
    · rw [forceN_eq]; exact good_drawK hE N ops ds l _ _ _ _
    · exact good_fail
theorem good_evStep {Ev : EvT} {E : Callee'} (hv : ∀ c N a, Good (Ev c N a)) (hE : GoodE E) (c : Code) (N : Nat) (a : Ac) : Good (evStep P Ev E c N a) := by
  have hseq : ∀ b N x, Good (cdSeq Ev b N x) := by
    intro b N x
    unfold cdSeq
    split
    · exact hv _ _ _
    · exact good_pure _
  show Good ((stp P c).f Ev E N a)
  unfold stp
  split
  · exact good_pure _
  · exact good_pure _
  · exact good_bind (good_opsK P hE _ _ _ _) fun _ => good_pure _
  · show Good (cdDraw P E _ N a)
    unfold cdDraw
    split
    · exact good_bind (good_drawK P hE _ _ _ _ _ _ _ _) fun _ => good_pure _
    · exact good_fail
  · exact good_bind (hv _ _ _) fun _ => hseq _ _ _
  · show Good (cdCond Ev _ _ _ N a)
    unfold cdCond
    split
    · exact hv _ _ _
    · exact hv _ _ _
    · exact good_fail
  · refine good_bind (hv _ _ _) fun _ => ?_
    unfold cdBlock
    split
    · split <;> exact good_pure _
    · exact good_pure _
  · exact good_bind (hv _ _ _) fun _ => hseq _ _ _
  · refine good_bind (hv _ _ _) fun _ => ?_
    unfold cdScope
    split
    · exact good_fail
    · exact good_pure _
  · exact good_pure _
  · exact good_pure _
  · exact good_fail
theorem good_resK (t : TT) : ∀ l, Good (resK P t l)
  | [] => good_pure _
  | .tmp k :: l => by
    unfold resK
    split
    · exact good_bind (good_resK t l) fun _ => good_pure _
    · exact good_fail
  | .cell a ty :: l => by
    unfold resK
    split
    · exact good_bind (good_loadK _ _ _) fun _ => good_bind (good_resK t l) fun _ => good_pure _
    · exact good_fail
theorem good_argsT : ∀ (l : List Value) (t : TT) (k : Nat), Good (argsT t k l)
  | [], t, k => by unfold argsT; exact good_pure _
  | v :: l, t, k => by
    unfold argsT
    refine good_bind ?_ fun t => ?_
    · rw [tset8_eq]; exact good_pure _
    · rw [forceN_eq]; exact good_argsT l _ _
theorem good_defsK {D : Hook} {E : Callee'} (hD : GoodH D) (hE : GoodE E) : ∀ ds, Good (defsK D E ds)
  | [] => good_pure _
  | d :: ds => by
    refine good_bind ?_ fun _ => good_defsK hD hE ds
    unfold defK
    split
    · rw [forceL_eq]
      split
      · rename_i F hF
        exact hD _ _ _ hF
      · exact hE _ _
    · exact good_fail
theorem good_callK {X D : Hook} {Ev : EvT} {E : Callee'} (hX : GoodH X) (hD : GoodH D) (hv : ∀ c N a, Good (Ev c N a)) (hE : GoodE E) : GoodE (callK P X D Ev E) := by
  intro f vs
  have h1 : ∀ fn, Good (enterK P D Ev E fn vs) := by
    intro fn
    unfold enterK
    split
    · refine good_bind (good_argsT _ _ _) fun t => good_bind (hv _ _ _) fun x => ?_
      unfold leaveK
      split
      · exact good_bind (good_defsK hD hE _) fun _ => good_bind (good_resK P _ _) fun _ => good_pure _
      · exact good_bind (good_defsK hD hE _) fun _ => good_bind (good_resK P _ _) fun _ => good_pure _
      · exact good_fail
    · exact good_fail
  cases hx : X f vs with
  | some F =>
    have : callK P X D Ev E f vs = F := by funext s; unfold callK; rw [hx]
    rw [this]; exact hX _ _ _ hx
  | none =>
    cases hf : P.funcs[f]? with
    | none =>
      have : callK P X D Ev E f vs = fun _ => none := by funext s; unfold callK; rw [hx, hf]
      rw [this]; exact good_fail
    | some fn =>
      have : callK P X D Ev E f vs = fun s => (enterK P D Ev E fn vs).run s fun v s => some (v, s) := by funext s; unfold callK; rw [hx, hf]
      rw [this]; exact good_direct (h1 fn)
theorem good_callD {X : Hook} {Ev : EvT} (hv : ∀ c N a, Good (Ev c N a)) : GoodE (callD P X Ev) := by
  intro f vs
  have h1 : ∀ fn, Good (enterD P Ev fn vs) := by
    intro fn
    unfold enterD
    split
    · refine good_bind (good_argsT _ _ _) fun t => good_bind (hv _ _ _) fun x => ?_
      unfold leaveD
      split
      · exact good_bind (good_resK P _ _) fun _ => good_pure _
      · exact good_bind (good_resK P _ _) fun _ => good_pure _
      · exact good_fail
    · exact good_fail
  cases hx : X f vs with
  | some F =>
    have : callD P X Ev f vs = fun _ => none := by funext s; unfold callD; rw [hx]
    rw [this]; exact good_fail
  | none =>
    cases hf : P.funcs[f]? with
    | none =>
      have : callD P X Ev f vs = fun _ => none := by funext s; unfold callD; rw [hx, hf]
      rw [this]; exact good_fail
    | some fn =>
      have : callD P X Ev f vs = fun s => (enterD P Ev fn vs).run s fun v s => some (v, s) := by funext s; unfold callD; rw [hx, hf]
      rw [this]; exact good_direct (h1 fn)
theorem good_ev {X D : Hook} (hX : GoodH X) (hD : GoodH D) : ∀ n c N a, Good (ev P X D n c N a)
  | 0, c, N, a => good_fail
  | n + 1, c, N, a => good_evStep P (good_ev hX hD n) (good_callK P hX hD (good_ev hX hD n) (good_callD P (good_ev hX hD n))) c N a
theorem good_call {X D : Hook} (hX : GoodH X) (hD : GoodH D) (n : Nat) : GoodE (call P X D n) :=
  good_callK P hX hD (good_ev P hX hD n) (good_callD P (good_ev P hX hD n))
end Go.Proofs.YtpijenlmfmknnaaGreatDoor

/- Cells loaded, stored and laid in memory, and what stays of the store's likeness. No program. -/
namespace Go.Proofs.YtpijenlmfmknnaaGreatDoor
open Go.RowKit
set_option linter.unusedVariables false
variable {P : Program}

theorem add_at (b o i : Nat) : (⟨b, o, none⟩ : Addr).add i = ⟨b, o + i, none⟩ := by
  unfold Addr.add
  split
  · rename_i h; subst h; rfl
  · rfl
theorem cell_at {w : World} {b : Nat} {c : Array Value} {t : TypeId} {fz : Nat × Nat} (h : w.heap[b]? = some (.cells c t fz)) (o : Nat) : w.cell? ⟨b, o, none⟩ = c[o]? := by
  simp [World.cell?, h]
theorem load_run {w : World} {b : Nat} {c : Array Value} {t : TypeId} {fz : Nat × Nat} (h : w.heap[b]? = some (.cells c t fz)) (o : Nat) (cs : List Value)
    (hc : ∀ (j : Nat) v, cs[j]? = some v → c[o + j]? = some v) : (loadCells ⟨b, o, none⟩ cs.length).run P w = .ok cs.toArray w :=
  run_loadCells_list w _ cs fun j v hj => by rw [add_at, cell_at h]; exact hc j v hj

/-- The same world but for one block's cells. -/
structure Tw (w w' : World) (b : Nat) : Prop where
  os : w'.os = w.os
  tape : w'.tape = w.tape
  output : w'.output = w.output
  size : w'.heap.size = w.heap.size
  other : ∀ x, x ≠ b → w'.heap[x]? = w.heap[x]?
theorem Tw.rfl {w : World} {b : Nat} : Tw w w b := ⟨Eq.refl _, Eq.refl _, Eq.refl _, Eq.refl _, fun _ _ => Eq.refl _⟩
theorem Tw.trans {a b c : World} {k : Nat} (h : Tw a b k) (h' : Tw b c k) : Tw a c k :=
  ⟨h'.os.trans h.os, h'.tape.trans h.tape, h'.output.trans h.output, h'.size.trans h.size, fun x hx => (h'.other x hx).trans (h.other x hx)⟩
theorem set_tw {w : World} {b o : Nat} {c : Array Value} {t : TypeId} {fz : Nat × Nat} (h : w.heap[b]? = some (.cells c t fz)) (v : Value) :
    Tw w (w.setCell ⟨b, o, none⟩ v) b ∧ (w.setCell ⟨b, o, none⟩ v).heap[b]? = some (.cells (c.setIfInBounds o v) t fz) := by
  refine ⟨⟨rfl, rfl, rfl, by simp [World.setCell], fun x hx => ?_⟩, ?_⟩
  · simp only [World.setCell, Array.getElem?_modify]
    rw [if_neg (fun e => hx e.symm)]
  · simp [World.setCell, Array.getElem?_modify, h]
theorem store_run {b o : Nat} {t : TypeId} {fz : Nat × Nat} : ∀ (vs : List Value) (i : Nat) (w : World) (c : Array Value), w.heap[b]? = some (.cells c t fz) → o + i + vs.length ≤ c.size →
    (∀ k, k < c.size → ¬ (fz.1 ≤ k ∧ k < fz.2)) → (∀ v ∈ vs, v.oneCell' = true) →
    ∃ w' c', (storeCells ⟨b, o, none⟩ vs i).run P w = .ok () w' ∧ w'.heap[b]? = some (.cells c' t fz) ∧ c'.size = c.size ∧ Tw w w' b ∧
      ∀ k, c'[k]? = if o + i ≤ k ∧ k < o + i + vs.length then vs[k - (o + i)]? else c[k]?
  | [], i, w, c, h, hl, hf, h1 => ⟨w, c, rfl, h, rfl, .rfl, fun k => by rw [if_neg (by simp)]⟩
  | v :: vs, i, w, c, h, hl, hf, h1 => by
    simp only [List.length_cons] at hl
    obtain ⟨tw, hb⟩ := set_tw (o := o + i) h v
    have hsz : (c.setIfInBounds (o + i) v).size = c.size := by simp
    obtain ⟨w', c', hr, hb', hs', tw', hk⟩ := store_run (o := o) vs (i + 1) _ _ hb (by rw [hsz]; omega) (by rw [hsz]; exact hf) (fun u hu => h1 u (List.mem_cons_of_mem _ hu))
    refine ⟨w', c', ?_, hb', hs'.trans hsz, tw.trans tw', fun k => ?_⟩
    · have hcell : w.cell? ⟨b, o + i, none⟩ = some c[o + i] := by rw [cell_at h, Array.getElem?_eq_getElem (by omega)]
      have hfr : w.frozen? ⟨b, o + i, none⟩ = false := by
        have := hf (o + i) (by omega)
        simp only [World.frozen?, h]
        simpa using this
      simp only [storeCells, Sem.run_bind, add_at, run_store P w _ v _ (h1 v (List.mem_cons_self)), hcell, hfr, Bool.false_eq_true, if_false]
      exact hr
    · rw [hk k]
      by_cases h2 : o + i ≤ k ∧ k < o + i + (v :: vs).length
      · rw [if_pos h2]
        simp only [List.length_cons] at h2
        by_cases h3 : k = o + i
        · rw [if_neg (by omega), Array.getElem?_setIfInBounds, if_pos h3.symm]
          subst h3
          rw [if_pos (by omega)]
          simp
        · rw [if_pos (by omega), show k - (o + i) = (k - (o + (i + 1))) + 1 by omega]
          rfl
      · rw [if_neg h2]
        simp only [List.length_cons] at h2
        rw [if_neg (by omega), Array.getElem?_setIfInBounds, if_neg (by omega)]

/-! The store's likeness goes on. -/
section
variable {w0 w w' : World} {B : Nat} {ρ ρ' : Rn} {h h' : Hf}
theorem ObjR.grow (hρ : ρ.le ρ') {id : Nat} {o : Obj} (ho : ObjR ρ w id o) : ObjR ρ' w id o := by
  cases o with
  | cells cs el fl =>
    obtain ⟨p, h1, h2, h3, h4, c', el', fz, h5, h6, h7, h8⟩ := ho
    exact ⟨p, hρ _ _ h1, h2, h3, h4, c', el', fz, h5, h6, h7, fun k v hk => let ⟨v', hv, hl⟩ := h8 k v hk; ⟨v', hv, hl.grow hρ⟩⟩
  | map es c =>
    obtain ⟨p, h1, h2⟩ := ho
    exact ⟨p, hρ _ _ h1, h2⟩
  | _ => exact ho
/-- The block lies where it is said to lie. -/
theorem ObjR.place {id : Nat} {o : Obj} (ho : ObjR ρ w id o) : ∃ p, ρ id = some p ∧ p.blk < w.heap.size := by
  have lt : ∀ {b : Nat} {x : Obj}, w.heap[b]? = some x → b < w.heap.size := by
    intro b x hx
    rcases Nat.lt_or_ge b w.heap.size with h | h
    · exact h
    · rw [Array.getElem?_eq_none h] at hx; cases hx
  cases o with
  | cells cs el fl =>
    obtain ⟨p, h1, _, _, _, c', el', fz, h5, _⟩ := ho
    exact ⟨p, h1, lt h5⟩
  | map es c =>
    obtain ⟨p, h1, h2⟩ := ho
    exact ⟨p, h1, lt h2⟩
  | _ => exact ho.elim
theorem ObjR.same {id : Nat} {o : Obj} (ho : ObjR ρ w id o) (hw : ∀ p, ρ id = some p → w'.heap[p.blk]? = w.heap[p.blk]?) : ObjR ρ w' id o := by
  cases o with
  | cells cs el fl =>
    obtain ⟨p, h1, h2, h3, h4, c', el', fz, h5, h6⟩ := ho
    exact ⟨p, h1, h2, h3, h4, c', el', fz, (hw p h1).trans h5, h6⟩
  | map es c =>
    obtain ⟨p, h1, h2⟩ := ho
    exact ⟨p, h1, (hw p h1).trans h2⟩
  | _ => exact ho
theorem HR.drop (H : HR w0 B ρ h w) (hh : ∀ id o, h' id = some o → h id = some o) : HR w0 B ρ h' w :=
  ⟨H.below, H.base, fun id o e => H.obj id o (hh _ _ e), fun i j oi oj pi pj hij hi hj => H.sep i j oi oj pi pj hij (hh _ _ hi) (hh _ _ hj), fun id o p e => H.own id o p (hh _ _ e), H.glo⟩
theorem HR.congr (H : HR w0 B ρ h w) (hh : ∀ id, h' id = h id) : HR w0 B ρ h' w := H.drop fun id o e => (hh id).symm.trans e
theorem HR.drew (H : HR w0 B ρ h w) (n : Nat) : HR w0 B ρ h { w with drawn := n } :=
  ⟨⟨H.below.os, H.below.tape, H.below.output, H.below.size, H.below.block⟩, H.base, fun id o e => (H.obj id o e).same fun _ _ => rfl, H.sep, H.own, H.glo⟩
def Rn.put (ρ : Rn) (n : Nat) (p : Pl) : Rn := fun i => if i = n then some p else ρ i
theorem Rn.put_le {n : Nat} (hn : ρ n = none) (p : Pl) : ρ.le (ρ.put n p) := fun i q e => by
  unfold Rn.put
  by_cases hi : i = n
  · subst hi; rw [hn] at e; cases e
  · rw [if_neg hi]; exact e
def Hf.put (h : Hf) (n : Nat) (o : Option Obj) : Hf := fun i => if n = i then o else h i
/-- A new block is numbered. -/
theorem HR.new (H : HR w0 B ρ h w) {n : Nat} (hn : ρ n = none) (h16 : 16 ≤ n) {o : Obj} {p : Pl} (hp : B ≤ p.blk) (hfar : ∀ id o p', h id = some o → ρ id = some p' → p'.blk ≠ p.blk)
    (hb : Below B w0 w') (hw : ∀ id o p', h id = some o → ρ id = some p' → w'.heap[p'.blk]? = w.heap[p'.blk]?) (ho : ObjR (ρ.put n p) w' n o) : HR w0 B (ρ.put n p) (h.put n (some o)) w' := by
  have hle := Rn.put_le hn p
  have hne : ∀ id o, h id = some o → id ≠ n := fun id o e hid => by
    obtain ⟨q, hq, _⟩ := (H.obj id o e).place
    rw [hid, hn] at hq; cases hq
  have hput : ∀ id, id ≠ n → ρ.put n p id = ρ id := fun id hid => if_neg hid
  refine ⟨hb, H.base, fun id o' e => ?_, fun i j oi oj pi pj hij hi hj ei ej => ?_, fun id o' p' e h16' ep => ?_, fun g hg => ?_⟩
  · unfold Hf.put at e
    by_cases hid : n = id
    · rw [if_pos hid] at e
      cases e
      rw [← hid]; exact ho
    · rw [if_neg hid] at e
      exact ((H.obj id o' e).same fun p' hp' => hw id o' p' e hp').grow hle
  · unfold Hf.put at hi hj
    by_cases h1 : n = i
    · by_cases h2 : n = j
      · omega
      · rw [if_neg h2] at hj
        rw [hput j (fun e => h2 e.symm)] at ej
        have : ρ.put n p i = some p := by rw [← h1]; exact if_pos rfl
        rw [this] at ei; cases ei
        exact fun e => hfar j oj pj hj ej e.symm
    · rw [if_neg h1] at hi
      rw [hput i (fun e => h1 e.symm)] at ei
      by_cases h2 : n = j
      · have : ρ.put n p j = some p := by rw [← h2]; exact if_pos rfl
        rw [this] at ej; cases ej
        exact hfar i oi pi hi ei
      · rw [if_neg h2] at hj
        rw [hput j (fun e => h2 e.symm)] at ej
        exact H.sep i j oi oj pi pj hij hi hj ei ej
  · unfold Hf.put at e
    by_cases hid : n = id
    · have : ρ.put n p id = some p := by rw [← hid]; exact if_pos rfl
      rw [this] at ep; cases ep
      exact hp
    · rw [if_neg hid] at e
      rw [hput id (fun e => hid e.symm)] at ep
      exact H.own id o' p' e h16' ep
  · obtain ⟨q, h1, h2⟩ := H.glo g hg
    exact ⟨q, hle _ _ h1, h2⟩
/-- A block that is there is turned. -/
theorem HR.set (H : HR w0 B ρ h w) {n : Nat} {o o' : Obj} {p : Pl} (hn : h n = some o) (hp : ρ n = some p) (hb : Below B w0 w')
    (hw : ∀ x, x ≠ p.blk → w'.heap[x]? = w.heap[x]?) (ho : ObjR ρ w' n o') : HR w0 B ρ (h.put n (some o')) w' := by
  refine ⟨hb, H.base, fun id x e => ?_, fun i j oi oj pi pj hij hi hj ei ej => ?_, fun id x p' e h16' ep => ?_, H.glo⟩
  · unfold Hf.put at e
    by_cases hid : n = id
    · rw [if_pos hid] at e; cases e; rw [← hid]; exact ho
    · rw [if_neg hid] at e
      exact (H.obj id x e).same fun p' hp' => hw _ (fun e' => H.sep n id o x p p' hid hn e hp hp' e'.symm)
  · have back : ∀ i oi, (h.put n (some o')) i = some oi → ∃ x, h i = some x := by
      intro i oi e
      unfold Hf.put at e
      by_cases hid : n = i
      · exact ⟨o, hid ▸ hn⟩
      · rw [if_neg hid] at e; exact ⟨oi, e⟩
    obtain ⟨x, hx⟩ := back i oi hi
    obtain ⟨y, hy⟩ := back j oj hj
    exact H.sep i j x y pi pj hij hx hy ei ej
  · unfold Hf.put at e
    by_cases hid : n = id
    · exact H.own id o p' (hid ▸ hn) h16' ep
    · rw [if_neg hid] at e; exact H.own id x p' e h16' ep
end
end Go.Proofs.YtpijenlmfmknnaaGreatDoor
