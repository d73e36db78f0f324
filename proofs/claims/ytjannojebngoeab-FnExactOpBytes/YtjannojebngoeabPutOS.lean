/- spec.l4putId and spec.l4putKey, by their contracts. -/
import Derived.Test.YtjannojebngoeabOpM
import Derived.Test.YtjannojebngoeabPutS
import Derived.Test.YtjannojebngoeabTextP
import Derived.Test.YtjannojebngoeabLocB
import Derived.Deep.RegionHeld3
namespace Go.Proofs.Ytjannojebngoeab
open Go.RowKit
set_option linter.unusedVariables false
set_option maxRecDepth 100000

theorem putS_own (w : World) (v : Value) (l : List Int) (n : Int) (h : Byt w v l) (hl : l.length ≤ 60000000) :
    Calls Try.prog 46 #[v, .int .i64 n] w fun e w' => ∃ a c, e = .returned (.slice a (putAll l n).length c) ∧ Own w' w.heap.size (.slice a (putAll l n).length c) (putAll l n) ∧ Below w.heap.size w w' := by
  refine (putS_any w v l n h (by omega)).mono ?_
  rintro e w' ⟨v', rfl, ho, hB⟩
  obtain ⟨a, c, rfl, _, _⟩ := ho.byt.shape
  exact ⟨a, c, rfl, ho, hB⟩

theorem putId_len (l : List Int) (n r : Int) : (putId l n r).length ≤ l.length + 10 := by
  unfold putId
  have := putAll_len (putAll l n) r
  have := putAll_len l n
  omega
theorem putNs_len (l k : List Int) : (putNs l k).length ≤ l.length + 5 * k.length := by
  induction k generalizing l with
  | nil => simp [putNs]
  | cons x k ih =>
    rw [putNs, List.length_cons]
    have := ih (putAll l x)
    have := putAll_len l x
    omega
theorem putKey_len (l k : List Int) : (putKey l k).length ≤ l.length + 5 + 5 * k.length := by
  unfold putKey
  have := putNs_len (putAll l k.length) k
  have := putAll_len l (k.length : Int)
  omega

/-- Put a step further. -/
theorem putNs_step (l k : List Int) (j : Nat) (h : j < k.length) : putNs l (k.take (j + 1)) = putAll (putNs l (k.take j)) (k.getD j 0) := by
  induction k generalizing l j with
  | nil => simp at h
  | cons x k ih =>
    cases j with
    | zero => simp [putNs]
    | succ j =>
      rw [List.take_succ_cons, List.take_succ_cons, putNs, putNs, ih _ j (by simpa using h)]
      simp

set_option maxHeartbeats 3200000 in
theorem putIdS_any (w : World) (v : Value) (l : List Int) (n r : Int) (h : Byt w v l) (hl : l.length ≤ 50000000) :
    Calls Try.prog 45 #[v, .agg #[.int .i64 n, .int .i64 r]] w fun e w' => ∃ a c, e = .returned (.slice a (putId l n r).length c) ∧ Own w' w.heap.size (.slice a (putId l n r).length c) (putId l n r) ∧ Below w.heap.size w w' := by
  have hA := (Below.refl w.heap.size w).alloc (Nat.le_refl _) (.cells #[.int .i64 n, .int .i64 r] 31)
  have l0 := Loc.made w #[.int .i64 n, .int .i64 r] 31
  have hp := putAll_len l n
  have HV := hide (h.keep hA)
  obtain ⟨a, c, rfl, _, _⟩ := h.shape
  clear h
  go_enter Try.func45, Try.ntmps45
  go_wp2_with fail
  generalize (w.alloc (.cells #[.int .i64 n, .int .i64 r] 31)) = w0 at *
  have H1 := hide (fun (W : World) (hW : Below w0.heap.size w0 W) => putS_own W _ l n ((unhide HV).keep hW) (by omega))
  clear HV
  have x0 := l0.cell 0
  have x1 := l0.cell 1
  go_region_held3 (fun w' => w'.cell? ⟨w.heap.size, 0, none⟩ = some (.int .i64 n) ∧ w'.cell? ⟨w.heap.size, 1, none⟩ = some (.int .i64 r))
    (first | exact ⟨by assumption, by assumption⟩ | simp [*])
    (first
      | (go_at_call 46; refine (unhide H1 _ ((Below.refl _ _).drew)).mono ?_; clear H1; rintro e w1 ⟨a1, c1, rfl, ho1, hB1⟩; have hD1 := bstep ((Below.refl w0.heap.size w0).drew) hB1; have x0 := (l0.all hD1).cell 0; have x1 := (l0.all hD1).cell 1)
      | (go_at_call 46; refine (putS_own w1 _ (putAll l n) r ho1.byt (by omega)).mono ?_; rintro e w2 ⟨a2, c2, rfl, ho2, hB2⟩; have hD2 := bstep hD1 hB2; have x0 := (l0.all hD2).cell 0; have x1 := (l0.all hD2).cell 1))
  all_goals
    go_wp2
    go_ret
    exact ⟨a2, c2, rfl, ho2.mono (by have := hA.size; have := hD1.size; omega), bstep hA hD2⟩

set_option maxHeartbeats 3200000 in
theorem putKeyS_any (w : World) (v u : Value) (l k : List Int) (h : Byt w v l) (hu : Ints w u k) (hl : l.length ≤ 20000000) (hk : k.length ≤ 2097152) :
    Calls Try.prog 47 #[v, u] w fun e w' => ∃ a c, e = .returned (.slice a (putKey l k).length c) ∧ Own w' w.heap.size (.slice a (putKey l k).length c) (putKey l k) ∧ Below w.heap.size w w' := by
  have H1 := hide (putS_own w v l (k.length : Int) h (by omega))
  have HU := hide hu
  have hp := putAll_len l (k.length : Int)
  obtain ⟨a, c, rfl, _, _⟩ := h.shape
  obtain ⟨a', c', rfl, _, _⟩ := hu.shape
  clear h hu
  unfold putKey
  generalize putAll l (k.length : Int) = lp at *
  go_enter Try.func47, Try.ntmps47
  go_wp2_with fail
  refine (unhide H1).mono ?_
  clear H1
  rintro e w1 ⟨a1, c1, rfl, ho1, hB1⟩
  go_wp2_with fail
  go_loopw [0, 5] (fun b i wr => ∃ (j : Nat) (a2 : Option Addr) (c2 : Nat), j ≤ k.length ∧ i = .int .i64 j ∧ b = .slice a2 (putNs lp (k.take j)).length c2 ∧ Own wr w.heap.size (.slice a2 (putNs lp (k.take j)).length c2) (putNs lp (k.take j)) ∧ Below w.heap.size w wr) (fun _ i _ => k.length - (intOf i).toNat)
  case atStart => exact ⟨0, a1, c1, Nat.zero_le _, rfl, rfl, ho1, hB1⟩
  case round =>
    obtain ⟨j, a2, c2, hj, rfl, rfl, ho, hB⟩ := hrel
    clear ho1 hB1
    by_cases hlt : j < k.length
    · have HS := hide (putNs_step lp k j hlt)
      have hq := putNs_len lp (k.take j)
      rw [List.length_take, Nat.min_eq_left hj] at hq
      generalize hpt : putNs lp (k.take j) = lj at *
      clear hpt
      have hlt' : (j : Int) < (k.length : Int) := by omega
      obtain ⟨x, hx⟩ : ∃ x, x = k.getD j 0 := ⟨_, rfl⟩
      rw [← hx] at HS
      obtain ⟨hok, hm, ⟨_, e⟩ | ⟨_, _, _, _, e⟩ | ⟨b, off, cap, e, h1, h2, h3, h4, h5⟩⟩ := (unhide HU).keep hB
      · rw [e] at hlt; simp at hlt
      · rw [e] at hlt; simp at hlt
      have e1 : a' = some ⟨b, off, none⟩ := by injection e
      have hcx := h5 j hlt
      rw [← hx] at hcx
      clear hx h5 e HU
      subst e1
      go_wp2_with fail
      refine (putS_own wr _ lj x ho.byt (by omega)).mono ?_
      rintro e w2 ⟨a3, c3, rfl, ho3, hB3⟩
      rw [← unhide HS] at ho3 ⊢
      go_wp2_with fail
      go_roundw
      case rel => exact ⟨j + 1, a3, c3, by omega, by go_num, rfl, ho3.mono hB.size, bstep hB hB3⟩
      case measure => simp [intOf]; omega
    · obtain rfl : j = k.length := by omega
      have HE := hide (show putNs lp (k.take k.length) = putNs lp k by rw [List.take_of_length_le (Nat.le_refl _)])
      rw [unhide HE] at ho ⊢
      clear HE
      go_wp2_with fail
      go_ret
      exact ⟨a2, c2, rfl, ho, hB⟩
end Go.Proofs.Ytjannojebngoeab
