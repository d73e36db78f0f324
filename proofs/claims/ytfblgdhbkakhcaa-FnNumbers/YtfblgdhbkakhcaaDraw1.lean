/- The draws of the first chapter, by their contracts: what they tell, and that they write nothing that was there. -/
import Derived.Test.YtfblgdhbkakhcaaSpoil
namespace Go.Proofs.Ytfblgdhbkakhcaa
open Go.RowKit
set_option linter.unusedVariables false

/-- All that was there when a cursor was made stands while it alone goes on. -/
theorem below_cur {w0 w w' : World} {g : Nat} (h : Below w0.heap.size w0 w) (hg : w.grownBy w' (some g)) (hn : w0.heap.size ≤ g) : Below w0.heap.size w0 w' :=
  bstepBy h hg (fun k hk => by simp at hk; omega)

set_option maxHeartbeats 1600000 in
theorem drawPutNum_any (w : World) (code : Value) (l : List Int) (h : Byt w code l) :
    Calls Try.prog 8 #[code] w fun e w' => ∃ v' n, e = .returned (.tuple #[v', .int .i64 n]) ∧ -9223372036854775808 ≤ n ∧ n ≤ 9223372036854775807 ∧ ∃ l', Own w' w.heap.size v' l' ∧ l'.length ≤ 4 ∧ Below w.heap.size w w' := by
  go_enter Try.func8, Try.ntmps8
  go_wp2_with fail
  refine (l1New_any w code l h).mono ?_
  rintro e w1 ⟨rfl, hC1, hB1⟩
  have hn1 := hC1.new
  have hl1 := hC1.lt
  go_wp2_with fail
  refine (l1some_any w w1 w.heap.size code l 4 hC1 (by omega) (by omega)).mono ?_
  rintro e w2 ⟨v2, rfl, l2, ho2, hl2, hC2, hG2⟩
  go_wp2_with fail
  refine (l1num_any w w2 w.heap.size code l hC2).mono ?_
  rintro e w3 ⟨n, hn0, hn9, rfl, hC3, hG3⟩
  have ho3 := (ho2.past hG3 hl1).mono hB1.size
  have hB3 := hC3.below
  clear hG2 hG3 hC1 hC2 hC3 ho2
  go_wp2
  go_ret2
  exact ⟨_, _, rfl, hn0, hn9, l2, ho3, by omega, hB3⟩

set_option maxHeartbeats 1600000 in
theorem drawPutText_any (w : World) (code : Value) (l : List Int) (h : Byt w code l) :
    Calls Try.prog 11 #[code] w fun e w' => ∃ v' u', e = .returned (.tuple #[v', u']) ∧ ∃ l' t', Byt w' v' l' ∧ l'.length ≤ 3 ∧ Byt w' u' t' ∧ t'.length ≤ 31 ∧ Below w.heap.size w w' := by
  obtain ⟨i0, hi, hz0, hz1, hz2⟩ := info_parts Try.info5
  go_enter Try.func11, Try.ntmps11
  go_wp2_with fail
  refine (l1New_any w code l h).mono ?_
  rintro e w1 ⟨rfl, hC1, hB1⟩
  have hl1 := hC1.lt
  go_wp2_with fail
  refine (l1some_any w w1 w.heap.size code l 3 hC1 (by omega) (by omega)).mono ?_
  rintro e w2 ⟨v2, rfl, l2, ho2, hl2, hC2, hG2⟩
  have hl2' := hC2.lt
  go_wp2_with fail
  refine (l1some_any w w2 w.heap.size code l 6 hC2 (by omega) (by omega)).mono ?_
  rintro e w3 ⟨v3, rfl, l3, ho3, hl3, hC3, hG3⟩
  have ho23 := ho2.past hG3 hl1
  go_wp2_with fail
  refine (l1Once_any w w3 w.heap.size code l 6 hC3 (by omega) (by omega)).mono ?_
  rintro e w4 ⟨b, rfl, hC4, hG4⟩
  have ho24 := ho23.past hG4 hl1
  have ho34 := ho3.past hG4 hl2'
  clear hC1 hC2 hC3 hG2 hG3 hG4 ho2 ho23 ho3
  cases b with
  | false =>
    have hB4 := hC4.below
    clear hC4
    go_wp2
    go_ret2
    exact ⟨_, _, rfl, l2, l3, ho24.byt, by omega, ho34.byt, by omega, hB4⟩
  | true =>
    go_wp2_with fail
    refine (l1Below_any w w4 w.heap.size code l 2 hC4 (by omega) (by omega)).mono ?_
    rintro e w5 ⟨x, hx0, hx1, rfl, hC5, hG5⟩
    have ho25 := ho24.past hG5 hl1
    obtain ⟨k, rfl⟩ := Int.eq_ofNat_of_zero_le hx0
    have hB5 := hC5.below
    clear hC4 hG5 ho34 ho24 hC5
    go_wp2_with (at_make; refine wpList_make_full _ rfl _ _ 22 rfl w5.heap.size 5 i0 (.int .u8 0) 1 Try.underlying22 hi hz0 hz1 .i64 .i64 _ _ (30 + k) rfl rfl (by omega) (by omega) ?c1 ?c2 ?c3 ?_)
    case c1 => rw [hz2]; omega
    case c2 => unfold maxLen; omega
    case c3 => exact Nat.le_refl _
    intro w6 hown hgrow
    have hB6 := Below.ofGrown hgrow
    have hz : Own w6 w5.heap.size (.slice (some ⟨w5.heap.size, 0, none⟩) (30 + k) (30 + k)) (List.replicate (30 + k) 0) := by
      refine ⟨fun y hy => by rw [List.eq_of_mem_replicate hy]; omega, ?_⟩
      have e : vals (List.replicate (30 + k) 0) = (madeCells #[Value.int .u8 0] (30 + k)).toList := by rw [toList_madeCells_one]; simp [vals]
      rw [e, List.length_replicate]
      first | exact hown | simpa using hown
    have HZ := hide hz.byt
    have HB := hide (ho25.keep hB6).byt
    have hB7 := bstep hB5 hB6
    clear hown hgrow hz hB6
    go_wp2
    go_ret2
    exact ⟨_, _, rfl, l2, List.replicate (30 + k) 0, unhide HB, by omega, by first | exact unhide HZ | simpa using unhide HZ, by simp; omega, hB7⟩

set_option maxHeartbeats 3200000 in
theorem drawGetNum_any (w : World) (code : Value) (l : List Int) (h : Byt w code l) :
    Calls Try.prog 15 #[code] w fun e w' => ∃ v' n, e = .returned (.tuple #[v', .int .i64 n]) ∧ -9223372036854775808 ≤ n ∧ n ≤ 9223372036854775807 ∧ ∃ l', Byt w' v' l' ∧ l'.length ≤ 1001 ∧ Below w.heap.size w w' := by
  go_enter Try.func15, Try.ntmps15
  go_wp2_with fail
  refine (l1New_any w code l h).mono ?_
  rintro e w1 ⟨rfl, hC1, hB1⟩
  have hl1 := hC1.lt
  have hs1 := hB1.size
  go_wp2_with fail
  refine (l1some_any w w1 w.heap.size code l 3 hC1 (by omega) (by omega)).mono ?_
  rintro e w2 ⟨v2, rfl, l2, ho2, hl2, hC2, hG2⟩
  have hs2 := hG2.size
  obtain ⟨a2, c2, hv2, _, _⟩ := ho2.byt.shape
  subst hv2
  go_wp2_with fail
  refine (l1num_any w w2 w.heap.size code l hC2).mono ?_
  rintro e w3 ⟨n, hn0, hn9, rfl, hC3, hG3⟩
  have ho3 := ho2.past hG3 hl1
  have hs3 := hG3.size
  have hl3 := hC3.lt
  clear ho2 hG2 hC1 hC2
  go_wp2_with fail
  refine (putS_any w3 _ l2 n ho3.byt (by omega)).mono ?_
  rintro e w4 ⟨v4, rfl, ho4, hB4⟩
  have hC4 := hC3.keepAll hB4
  have hl4 := hC4.lt
  have hs4 := hB4.size
  have hpl := putAll_len l2 n
  generalize putAll l2 n = p at *
  clear hC3 ho3 hG3
  go_wp2_with fail
  refine (l1some_any w w4 w.heap.size code l 3 hC4 (by omega) (by omega)).mono ?_
  rintro e w5 ⟨v5, rfl, l5, ho5, hl5, hC5, hG5⟩
  have ho45 := ho4.past hG5 hl3
  have hs5 := hG5.size
  go_wp2_with (at_builtin; refine wpList_app rfl _ _ rfl w3.heap.size _ p rfl ho45 _ l5 rfl ho5.byt ?c1 ?c2 ?_)
  case c1 => omega
  case c2 => omega
  intro v6 w6 ho6 hg6
  have hC6 : Cur w w6 w.heap.size code l := hC5.keep hg6 (fun e => by have := ho45.base_le _ e.symm; omega) (fun r hr => by have := ho45.base_le r hr; omega)
  have hs6 := hg6.size
  have HL6 := hide (show (p ++ l5).length ≤ 100 by simp; omega)
  generalize p ++ l5 = q at *
  clear hg6 ho5 ho45 hG5 ho4 hC4 hC5
  have hl6 := hC6.lt
  go_wp2_with fail
  refine (l1Once_any w w6 w.heap.size code l 3 hC6 (by omega) (by omega)).mono ?_
  rintro e w7 ⟨b7, rfl, hC7, hG7⟩
  have ho7 := ho6.past hG7 (by omega)
  clear hC6 hG7 ho6
  cases b7 with
  | false =>
    obtain ⟨a7, c7, hv7, _, _⟩ := ho7.byt.shape
    subst hv7
    go_wp2_with fail
    refine (l1Once_any w w7 w.heap.size code l 6 hC7 (by omega) (by omega)).mono ?_
    rintro e w9 ⟨b9, rfl, hC9, hG9⟩
    have ho9 := ho7.past hG9 (by omega)
    have hB9 := hC9.below
    have hq := unhide HL6
    cases b9 with
    | false =>
      go_wp2
      go_ret2
      exact ⟨_, _, rfl, by omega, by omega, q, ho9.byt, by omega, hB9⟩
    | true =>
      go_wp2_with fail
      refine (l1PickInt_any w _ w.heap.size code l _ [-1, 0, (q.length : Int), (q.length : Int) + 1, 9223372036854775807, -9223372036854775808] (hC9.keepAll ((Below.refl _ _).alloc (Nat.le_refl _) _)) (by simp) (by simp) (ints_made w9 [-1, 0, (q.length : Int), (q.length : Int) + 1, 9223372036854775807, -9223372036854775808] 6 rfl) ?_).mono ?_
      · intro a n c e; simp only [Value.slice.injEq, Option.some.injEq] at e; rw [← e.1]; simp only; have := hC9.lt; omega
      rintro e w10 ⟨y, hy, rfl, hC10, hG10⟩
      have hyb : -9223372036854775808 ≤ y ∧ y ≤ 9223372036854775807 := by simp at hy; omega
      have ho10 := (ho9.alloc _).past hG10 (by omega)
      have HO := hide ho10.byt
      have hB10 := hC10.below
      clear hC10 hG10 ho10 ho9 ho7 hC9 hG9 hC7
      go_wp2
      go_ret2
      exact ⟨_, _, rfl, hyb.1, hyb.2, q, unhide HO, by omega, hB10⟩
  | true =>
    go_wp2_with fail
    refine (l1spoil_any w w7 w.heap.size code l v6 q hC7 ho7.byt (by have := unhide HL6; omega)).mono ?_
    rintro e w8 ⟨v8, rfl, q8, hv8, hf8, hq8, hC8, hG8⟩
    obtain ⟨a8, c8, hsh, _, _⟩ := hv8.shape
    subst hsh
    go_wp2_with fail
    refine (l1Once_any w w8 w.heap.size code l 6 hC8 (by omega) (by omega)).mono ?_
    rintro e w9 ⟨b9, rfl, hC9, hG9⟩
    have hv9 := hv8.past hG9 hf8
    have hB9 := hC9.below
    cases b9 with
    | false =>
      go_wp2
      go_ret2
      exact ⟨_, _, rfl, by omega, by omega, q8, hv9, by omega, hB9⟩
    | true =>
      go_wp2_with fail
      refine (l1PickInt_any w _ w.heap.size code l _ [-1, 0, (q8.length : Int), (q8.length : Int) + 1, 9223372036854775807, -9223372036854775808] (hC9.keepAll ((Below.refl _ _).alloc (Nat.le_refl _) _)) (by simp) (by simp) (ints_made w9 [-1, 0, (q8.length : Int), (q8.length : Int) + 1, 9223372036854775807, -9223372036854775808] 6 rfl) ?_).mono ?_
      · intro a n c e; simp only [Value.slice.injEq, Option.some.injEq] at e; rw [← e.1]; simp only; have := hC9.lt; omega
      rintro e w10 ⟨y, hy, rfl, hC10, hG10⟩
      have hyb : -9223372036854775808 ≤ y ∧ y ≤ 9223372036854775807 := by simp at hy; omega
      have HO := hide ((hv9.alloc _).past hG10 hf8)
      have hB10 := hC10.below
      clear hC10 hG10 hC9 hG9 hC7 hv9 hv8 hf8 hC8 hG8
      go_wp2
      go_ret2
      exact ⟨_, _, rfl, hyb.1, hyb.2, q8, unhide HO, by omega, hB10⟩
end Go.Proofs.Ytfblgdhbkakhcaa
