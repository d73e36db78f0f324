/- A new cursor, and what is drawn by one: some bytes, some number. -/
import Derived.Test.YtfblgdhbkakhcaaCur
namespace Go.Proofs.Ytfblgdhbkakhcaa
open Go.RowKit
set_option linter.unusedVariables false

/-- What a new cursor is. -/
theorem Cur.made (w : World) (code : Value) (l : List Int) (x : Int) (h : Byt w code l) : Cur w (w.alloc (.cells #[code, .int .i64 0, .int .i64 x] 53)) w.heap.size code l :=
  ⟨h, (Below.refl _ _).alloc (Nat.le_refl _) _, Nat.le_refl _, 0, x, Nat.zero_le _, heap_alloc_new w _⟩

set_option maxHeartbeats 1600000 in
theorem l1New_any (w : World) (code : Value) (l : List Int) (h : Byt w code l) :
    Calls Try.prog 24 #[code] w fun e w' => e = .returned (.pointer (some ⟨w.heap.size, 0, none⟩)) ∧ Cur w w' w.heap.size code l ∧ Below w.heap.size w w' := by
  have hm := h.2.1
  unfold maxLen at hm
  by_cases h0 : l = []
  · obtain ⟨a, cap, rfl, _⟩ := h.shape
    subst h0
    go_enter Try.func24, Try.ntmps24
    go_wp2
    refine wp_loop_rounds 1 ?_
    rw [rounds_succ]
    go_wp2
    go_ret
    exact ⟨rfl, Cur.made _ _ _ _ h, (Below.refl _ _).alloc (Nat.le_refl _) _⟩
  · have h' := h
    obtain ⟨hok, _, ⟨rfl, rfl⟩ | ⟨x, cap, rfl, hc, rfl⟩ | ⟨b, off, cap, rfl, h1, h2, h3, h4, h5⟩⟩ := h'
    · exact absurd rfl h0
    · exact absurd rfl h0
    go_enter Try.func24, Try.ntmps24
    go_wp2
    go_loop [3, 4] (fun x i => ∃ (k : Nat) (y : Int), k ≤ l.length ∧ i = .int .i64 k ∧ x = .int .i64 y) (fun _ i => l.length - (intOf i).toNat)
    case atStart => exact ⟨0, _, Nat.zero_le _, rfl, rfl⟩
    case round =>
      obtain ⟨k, y, hk, rfl, rfl⟩ := hrel
      by_cases hlt : k < l.length
      · obtain ⟨c, hcc⟩ : ∃ c, c = l.getD k 0 := ⟨_, rfl⟩
        have hcx : w.cell? ⟨b, off + k, none⟩ = some (.int .u8 c) := by rw [hcc]; exact h5 k hlt
        have hcb : 0 ≤ c ∧ c ≤ 255 := by rw [hcc, List.getD_eq_getElem?_getD]; exact hok.at _
        have hlt' : (k : Int) < (l.length : Int) := by omega
        obtain ⟨hcb0, hcb1⟩ := hcb
        clear h5 hcc
        by_cases h4k : k < 4000
        · have h4k' : (k : Int) < 4000 := by omega
          go_wp2
          go_round
          case rel => exact ⟨k + 1, _, by omega, by go_num, rfl⟩
          case measure => simp [intOf]; omega
        · have h4k' : ¬ (k : Int) < 4000 := by omega
          go_wp2
          go_ret
          exact ⟨rfl, Cur.made _ _ _ _ h, (Below.refl _ _).alloc (Nat.le_refl _) _⟩
      · have hlt' : decide ((k : Int) < (l.length : Int)) = false := by simp; omega
        clear h5
        go_wp2
        go_ret
        exact ⟨rfl, Cur.made _ _ _ _ h, (Below.refl _ _).alloc (Nat.le_refl _) _⟩

/-- An owned row that was made behind the cursor keeps its bytes while the cursor goes on. -/
theorem Own.past {w w' : World} {base g : Nat} {v : Value} {l : List Int} (h : Own w base v l) (hg : w.grownBy w' (some g)) (hb : g < base) : Own w' base v l :=
  h.keepBy hg (.inr (fun e => by have := h.base_le g e; omega))

/-- A step that writes a block which was not there at the start adds nothing to what may have been written. -/
theorem grown_new {a b c : World} {row row' : Option Nat} (h : a.grownBy b row) (k : b.grownBy c row') (hr : ∀ q, row' = some q → a.heap.size ≤ q) : a.grownBy c row :=
  ⟨k.os.trans h.os, k.tape.trans h.tape, k.output.trans h.output, Nat.le_trans h.size k.size, fun i hi hne => (k.block i (Nat.lt_of_lt_of_le hi h.size) (fun e => by have := hr i e.symm; omega)).trans (h.block i hi hne)⟩
theorem grown_below {a b c : World} {row : Option Nat} (h : a.grownBy b row) (k : Below b.heap.size b c) : a.grownBy c row := grown_new h (Below.toGrown k none) (fun q hq => by cases hq)

set_option maxHeartbeats 1600000 in
theorem l1some_any (w0 w : World) (g : Nat) (code : Value) (l : List Int) (n : Int) (h : Cur w0 w g code l) (hn0 : 0 ≤ n) (hn1 : n ≤ 1000) :
    Calls Try.prog 25 #[.pointer (some ⟨g, 0, none⟩), .int .i64 n] w fun e w' => ∃ v', e = .returned v' ∧ ∃ l', Own w' w.heap.size v' l' ∧ (l'.length : Int) ≤ n ∧ Cur w0 w' g code l ∧ w.grownBy w' (some g) := by
  go_enter Try.func25, Try.ntmps25
  go_wp2_with fail
  refine (l1Below_any w0 w g code l (n + 1) h (by omega) (by omega)).mono ?_
  rintro e w1 ⟨x, hx0, hx1, rfl, hC1, hG1⟩
  have hlt := h.lt
  go_wp2
  go_loopw [5, 7] (fun u i wr => ∃ (k : Nat) (m : List Int), i = .int .i64 k ∧ (k : Int) ≤ x ∧ m.length = k ∧ Own wr w.heap.size u m ∧ Cur w0 wr g code l ∧ w.grownBy wr (some g)) (fun _ i _ => x.toNat - (intOf i).toNat)
  case atStart => exact ⟨0, [], rfl, hx0, rfl, ⟨okB_nil, World.ownsRow_nil _ _ _ _⟩, hC1, hG1⟩
  case round =>
    obtain ⟨k, m, rfl, hkx, hmk, ho, hC, hG⟩ := hrel
    clear hC1 hG1
    have HMK := hide hmk
    clear hmk
    by_cases hk : (k : Int) < x
    · go_wp2_with fail
      refine (l1Byte_any w0 wr g code l hC).mono ?_
      rintro e w2 ⟨y, hy0, hy1, rfl, hC2, hG2⟩
      have ho2 := ho.past hG2 hlt
      have hs := hG.size
      have hs2 := hG2.size
      go_wp2_with (at_builtin; refine wpList_app rfl _ _ rfl w.heap.size _ m rfl (ho2.alloc _) _ [y] rfl (byt_one w2 y hy0 hy1) ?c1 ?c2 ?_)
      case c1 => have := unhide HMK; first | omega | (simp; omega)
      case c2 => first | omega | (simp; omega)
      intro v3 w3 ho3 hg3
      have hC3 : Cur w0 w3 g code l := (hC2.keepAll ((Below.refl _ _).alloc (Nat.le_refl _) _)).keep hg3 (fun e => by have := ho2.base_le g e.symm; omega) (fun q hq => by have := ho2.base_le q hq; have := h.below.size; omega)
      have hG3 : w.grownBy w3 (some g) := grown_new (grown_below (grown_trans hG hG2) ((Below.refl _ _).alloc (Nat.le_refl _) _)) hg3 ho2.base_le
      have HO := hide (show Own w3 w.heap.size v3 (m ++ [y]) from ho3)
      clear ho3 hg3 hG hG2 ho ho2 hC hC2
      go_wp2
      go_roundw
      case rel => exact ⟨k + 1, m ++ [y], by go_num, by omega, by have := unhide HMK; simp; omega, unhide HO, hC3, hG3⟩
      case measure => simp [intOf]; omega
    · go_wp2
      go_ret
      exact ⟨_, rfl, m, ho, by have := unhide HMK; omega, hC, hG⟩

/-- The numbers that are drawn. -/
theorem ints_made (w : World) (m : List Int) (n : Nat) (hn : m.length = n) : Ints (w.alloc (.cells (m.map (Value.int .i64)).toArray 3)) (.slice (some ⟨w.heap.size, 0, none⟩) n n) m := by
  subst hn
  refine ⟨w.heap.size, 0, m.length, rfl, by simp, fun i hi => ?_⟩
  rw [World.cell?_alloc_at _ _ _ _ rfl]
  simp [hi]

set_option maxHeartbeats 1600000 in
theorem l1num_any (w0 w : World) (g : Nat) (code : Value) (l : List Int) (h : Cur w0 w g code l) :
    Calls Try.prog 26 #[.pointer (some ⟨g, 0, none⟩)] w fun e w' => ∃ x : Int, -9223372036854775808 ≤ x ∧ x ≤ 9223372036854775807 ∧ e = .returned (.int .i64 x) ∧ Cur w0 w' g code l ∧ w.grownBy w' (some g) := by
  have hlt := h.lt
  go_enter Try.func26, Try.ntmps26
  go_wp2_with fail
  refine (l1Below_any w0 w g code l 6 h (by omega) (by omega)).mono ?_
  rintro e w1 ⟨x, hx0, hx1, rfl, hC1, hG1⟩
  have hlt1 := hC1.lt
  have hal := fun o => hC1.keepAll ((Below.refl w1.heap.size w1).alloc (Nat.le_refl _) o)
  by_cases e0 : x = 0
  · subst e0
    go_wp2_with fail
    refine (l1PickInt_any w0 _ g code l _ [0, 1, 127, 128, 16383, 16384, 2147483647, 2147483646] (hal _) (by simp) (by simp) (ints_made w1 [0, 1, 127, 128, 16383, 16384, 2147483647, 2147483646] 8 rfl) ?_).mono ?_
    · intro a n c e; simp only [Value.slice.injEq, Option.some.injEq] at e; rw [← e.1]; simp only; omega
    rintro e w2 ⟨y, hy, rfl, hC2, hG2⟩
    have hyb : -9223372036854775808 ≤ y ∧ y ≤ 9223372036854775807 := by simp at hy; omega
    have hG3 : w.grownBy w2 (some g) := grown_trans (grown_below hG1 ((Below.refl _ _).alloc (Nat.le_refl _) _)) hG2
    clear hG2 hG1 hal
    go_wp2
    go_ret
    exact ⟨_, hyb.1, hyb.2, rfl, hC2, hG3⟩
  by_cases e1 : x = 1
  · subst e1
    go_wp2_with fail
    refine (l1PickInt_any w0 _ g code l _ [-1, 2147483648, 4611686018427387904, -9223372036854775808, 9223372036854775807] (hal _) (by simp) (by simp) (ints_made w1 [-1, 2147483648, 4611686018427387904, -9223372036854775808, 9223372036854775807] 5 rfl) ?_).mono ?_
    · intro a n c e; simp only [Value.slice.injEq, Option.some.injEq] at e; rw [← e.1]; simp only; omega
    rintro e w2 ⟨y, hy, rfl, hC2, hG2⟩
    have hyb : -9223372036854775808 ≤ y ∧ y ≤ 9223372036854775807 := by simp at hy; omega
    have hG3 : w.grownBy w2 (some g) := grown_trans (grown_below hG1 ((Below.refl _ _).alloc (Nat.le_refl _) _)) hG2
    clear hG2 hG1 hal
    go_wp2
    go_ret
    exact ⟨_, hyb.1, hyb.2, rfl, hC2, hG3⟩
  · have b0 : (x == 0) = false := by simpa using e0
    have b1 : (x == 1) = false := by simpa using e1
    clear e0 e1 hal
    go_wp2_with fail
    refine (l1Below_any w0 w1 g code l 40000 hC1 (by omega) (by omega)).mono ?_
    rintro e w2 ⟨y, hy0, hy1, rfl, hC2, hG2⟩
    have hG3 := grown_trans hG1 hG2
    clear hG1 hG2
    go_wp2
    go_ret
    exact ⟨_, by omega, by omega, rfl, hC2, hG3⟩

end Go.Proofs.Ytfblgdhbkakhcaa
