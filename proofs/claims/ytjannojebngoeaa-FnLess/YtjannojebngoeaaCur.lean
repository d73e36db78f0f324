/- The cursor over the bytes of a draw, by contracts: it tells some byte, and writes its own block alone. -/
import Derived.Test.YtjannojebngoeaaApp
import Derived.Deep.QuietTactic
import Derived.BigQuiet
namespace Go.Proofs.Ytjannojebngoeaa
open Go.RowKit
set_option linter.unusedVariables false

theorem i64_and255 (n : Int) : bits .and .i64 n 255 = n % 256 := by
  have h255 : (BitVec.ofInt 64 255).toNat = 2 ^ 8 - 1 := by decide
  have key : (BitVec.ofInt 64 n &&& BitVec.ofInt 64 255).toNat = (n % ((2 ^ 64 : Nat) : Int)).toNat % 2 ^ 8 := by
    rw [BitVec.toNat_and, BitVec.toNat_ofInt, h255, Nat.and_two_pow_sub_one_eq_mod]
  show IntKind.i64.wrap ((BitVec.ofInt 64 n &&& BitVec.ofInt 64 255).toNat : Nat) = n % 256
  rw [key, IntKind.wrap_i64]
  omega

/-- The block g, made behind w0, is a cursor over the bytes l of the value code, which were there in w0; the world w has them still. -/
structure Cur (w0 w : World) (g : Nat) (code : Value) (l : List Int) : Prop where
  bytes : Byt w0 code l
  below : Below w0.heap.size w0 w
  new : w0.heap.size ≤ g
  cells : ∃ (i : Nat) (h : Int), i ≤ l.length ∧ w.heap[g]? = some (.cells #[code, .int .i64 i, .int .i64 h] 85 (0, 0))

theorem Cur.lt {w0 w : World} {g : Nat} {code : Value} {l : List Int} (h : Cur w0 w g code l) : g < w.heap.size := by
  obtain ⟨i, x, _, hg⟩ := h.cells
  by_cases hlt : g < w.heap.size
  · exact hlt
  · rw [Array.getElem?_eq_none (by omega)] at hg; cases hg

/-- A world in which the cursor's block, and all that was there before it, stand as they stood. -/
theorem Cur.keep {w0 w w' : World} {g : Nat} {code : Value} {l : List Int} {row : Option Nat} (h : Cur w0 w g code l) (hg : w.grownBy w' row) (hne : some g ≠ row) (hr : ∀ k, row = some k → w0.heap.size ≤ k) : Cur w0 w' g code l := by
  refine ⟨h.bytes, h.below.grown hg h.below.size hr, h.new, ?_⟩
  obtain ⟨i, x, hi, hc⟩ := h.cells
  exact ⟨i, x, hi, (hg.block g h.lt hne).trans hc⟩
theorem Cur.keepAll {w0 w w' : World} {g : Nat} {code : Value} {l : List Int} (h : Cur w0 w g code l) (hB : Below w.heap.size w w') : Cur w0 w' g code l :=
  h.keep (Below.toGrown hB none) (by simp) (fun k hk => by cases hk)

theorem set_grown (w : World) (g j : Nat) (v : Value) : w.grownBy (w.setCell ⟨g, j, none⟩ v) (some g) :=
  ⟨rfl, rfl, rfl, by simp, fun k _ hk => heap_setCell_other w ⟨g, j, none⟩ k v (fun e => hk (by simp [e]))⟩
theorem grown_drewN {a b : World} {row : Option Nat} (h : a.grownBy b row) (n : Nat) : a.grownBy (b.drewN n) row := ⟨h.os, h.tape, h.output, h.size, h.block⟩
theorem grown_drew {a b : World} {row : Option Nat} (h : a.grownBy b row) : a.grownBy b.drew row := ⟨h.os, h.tape, h.output, h.size, h.block⟩

/-- The cursor behind a step. -/
theorem Cur.turn {w0 w w' : World} {g : Nat} {code : Value} {l : List Int} (h : Cur w0 w g code l) (hw : w.grownBy w' (some g)) (i : Nat) (x : Int) (hi : i ≤ l.length)
    (hc : w'.heap[g]? = some (.cells #[code, .int .i64 i, .int .i64 x] 85 (0, 0))) : Cur w0 w' g code l :=
  ⟨h.bytes, h.below.grown hw h.below.size (fun k hk => by cases hk; exact h.new), h.new, i, x, hi, hc⟩

set_option maxHeartbeats 1600000 in
set_option maxRecDepth 1000000 in
theorem l1Byte_any (w0 w : World) (g : Nat) (code : Value) (l : List Int) (h : Cur w0 w g code l) :
    Calls Try.prog 89 #[.pointer (some ⟨g, 0, none⟩)] w fun e w' => ∃ x : Int, 0 ≤ x ∧ x ≤ 255 ∧ e = .returned (.int .i64 x) ∧ Cur w0 w' g code l ∧ w.grownBy w' (some g) := by
  obtain ⟨i, x, hi, hg⟩ := h.cells
  have c0 : w.cell? ⟨g, 0, none⟩ = some code := by rw [cell_of_row w g 0 _ _ _ hg]; rfl
  have c1 : w.cell? ⟨g, 1, none⟩ = some (.int .i64 i) := by rw [cell_of_row w g 1 _ _ _ hg]; rfl
  have c2 : w.cell? ⟨g, 2, none⟩ = some (.int .i64 x) := by rw [cell_of_row w g 2 _ _ _ hg]; rfl
  have f1 : w.frozen? ⟨g, 1, none⟩ = false := frozen_of_row w g 1 _ _ hg
  have f2 : w.frozen? ⟨g, 2, none⟩ = false := frozen_of_row w g 2 _ _ hg
  by_cases hlt : i < l.length
  · obtain ⟨hok, hm, ⟨rfl, rfl⟩ | ⟨y, cap, rfl, hc, rfl⟩ | ⟨b, off, cap, rfl, h1, h2, h3, h4, h5⟩⟩ := h.bytes
    · simp at hlt
    · simp at hlt
    obtain ⟨c, hc⟩ : ∃ c, c = l.getD i 0 := ⟨_, rfl⟩
    have hcx : w.cell? ⟨b, off + i, none⟩ = some (.int .u8 c) := by rw [hc]; exact (h.below.cell (p := ⟨b, off + i, none⟩) h4).trans (h5 i hlt)
    have hcb : 0 ≤ c ∧ c ≤ 255 := by rw [hc, List.getD_eq_getElem?_getD]; exact hok.at _
    have hbg : b ≠ g := by have := h.new; omega
    have hi' : (i : Int) < (l.length : Int) := by omega
    unfold maxLen at hm h2
    clear hc h5
    have HG := hide hg
    have HH := hide h
    clear hg h
    obtain ⟨hcb0, hcb1⟩ := hcb
    go_enter Try.func89, Try.ntmps89
    go_wp2
    generalize wrap64 (wrap64 (x * 6364136223846793005) + 1442695040888963407) = y
    go_quiet (fail)
    go_wp2
    go_quiet (fail)
    go_wp2
    rw [i64_and255]
    generalize bits BinOp.xor IntKind.i64 (y / 8589934592) (y / 35184372088832) = z
    go_quiet (fail)
    go_wp2
    rw [i64_and255]
    go_ret
    refine ⟨(z % 256 + c) % 256, by omega, by omega, rfl, (unhide HH).turn ?hw (i + 1) y (by omega) ?hc, ?hw⟩
    case hw => repeat (first | exact set_grown _ _ _ _ | refine grown_drewN ?_ _ | refine grown_trans ?_ (set_grown _ _ _ _))
    case hc =>
      rw [show ((i + 1 : Nat) : Int) = (i : Int) + 1 by omega]
      exact heap_setCell_same _ g 1 _ _ _ (heap_setCell_same w g 2 _ _ _ (unhide HG))
  · obtain ⟨a, cap, rfl, hlc, hcm⟩ := h.bytes.shape
    have hm := h.bytes.2.1
    unfold maxLen at hm
    have hi' : ¬ (i : Int) < (l.length : Int) := by omega
    have HG := hide hg
    have HH := hide h
    clear hg h
    go_enter Try.func89, Try.ntmps89
    go_wp2
    generalize wrap64 (wrap64 (x * 6364136223846793005) + 1442695040888963407) = y
    go_quiet (fail)
    go_wp2
    go_quiet (fail)
    go_wp2
    rw [i64_and255]
    generalize bits BinOp.xor IntKind.i64 (y / 8589934592) (y / 35184372088832) = z
    go_ret
    refine ⟨z % 256, by omega, by omega, rfl, (unhide HH).turn ?hw i y hi ?hc, ?hw⟩
    case hw => repeat (first | exact set_grown _ _ _ _ | refine grown_drewN ?_ _ | refine grown_trans ?_ (set_grown _ _ _ _))
    case hc => exact heap_setCell_same w g 2 _ _ _ (unhide HG)
theorem tmod_below {x n : Int} (hx0 : 0 ≤ x) (hn : 1 ≤ n) : 0 ≤ x % n ∧ x % n < n := ⟨Int.emod_nonneg _ (by omega), Int.emod_lt_of_pos _ (by omega)⟩

set_option maxHeartbeats 1600000 in
theorem l1Below_any (w0 w : World) (g : Nat) (code : Value) (l : List Int) (n : Int) (h : Cur w0 w g code l) (hn : 1 ≤ n) (hn1 : n ≤ 1000000000) :
    Calls Try.prog 70 #[.pointer (some ⟨g, 0, none⟩), .int .i64 n] w fun e w' => ∃ x : Int, 0 ≤ x ∧ x < n ∧ e = .returned (.int .i64 x) ∧ Cur w0 w' g code l ∧ w.grownBy w' (some g) := by
  by_cases h256 : n ≤ 256
  · go_enter Try.func70, Try.ntmps70
    go_wp2_with fail
    refine (l1Byte_any w0 w g code l h).mono ?_
    rintro e w1 ⟨x, hx0, hx1, rfl, hC, hG⟩
    have hb := tmod_below hx0 hn
    have HB := hide hb
    clear hb
    go_wp2
    go_ret
    exact ⟨_, (unhide HB).1, (unhide HB).2, rfl, hC, hG⟩
  · go_enter Try.func70, Try.ntmps70
    go_wp2_with fail
    refine (l1Byte_any w0 w g code l h).mono ?_
    rintro e w1 ⟨x1, hx0, hx1, rfl, hC1, hG1⟩
    go_wp2_with fail
    refine (l1Byte_any w0 w1 g code l hC1).mono ?_
    rintro e w2 ⟨x2, hy0, hy1, rfl, hC2, hG2⟩
    go_wp2_with fail
    refine (l1Byte_any w0 w2 g code l hC2).mono ?_
    rintro e w3 ⟨x3, hz0, hz1, rfl, hC3, hG3⟩
    go_wp2_with fail
    refine (l1Byte_any w0 w3 g code l hC3).mono ?_
    rintro e w4 ⟨x4, hu0, hu1, rfl, hC4, hG4⟩
    have hb := tmod_below (x := x1 * 16777216 + x2 * 65536 + x3 * 256 + x4) (by omega) hn
    have HB := hide hb
    have HG := hide (grown_trans (grown_trans (grown_trans hG1 hG2) hG3) hG4)
    clear hb hG1 hG2 hG3 hG4 hC1 hC2 hC3
    go_wp2
    go_ret
    exact ⟨_, (unhide HB).1, (unhide HB).2, rfl, hC4, unhide HG⟩

set_option maxHeartbeats 1600000 in
theorem l1Once_any (w0 w : World) (g : Nat) (code : Value) (l : List Int) (n : Int) (h : Cur w0 w g code l) (hn : 1 ≤ n) (hn1 : n ≤ 1000000000) :
    Calls Try.prog 57 #[.pointer (some ⟨g, 0, none⟩), .int .i64 n] w fun e w' => ∃ b : Bool, e = .returned (.bool b) ∧ Cur w0 w' g code l ∧ w.grownBy w' (some g) := by
  go_enter Try.func57, Try.ntmps57
  go_wp2_with fail
  refine (l1Below_any w0 w g code l n h hn hn1).mono ?_
  rintro e w1 ⟨x, hx0, hx1, rfl, hC, hG⟩
  go_wp2
  go_ret
  exact ⟨_, rfl, hC, hG⟩

/-- A slice of whole numbers that can be read. -/
def IntsC (w : World) (v : Value) (l : List Int) : Prop := ∃ b off cap, v = .slice (some ⟨b, off, none⟩) l.length cap ∧ b < w.heap.size ∧ ∀ i, i < l.length → w.cell? ⟨b, off + i, none⟩ = some (.int .i64 (l.getD i 0))

set_option maxHeartbeats 1600000 in
theorem l1PickInt_any (w0 w : World) (g : Nat) (code : Value) (l : List Int) (v : Value) (m : List Int) (h : Cur w0 w g code l) (hm0 : 1 ≤ m.length) (hm1 : m.length ≤ 1000) (hv : IntsC w v m) (hne : ∀ a n c, v = .slice (some a) n c → a.block ≠ g) :
    Calls Try.prog 71 #[.pointer (some ⟨g, 0, none⟩), v] w fun e w' => ∃ x ∈ m, e = .returned (.int .i64 x) ∧ Cur w0 w' g code l ∧ w.grownBy w' (some g) := by
  obtain ⟨b, off, cap, rfl, hb, hc⟩ := hv
  have hbg : b ≠ g := hne _ _ _ rfl
  clear hne
  go_enter Try.func71, Try.ntmps71
  go_wp2_with fail
  refine (l1Below_any w0 w g code l m.length h (by omega) (by omega)).mono ?_
  rintro e w1 ⟨x, hx0, hx1, rfl, hC, hG⟩
  obtain ⟨j, rfl⟩ := Int.eq_ofNat_of_zero_le hx0
  have hj : j < m.length := by omega
  obtain ⟨y, hy⟩ : ∃ y, y = m.getD j 0 := ⟨_, rfl⟩
  have hcj : w1.cell? ⟨b, off + j, none⟩ = some (.int .i64 y) := by rw [hy]; exact hG.cell (a := ⟨b, off + j, none⟩) (hc j hj) (by simp; omega)
  have hmem : y ∈ m := by rw [hy, getD_at hj]; exact List.getElem_mem hj
  clear hc hy
  have hG' := hide hG
  clear hG
  go_wp2
  go_ret
  exact ⟨y, hmem, rfl, hC, unhide hG'⟩

end Go.Proofs.Ytjannojebngoeaa
