/- spec.l4drawId: an id that is drawn. -/
import Derived.Test.YtjannojebngoeaaNew0
import Derived.Test.YtjannojebngoeaaLocB
namespace Go.Proofs.Ytjannojebngoeaa
open Go.RowKit
set_option linter.unusedVariables false
set_option maxRecDepth 100000

theorem grown_below' {a b c : World} {row : Option Nat} (h : Below a.heap.size a b) (k : b.grownBy c row) : a.grownBy c row := grown_trans (Below.toGrown h row) k

set_option maxHeartbeats 3200000 in
theorem drawId_any (w0 w : World) (g : Nat) (code : Value) (l : List Int) (h : Cur w0 w g code l) :
    Calls Try.prog 59 #[.pointer (some ⟨g, 0, none⟩)] w fun e w' => ∃ n r : Int, 0 ≤ n ∧ n ≤ 5 ∧ 0 ≤ r ∧ r ≤ 4 ∧ e = .returned (.agg #[.int .i64 n, .int .i64 r]) ∧ Cur w0 w' g code l ∧ w.grownBy w' (some g) := by
  have hA0 := (Below.refl w.heap.size w).alloc (Nat.le_refl _) (.cells #[.int .i64 0, .int .i64 0] 24)
  have l0 := Loc.made w #[.int .i64 0, .int .i64 0] 24
  have hC0 := h.keepAll hA0
  have hgl := h.lt
  go_enter Try.func59, Try.ntmps59
  go_wp2_with fail
  generalize (w.alloc (.cells #[.int .i64 0, .int .i64 0] 24)) = wa at *
  refine (l1Once_any w0 wa g code l 3 hC0 (by omega) (by omega)).mono ?_
  rintro e w1 ⟨b, rfl, hC1, hG1⟩
  have l1 := l0.frm (Frm.ofGrown hG1) (by simp; omega)
  have hG1' := grown_below' hA0 hG1
  cases b
  · go_wp2_with fail
    refine (l1Below_any w0 w1 g code l 5 hC1 (by omega) (by omega)).mono ?_
    rintro e w2 ⟨x, hx0, hx1, rfl, hC2, hG2⟩
    have l2 := l1.frm (Frm.ofGrown hG2) (by simp; omega)
    have hG2' := grown_trans hG1' hG2
    go_wp2_with fail
    refine (l1Below_any w0 w2 g code l 3 hC2 (by omega) (by omega)).mono ?_
    rintro e w3 ⟨y, hy0, hy1, rfl, hC3, hG3⟩
    have l3 := l2.frm (Frm.ofGrown hG3) (by simp; omega)
    have hG3' := grown_trans hG2' hG3
    have x0 := l3.cell 0
    have x1 := l3.cell 1
    have f0 := l3.frozen 0
    have f1 := l3.frozen 1
    clear hG1 hG2 hC1 hC2 l1 l2 hG3 hG1' hG2' l0 hC0
    go_wp2_with fail
    have m : Loc ((w3.setCell ⟨w.heap.size, 0, none⟩ (.int .i64 (1 + x))).setCell ⟨w.heap.size, 1, none⟩ (.int .i64 y)) w.heap.size #[.int .i64 (1 + x), .int .i64 y] 24 := (l3.set 0 (.int .i64 (1 + x))).set 1 (.int .i64 y)
    have e0 := m.cell 0
    have e1 := m.cell 1
    have hs : w3.grownBy ((w3.setCell ⟨w.heap.size, 0, none⟩ (.int .i64 (1 + x))).setCell ⟨w.heap.size, 1, none⟩ (.int .i64 y)) (some w.heap.size) := grown_trans (set_grown w3 w.heap.size 0 (.int .i64 (1 + x))) (set_grown _ w.heap.size 1 (.int .i64 y))
    have hGf := grown_new hG3' hs (fun q hq => by simp at hq; omega)
    have hCf := hC3.keep hs (by simp; omega) (fun k hk => by simp at hk; have := h.below.size; omega)
    exact bodyPost_ret (v := .agg #[.int .i64 (1 + x), .int .i64 y]) (by simp [results, Try.results59, go_sem, e0, e1]) rfl ⟨(1 + x), y, by omega, by omega, by omega, by omega, rfl, hCf, hGf⟩
  · go_wp2_with fail
    refine (l1Below_any w0 w1 g code l 5 hC1 (by omega) (by omega)).mono ?_
    rintro e w2 ⟨x, hx0, hx1, rfl, hC2, hG2⟩
    have l2 := l1.frm (Frm.ofGrown hG2) (by simp; omega)
    have hG2' := grown_trans hG1' hG2
    have x0 := l2.cell 0
    have x1 := l2.cell 1
    have f0 := l2.frozen 0
    have f1 := l2.frozen 1
    clear hG1 hG2 hC1 l1 hG1' l0 hC0
    go_wp2_with fail
    have m : Loc ((w2.setCell ⟨w.heap.size, 0, none⟩ (.int .i64 0)).setCell ⟨w.heap.size, 1, none⟩ (.int .i64 x)) w.heap.size #[.int .i64 0, .int .i64 x] 24 := (l2.set 0 (.int .i64 0)).set 1 (.int .i64 x)
    have e0 := m.cell 0
    have e1 := m.cell 1
    have hs : w2.grownBy ((w2.setCell ⟨w.heap.size, 0, none⟩ (.int .i64 0)).setCell ⟨w.heap.size, 1, none⟩ (.int .i64 x)) (some w.heap.size) := grown_trans (set_grown w2 w.heap.size 0 (.int .i64 0)) (set_grown _ w.heap.size 1 (.int .i64 x))
    have hGf := grown_new hG2' hs (fun q hq => by simp at hq; omega)
    have hCf := hC2.keep hs (by simp; omega) (fun k hk => by simp at hk; have := h.below.size; omega)
    exact bodyPost_ret (v := .agg #[.int .i64 0, .int .i64 x]) (by simp [results, Try.results59, go_sem, e0, e1]) rfl ⟨0, x, by omega, by omega, by omega, by omega, rfl, hCf, hGf⟩
end Go.Proofs.Ytjannojebngoeaa
