/- spec.DrawLess and spec.DrawKeyLess: two ids, two rows of numbers that are drawn. -/
import Derived.Test.YtjannojebngoeaaDrawK
namespace Go.Proofs.Ytjannojebngoeaa
open Go.RowKit
set_option linter.unusedVariables false
set_option maxRecDepth 100000

set_option maxHeartbeats 3200000 in
theorem drawKeyLess_any (w : World) (code : Value) (l : List Int) (h : Byt w code l) :
    Calls Try.prog 18 #[code] w fun e w' => ∃ a c k a' c' k', e = .returned (.tuple #[.slice a k.length c, .slice a' k'.length c']) ∧ Ints w' (.slice a k.length c) k ∧ Ints w' (.slice a' k'.length c') k' ∧ k.length ≤ 13 ∧ k'.length ≤ 13 ∧ Below w.heap.size w w' := by
  have HN := hide (l1New_any w code l h)
  obtain ⟨a0, c0, rfl, _, _⟩ := h.shape
  clear h
  go_enter Try.func18, Try.ntmps18
  go_wp2_with fail
  refine (unhide HN).mono ?_
  rintro e w1 ⟨rfl, hC1, hB1⟩
  clear HN
  have hg1 := hC1.lt
  go_wp2_with fail
  refine (drawKey_any w w1 _ _ l hC1).mono ?_
  rintro e w2 ⟨a, c, k, rfl, ho2, hk2, hC2, hG2⟩
  go_wp2_with fail
  refine (drawKey_any w w2 _ _ l hC2).mono ?_
  rintro e w3 ⟨a', c', k', rfl, ho3, hk3, hC3, hG3⟩
  have ho2' := ho2.past hG3 (by omega)
  have hB3 : Below w.heap.size w w3 := bstepBy (bstepBy hB1 hG2 (fun q hq => by simp at hq; omega)) hG3 (fun q hq => by simp at hq; omega)
  have i2 := ho2'.ints
  have i3 := ho3.ints
  clear hG2 hG3 hC1 hC2 hC3 ho2 ho3 ho2' hB1 hg1
  go_wp2_with fail
  go_ret2
  exact ⟨a, c, k, a', c', k', rfl, i2, i3, hk2, hk3, hB3⟩

set_option maxHeartbeats 3200000 in
theorem drawLess_any (w : World) (code : Value) (l : List Int) (h : Byt w code l) :
    Calls Try.prog 17 #[code] w fun e w' => ∃ n r n' r' : Int, e = .returned (.tuple #[.agg #[.int .i64 n, .int .i64 r], .agg #[.int .i64 n', .int .i64 r']]) ∧ Below w.heap.size w w' := by
  have HN := hide (fun W hW => l1New_any W code l (h.keep (w' := W) hW))
  obtain ⟨a0, c0, rfl, _, _⟩ := h.shape
  clear h
  have hA0 : Below w.heap.size w ((w.alloc (.cells #[.int .i64 0, .int .i64 0] 24)).alloc (.cells #[.int .i64 0, .int .i64 0] 24)) := ((Below.refl w.heap.size w).alloc (Nat.le_refl _) _).alloc (by simp) _
  have l0 := (Loc.made w #[.int .i64 0, .int .i64 0] 24).alloc (.cells #[.int .i64 0, .int .i64 0] 24)
  have m0 := Loc.made (w.alloc (.cells #[.int .i64 0, .int .i64 0] 24)) #[.int .i64 0, .int .i64 0] 24
  rw [show (w.alloc (.cells #[.int .i64 0, .int .i64 0] 24)).heap.size = w.heap.size + 1 by simp] at m0
  have LL := hide (And.intro hA0 (And.intro l0 m0))
  clear hA0 l0 m0
  go_enter Try.func17, Try.ntmps17
  go_wp2_with fail
  obtain ⟨hA0, l0, m0⟩ := unhide LL
  clear LL
  generalize ((w.alloc (.cells #[.int .i64 0, .int .i64 0] 24)).alloc (.cells #[.int .i64 0, .int .i64 0] 24)) = wa at *
  refine (unhide HN wa hA0).mono ?_
  rintro e w1 ⟨rfl, hC1, hB1⟩
  clear HN
  have hg1 := hC1.lt
  have l1 := l0.all hB1
  have m1 := m0.all hB1
  have g0 := m0.lt
  have hA1 := bstep hA0 hB1
  go_wp2_with fail
  refine (drawId_any wa w1 _ _ l hC1).mono ?_
  rintro e w2 ⟨n, r, _, _, _, _, rfl, hC2, hG2⟩
  have l2 := l1.frm (Frm.ofGrown hG2) (by simp; omega)
  have m2 := m1.frm (Frm.ofGrown hG2) (by simp; omega)
  go_wp2_with fail
  refine (drawId_any wa w2 _ _ l hC2).mono ?_
  rintro e w3 ⟨n', r', _, _, _, _, rfl, hC3, hG3⟩
  have l3 := l2.frm (Frm.ofGrown hG3) (by simp; omega)
  have m3 := m2.frm (Frm.ofGrown hG3) (by simp; omega)
  have hA3 : Below w.heap.size w w3 := bstepBy (bstepBy hA1 hG2 (fun q hq => by simp at hq; omega)) hG3 (fun q hq => by simp at hq; omega)
  have x0 := l3.cell 0
  have x1 := l3.cell 1
  have y0 := m3.cell 0
  have y1 := m3.cell 1
  have f0 := l3.frozen 0
  have f1 := l3.frozen 1
  have f2 := m3.frozen 0
  have f3 := m3.frozen 1
  have lz : Loc ((((w3.setCell ⟨w.heap.size, 0, none⟩ (.int .i64 n)).setCell ⟨w.heap.size, 1, none⟩ (.int .i64 r)).setCell ⟨w.heap.size + 1, 0, none⟩ (.int .i64 n')).setCell ⟨w.heap.size + 1, 1, none⟩ (.int .i64 r')) w.heap.size #[.int .i64 n, .int .i64 r] 24 := ((((l3.set 0 _).set 1 _).other _ _ _ (by omega)).other _ _ _ (by omega))
  have mz : Loc ((((w3.setCell ⟨w.heap.size, 0, none⟩ (.int .i64 n)).setCell ⟨w.heap.size, 1, none⟩ (.int .i64 r)).setCell ⟨w.heap.size + 1, 0, none⟩ (.int .i64 n')).setCell ⟨w.heap.size + 1, 1, none⟩ (.int .i64 r')) (w.heap.size + 1) #[.int .i64 n', .int .i64 r'] 24 := ((((m3.other _ _ _ (by omega)).other _ _ _ (by omega)).set 0 _).set 1 _)
  have e0 := lz.cell 0
  have e1 := lz.cell 1
  have e2 := mz.cell 0
  have e3 := mz.cell 1
  have hAz : Below w.heap.size w ((((w3.setCell ⟨w.heap.size, 0, none⟩ (.int .i64 n)).setCell ⟨w.heap.size, 1, none⟩ (.int .i64 r)).setCell ⟨w.heap.size + 1, 0, none⟩ (.int .i64 n')).setCell ⟨w.heap.size + 1, 1, none⟩ (.int .i64 r')) := bstepBy (bstepBy (bstepBy (bstepBy hA3 (set_grown _ _ _ _) (fun q hq => by simp at hq; omega)) (set_grown _ _ _ _) (fun q hq => by simp at hq; omega)) (set_grown _ _ _ _) (fun q hq => by simp at hq; omega)) (set_grown _ _ _ _) (fun q hq => by simp at hq; omega)
  have HZ := hide hAz
  clear hG2 hG3 hC1 hC2 hC3 l0 l1 l2 m0 m1 m2 hA0 hA1 hA3 hB1 hg1 g0 l3 m3 lz mz hAz
  go_wp2_with fail
  exact bodyPost_ret (v := .tuple #[.agg #[.int .i64 n, .int .i64 r], .agg #[.int .i64 n', .int .i64 r']]) (by simp [results, Try.results17, go_sem, e0, e1, e2, e3]) rfl ⟨n, r, n', r', rfl, unhide HZ⟩
end Go.Proofs.Ytjannojebngoeaa
