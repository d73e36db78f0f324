/- laws.eqOp of two operations that read the same. -/
import Derived.Test.YtcabolcfoijglaaEqO
import Derived.Test.YtcabolcfoijglaaEq
import Derived.Test.YtcabolcfoijglaaEqZ
namespace Go.Proofs.Ytcabolcfoijglaa
open Go.RowKit
set_option linter.unusedVariables false
set_option maxRecDepth 100000

theorem eqB4_true (w : World) (u v : Value) (a : List Int) (hu : Byt w u a) (hv : Byt w v a) : Calls Try.prog 17 #[u, v] w fun e w' => e = .returned (.bool true) ∧ Below w.heap.size w w' := by
  refine (eqB_any w u v a a hu hv).mono ?_
  rintro e w' ⟨rfl, h⟩
  exact ⟨by simp, h⟩
theorem eqZ4_true (w : World) (u v : Value) (a : List Int) (hu : Ints w u a) (hv : Ints w v a) : Calls Try.prog 57 #[u, v] w fun e w' => e = .returned (.bool true) ∧ Below w.heap.size w w' := by
  refine (eqZ_any w u v a a hu hv).mono ?_
  rintro e w' ⟨rfl, h⟩
  exact ⟨by simp, h⟩
theorem eqId_true (w : World) (n r : Int) : Calls Try.prog 56 #[.agg #[.int .i64 n, .int .i64 r], .agg #[.int .i64 n, .int .i64 r]] w fun e w' => e = .returned (.bool true) ∧ Below w.heap.size w w' := by
  refine (eqId_any w n r n r).mono ?_
  rintro e w' ⟨rfl, h⟩
  exact ⟨by simp [idEqB], h⟩

set_option maxHeartbeats 3200000 in
theorem eqOp_same (w : World) (u v : Value) (o : OpV) (hu : RdOp w u o) (hv : RdOp w v o) :
    Calls Try.prog 16 #[u, v] w fun e w' => e = .returned (.bool true) ∧ Below w.heap.size w w' := by
  obtain ⟨k1, n1, t1, rfl, hk1, hn1, ht1⟩ := hu
  obtain ⟨k2, n2, t2, rfl, hk2, hn2, ht2⟩ := hv
  obtain ⟨ak1, ck1, rfl, _, _⟩ := hk1.shape
  obtain ⟨an1, cn1, rfl, _, _⟩ := hn1.shape
  obtain ⟨at1, ct1, rfl, _, _⟩ := ht1.shape
  obtain ⟨ak2, ck2, rfl, _, _⟩ := hk2.shape
  obtain ⟨an2, cn2, rfl, _, _⟩ := hn2.shape
  obtain ⟨at2, ct2, rfl, _, _⟩ := ht2.shape
  have H := hide (And.intro hk1 (And.intro hn1 (And.intro ht1 (And.intro hk2 (And.intro hn2 ht2)))))
  clear hk1 hn1 ht1 hk2 hn2 ht2
  unfold opVal
  have hA : Below w.heap.size w ((w.alloc (.cells #[.int .i64 o.kind, .int .i64 o.atN, .int .i64 o.atR, .int .i64 o.nodeN, .int .i64 o.nodeR, .int .i64 o.parN, .int .i64 o.parR, .slice ak1 o.key.length ck1, .int .i64 o.elem, .slice an1 o.name.length cn1, .slice at1 o.text.length ct1, .bool o.gone] 27)).alloc (.cells #[.int .i64 o.kind, .int .i64 o.atN, .int .i64 o.atR, .int .i64 o.nodeN, .int .i64 o.nodeR, .int .i64 o.parN, .int .i64 o.parR, .slice ak2 o.key.length ck2, .int .i64 o.elem, .slice an2 o.name.length cn2, .slice at2 o.text.length ct2, .bool o.gone] 27)) := ((Below.refl _ _).alloc (Nat.le_refl _) _).alloc (by simp) _
  go_enter Try.func16, Try.ntmps16
  go_wp2_with fail
  generalize hW : ((w.alloc (.cells #[.int .i64 o.kind, .int .i64 o.atN, .int .i64 o.atR, .int .i64 o.nodeN, .int .i64 o.nodeR, .int .i64 o.parN, .int .i64 o.parR, .slice ak1 o.key.length ck1, .int .i64 o.elem, .slice an1 o.name.length cn1, .slice at1 o.text.length ct1, .bool o.gone] 27)).alloc (.cells #[.int .i64 o.kind, .int .i64 o.atN, .int .i64 o.atR, .int .i64 o.nodeN, .int .i64 o.nodeR, .int .i64 o.parN, .int .i64 o.parR, .slice ak2 o.key.length ck2, .int .i64 o.elem, .slice an2 o.name.length cn2, .slice at2 o.text.length ct2, .bool o.gone] 27)) = W at *
  have HW := hide hW
  clear hW
  refine (eqId_true _ o.atN o.atR).mono ?_
  rintro e w1 ⟨rfl, hB1⟩
  have c11_3 := cell_later hB1 (show W.cell? ⟨w.heap.size, 3, none⟩ = some (.int .i64 o.nodeN) by rw [← unhide HW]; simp)
  have c11_4 := cell_later hB1 (show W.cell? ⟨w.heap.size, 4, none⟩ = some (.int .i64 o.nodeR) by rw [← unhide HW]; simp)
  have c11_5 := cell_later hB1 (show W.cell? ⟨w.heap.size, 5, none⟩ = some (.int .i64 o.parN) by rw [← unhide HW]; simp)
  have c11_6 := cell_later hB1 (show W.cell? ⟨w.heap.size, 6, none⟩ = some (.int .i64 o.parR) by rw [← unhide HW]; simp)
  have c11_7 := cell_later hB1 (show W.cell? ⟨w.heap.size, 7, none⟩ = some (.slice ak1 o.key.length ck1) by rw [← unhide HW]; simp)
  have c11_8 := cell_later hB1 (show W.cell? ⟨w.heap.size, 8, none⟩ = some (.int .i64 o.elem) by rw [← unhide HW]; simp)
  have c11_9 := cell_later hB1 (show W.cell? ⟨w.heap.size, 9, none⟩ = some (.slice an1 o.name.length cn1) by rw [← unhide HW]; simp)
  have c11_10 := cell_later hB1 (show W.cell? ⟨w.heap.size, 10, none⟩ = some (.slice at1 o.text.length ct1) by rw [← unhide HW]; simp)
  have c11_11 := cell_later hB1 (show W.cell? ⟨w.heap.size, 11, none⟩ = some (.bool o.gone) by rw [← unhide HW]; simp)
  have c12_3 := cell_later hB1 (show W.cell? ⟨w.heap.size + 1, 3, none⟩ = some (.int .i64 o.nodeN) by rw [← unhide HW]; simp)
  have c12_4 := cell_later hB1 (show W.cell? ⟨w.heap.size + 1, 4, none⟩ = some (.int .i64 o.nodeR) by rw [← unhide HW]; simp)
  have c12_5 := cell_later hB1 (show W.cell? ⟨w.heap.size + 1, 5, none⟩ = some (.int .i64 o.parN) by rw [← unhide HW]; simp)
  have c12_6 := cell_later hB1 (show W.cell? ⟨w.heap.size + 1, 6, none⟩ = some (.int .i64 o.parR) by rw [← unhide HW]; simp)
  have c12_7 := cell_later hB1 (show W.cell? ⟨w.heap.size + 1, 7, none⟩ = some (.slice ak2 o.key.length ck2) by rw [← unhide HW]; simp)
  have c12_8 := cell_later hB1 (show W.cell? ⟨w.heap.size + 1, 8, none⟩ = some (.int .i64 o.elem) by rw [← unhide HW]; simp)
  have c12_9 := cell_later hB1 (show W.cell? ⟨w.heap.size + 1, 9, none⟩ = some (.slice an2 o.name.length cn2) by rw [← unhide HW]; simp)
  have c12_10 := cell_later hB1 (show W.cell? ⟨w.heap.size + 1, 10, none⟩ = some (.slice at2 o.text.length ct2) by rw [← unhide HW]; simp)
  have c12_11 := cell_later hB1 (show W.cell? ⟨w.heap.size + 1, 11, none⟩ = some (.bool o.gone) by rw [← unhide HW]; simp)
  replace hA := bstep hA hB1
  clear hB1 HW
  go_wp2_with fail
  refine (eqId_true _ o.nodeN o.nodeR).mono ?_
  rintro e w2 ⟨rfl, hB2⟩
  have c21_5 := cell_later hB2 c11_5
  have c21_6 := cell_later hB2 c11_6
  have c21_7 := cell_later hB2 c11_7
  have c21_8 := cell_later hB2 c11_8
  have c21_9 := cell_later hB2 c11_9
  have c21_10 := cell_later hB2 c11_10
  have c21_11 := cell_later hB2 c11_11
  have c22_5 := cell_later hB2 c12_5
  have c22_6 := cell_later hB2 c12_6
  have c22_7 := cell_later hB2 c12_7
  have c22_8 := cell_later hB2 c12_8
  have c22_9 := cell_later hB2 c12_9
  have c22_10 := cell_later hB2 c12_10
  have c22_11 := cell_later hB2 c12_11
  replace hA := bstep hA hB2
  clear c11_3 c11_4 c11_5 c11_6 c11_7 c11_8 c11_9 c11_10 c11_11 c12_3 c12_4 c12_5 c12_6 c12_7 c12_8 c12_9 c12_10 c12_11
  clear hB2
  go_wp2_with fail
  refine (eqId_true _ o.parN o.parR).mono ?_
  rintro e w3 ⟨rfl, hB3⟩
  have c31_7 := cell_later hB3 c21_7
  have c31_8 := cell_later hB3 c21_8
  have c31_9 := cell_later hB3 c21_9
  have c31_10 := cell_later hB3 c21_10
  have c31_11 := cell_later hB3 c21_11
  have c32_7 := cell_later hB3 c22_7
  have c32_8 := cell_later hB3 c22_8
  have c32_9 := cell_later hB3 c22_9
  have c32_10 := cell_later hB3 c22_10
  have c32_11 := cell_later hB3 c22_11
  replace hA := bstep hA hB3
  clear c21_5 c21_6 c21_7 c21_8 c21_9 c21_10 c21_11 c22_5 c22_6 c22_7 c22_8 c22_9 c22_10 c22_11
  clear hB3
  go_wp2_with fail
  refine (eqZ4_true _ _ _ o.key ((unhide H).1.keep hA) ((unhide H).2.2.2.1.keep hA)).mono ?_
  rintro e w4 ⟨rfl, hB4⟩
  have c41_8 := cell_later hB4 c31_8
  have c41_9 := cell_later hB4 c31_9
  have c41_10 := cell_later hB4 c31_10
  have c41_11 := cell_later hB4 c31_11
  have c42_8 := cell_later hB4 c32_8
  have c42_9 := cell_later hB4 c32_9
  have c42_10 := cell_later hB4 c32_10
  have c42_11 := cell_later hB4 c32_11
  replace hA := bstep hA hB4
  clear c31_7 c31_8 c31_9 c31_10 c31_11 c32_7 c32_8 c32_9 c32_10 c32_11
  clear hB4
  go_wp2_with fail
  refine (eqB4_true _ _ _ o.name ((unhide H).2.1.keep hA) ((unhide H).2.2.2.2.1.keep hA)).mono ?_
  rintro e w5 ⟨rfl, hB5⟩
  have c51_10 := cell_later hB5 c41_10
  have c51_11 := cell_later hB5 c41_11
  have c52_10 := cell_later hB5 c42_10
  have c52_11 := cell_later hB5 c42_11
  replace hA := bstep hA hB5
  clear c41_8 c41_9 c41_10 c41_11 c42_8 c42_9 c42_10 c42_11
  clear hB5
  go_wp2_with fail
  refine (eqB4_true _ _ _ o.text ((unhide H).2.2.1.keep hA) ((unhide H).2.2.2.2.2.keep hA)).mono ?_
  rintro e w6 ⟨rfl, hB6⟩
  have c61_11 := cell_later hB6 c51_11
  have c62_11 := cell_later hB6 c52_11
  replace hA := bstep hA hB6
  clear c51_10 c51_11 c52_10 c52_11
  clear hB6
  go_wp2_with fail
  go_ret
  exact ⟨rfl, hA⟩

end Go.Proofs.Ytcabolcfoijglaa
