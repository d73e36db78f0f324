/- The law on GetText, walked by its callees' contracts: it returns true and writes nothing that was there. -/
import Derived.Test.YtfblgdhbkakhcaaLPutNum
import Derived.Test.YtfblgdhbkakhcaaTextG
namespace Go.Proofs.Ytfblgdhbkakhcaa
open Go.RowKit
set_option linter.unusedVariables false

theorem getT_len (l : List Int) (p : Int) (hok : okB l) : (getT l p).1.length ≤ 30 := by
  by_cases ho : (getN l p).2 < 0 ∨ 30 < (getN l p).1 ∨ (l.length : Int) - (getN l p).2 < (getN l p).1
  · rw [getT_out ho]; simp
  · rw [getT, if_neg ho]; simp; omega

set_option maxHeartbeats 3200000 in
theorem law_gettext (w : World) (v : Value) (l : List Int) (n : Int) (h : Byt w v l) (hn : n ≤ 9223372036854775807) :
    Calls Try.prog 7 #[v, .int .i64 n] w fun e w' => e = .returned (.bool true) ∧ Below w.heap.size w w' := by
  obtain ⟨a, cap, rfl, hlc, hcm⟩ := h.shape
  have hm := h.2.1
  unfold maxLen at hm
  by_cases hbig : 1048576 < l.length
  · have hb' : (1048576 : Int) < (l.length : Int) := by omega
    go_enter Try.func7, Try.ntmps7
    go_wp2
    go_ret
    exact ⟨rfl, Below.refl _ _⟩
  have hb' : ¬ (1048576 : Int) < (l.length : Int) := by omega
  have hP := getT_len l n h.1
  go_enter Try.func7, Try.ntmps7
  go_wp2_with fail
  refine (toB_any w _ l h (by omega)).mono ?_
  rintro e w1 ⟨v1, rfl, ho1, _, hB1⟩
  go_wp2_with fail
  refine (getTS_any w1 v1 l n ho1.byt hn).mono ?_
  rintro e w2 ⟨u0, rfl, hu0, hB2⟩
  generalize hp : (getT l n).1 = p at *
  generalize hr : (getT l n).2 = r at *
  have HP := hide hp
  have HR := hide hr
  clear hp hr
  have hA2 : Below w.heap.size w w2 := bstep hB1 hB2
  go_wp2_with fail
  refine (toB_any w2 _ l (h.keep hA2) (by omega)).mono ?_
  rintro e w3 ⟨x0, rfl, hx0, _, hB3⟩
  have hA3 := bstep hA2 hB3
  go_wp2_with fail
  refine (getTI_any w3 x0 l n hx0.byt).mono ?_
  rintro e w4 ⟨g0, rfl, hg0, hB4⟩
  have hA4 := bstep hA3 hB4
  rw [unhide HP] at hg0
  rw [unhide HR]
  go_wp2_with fail
  have hu4 := (hu0.keep hB3).keep hB4
  refine (eqB_any w4 _ _ p p hg0.byt hu4.byt).mono ?_
  rintro e w5 ⟨rfl, hB5⟩
  have hA5 := bstep hA4 hB5
  have hd : decide (p = p) = true := by simp
  rw [hd]
  clear hd
  have hrr : (r != r) = false := by simp
  go_wp2_with fail
  refine (toB_any w5 _ l (h.keep hA5) (by omega)).mono ?_
  rintro e w6 ⟨y0, rfl, hy0, _, hB6⟩
  have hA6 := bstep hA5 hB6
  go_wp2_with fail
  have hx06 := ((hx0.keep hB4).keep hB5).keep hB6
  refine (eqB_any w6 _ _ l l hx06.byt hy0.byt).mono ?_
  rintro e w7 ⟨rfl, hB7⟩
  have hA7 := bstep hA6 hB7
  have hd : decide (l = l) = true := by simp
  rw [hd]
  clear hd
  go_wp2_with fail
  have hx07 := hx06.keep hB7
  refine (markB_any w7 _ x0 l 1 hx07 (by omega) (by omega) (by omega)).mono ?_
  rintro e w8 ⟨rfl, hx08, hG8⟩
  have s1 := hA2.size
  have s3 := hB3.size
  have hA8 : Below w.heap.size w w8 := bstepBy hA7 hG8 (fun g hg => by have := hx07.base_le g hg; omega)
  have hu7 := ((hu4.keep hB5).keep hB6).keep hB7
  have hg7 := ((hg0.keep hB5).keep hB6).keep hB7
  have hu8 := hu7.keepBy hG8 (own_apart hu0 hx0 (Nat.le_refl _))
  have hg8 := hg7.keepBy hG8 (own_apart' hx0 hg0 (Nat.le_refl _))
  have hk0 : decide ((1 + (l.length : Int)) < 0) = false := by simp; omega
  go_wp2_with fail
  refine (eqB_any w8 _ _ p p hg8.byt hu8.byt).mono ?_
  rintro e w9 ⟨rfl, hB9⟩
  have hA9 := bstep hA8 hB9
  have hd : decide (p = p) = true := by simp
  rw [hd]
  clear hd
  go_wp2_with fail
  have hg9 := hg8.keep hB9
  refine (markB_any w9 _ g0 p 1 hg9 (by omega) (by omega) (by omega)).mono ?_
  rintro e w10 ⟨rfl, hg10, hG10⟩
  have hu10 := (hu8.keep hB9).keepBy hG10 (own_apart hu0 hg0 (by omega))
  have hA10 : Below w.heap.size w w10 := bstepBy hA9 hG10 (fun g hg => by have := hg9.base_le g hg; omega)
  go_wp2_with fail
  refine (heldB_any w10 g0 p.length 1 hg10.byt (by omega) (by omega) (by omega)).mono ?_
  rintro e w11 ⟨rfl, rfl⟩
  have hq0 : decide ((1 + (p.length : Int)) < 0) = false := by simp; omega
  go_wp2_with fail
  refine (toB_any w11 _ l (h.keep hA10) (by omega)).mono ?_
  rintro e w12 ⟨z0, rfl, hz0, _, hB12⟩
  have hA12 := bstep hA10 hB12
  go_wp2_with fail
  refine (getTI_any w12 z0 l n hz0.byt).mono ?_
  rintro e w13 ⟨q0, rfl, hq13, hB13⟩
  have hA13 := bstep hA12 hB13
  rw [unhide HP] at hq13
  rw [unhide HR]
  go_wp2_with fail
  refine (eqB_any w13 _ _ p p hq13.byt ((hu10.keep hB12).keep hB13).byt).mono ?_
  rintro e w14 ⟨rfl, hB14⟩
  have hd : decide (p = p) = true := by simp
  rw [hd]
  clear hd
  go_wp2_with fail
  have hg14 := ((hg10.keep hB12).keep hB13).keep hB14
  refine (heldB_any w14 g0 p.length 1 hg14.byt (by omega) (by omega) (by omega)).mono ?_
  rintro e w15 ⟨rfl, rfl⟩
  go_wp2
  go_ret
  exact ⟨rfl, bstep hA13 hB14⟩
end Go.Proofs.Ytfblgdhbkakhcaa
