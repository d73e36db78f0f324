/- The law on PutText, walked by its callees' contracts: it returns true and writes nothing that was there. -/
import Derived.Test.YtfblgdhbkakhcaaLPutNum
import Derived.Test.YtfblgdhbkakhcaaTextP
namespace Go.Proofs.Ytfblgdhbkakhcaa
open Go.RowKit
set_option linter.unusedVariables false

set_option maxHeartbeats 3200000 in
theorem law_puttext (w : World) (v u : Value) (l t : List Int) (h : Byt w v l) (hu : Byt w u t) :
    Calls Try.prog 6 #[v, u] w fun e w' => e = .returned (.bool true) ∧ Below w.heap.size w w' := by
  obtain ⟨a, cap, rfl, hlc, hcm⟩ := h.shape
  obtain ⟨a', cap', rfl, hlc', hcm'⟩ := hu.shape
  have hm := h.2.1
  have hm' := hu.2.1
  unfold maxLen at hm hm'
  by_cases hbig : 1048576 < l.length
  · have hb' : (1048576 : Int) < (l.length : Int) := by omega
    go_enter Try.func6, Try.ntmps6
    go_wp2
    go_ret
    exact ⟨rfl, Below.refl _ _⟩
  have hb' : ¬ (1048576 : Int) < (l.length : Int) := by omega
  by_cases hbig2 : 1048576 < t.length
  · have hb2 : (1048576 : Int) < (t.length : Int) := by omega
    go_enter Try.func6, Try.ntmps6
    go_wp2
    go_ret
    exact ⟨rfl, Below.refl _ _⟩
  have hb2 : ¬ (1048576 : Int) < (t.length : Int) := by omega
  have hP := putT_len l t
  go_enter Try.func6, Try.ntmps6
  go_wp2_with fail
  refine (toB_any w _ l h (by omega)).mono ?_
  rintro e w1 ⟨v1, rfl, ho1, _, hB1⟩
  have hu1 := hu.keep hB1
  go_wp2_with fail
  refine (toB_any w1 _ t hu1 (by omega)).mono ?_
  rintro e w1' ⟨v1', rfl, ho1', _, hB1'⟩
  go_wp2_with fail
  refine (putTS_any w1' v1 v1' l t (ho1.keep hB1').byt ho1'.byt (by omega)).mono ?_
  rintro e w2 ⟨u0, rfl, hu0, hB2⟩
  generalize hp : putT l t = p at *
  have HP := hide hp
  clear hp
  have hA2 : Below w.heap.size w w2 := bstep (bstep hB1 hB1') hB2
  go_wp2_with fail
  refine (toB_any w2 _ l (h.keep hA2) (by omega)).mono ?_
  rintro e w3 ⟨x0, rfl, hx0, _, hB3⟩
  have hA3 := bstep hA2 hB3
  go_wp2_with fail
  refine (toB_any w3 _ t (hu.keep hA3) (by omega)).mono ?_
  rintro e w4 ⟨x1, rfl, hx1, _, hB4⟩
  have hA4 := bstep hA3 hB4
  go_wp2_with fail
  refine (putTI_any w4 x0 x1 l t (hx0.keep hB4).byt hx1.byt (by omega)).mono ?_
  rintro e w5 ⟨g0, rfl, hg0, hB5⟩
  have hA5 := bstep hA4 hB5
  rw [unhide HP] at hg0
  go_wp2_with fail
  have hu5 := ((hu0.keep hB3).keep hB4).keep hB5
  refine (eqB_any w5 _ _ p p hg0.byt hu5.byt).mono ?_
  rintro e w6 ⟨rfl, hB6⟩
  have hA6 := bstep hA5 hB6
  have hd : decide (p = p) = true := by simp
  rw [hd]
  clear hd
  -- the arguments are as they were
  go_wp2_with fail
  refine (toB_any w6 _ l (h.keep hA6) (by omega)).mono ?_
  rintro e w7 ⟨y0, rfl, hy0, _, hB7⟩
  have hA7 := bstep hA6 hB7
  go_wp2_with fail
  have hx07 := (((hx0.keep hB4).keep hB5).keep hB6).keep hB7
  refine (eqB_any w7 _ _ l l hx07.byt hy0.byt).mono ?_
  rintro e w8 ⟨rfl, hB8⟩
  have hA8 := bstep hA7 hB8
  have hd : decide (l = l) = true := by simp
  rw [hd]
  clear hd
  go_wp2_with fail
  refine (toB_any w8 _ t (hu.keep hA8) (by omega)).mono ?_
  rintro e w9 ⟨y1, rfl, hy1, _, hB9⟩
  have hA9 := bstep hA8 hB9
  go_wp2_with fail
  have hx19 := ((((hx1.keep hB5).keep hB6).keep hB7).keep hB8).keep hB9
  refine (eqB_any w9 _ _ t t hx19.byt hy1.byt).mono ?_
  rintro e w10 ⟨rfl, hB10⟩
  have hA10 := bstep hA9 hB10
  have hd : decide (t = t) = true := by simp
  rw [hd]
  clear hd
  -- the arguments are written over
  go_wp2_with fail
  have hx010 := ((hx07.keep hB8).keep hB9).keep hB10
  refine (markB_any w10 _ x0 l 1 hx010 (by omega) (by omega) (by omega)).mono ?_
  rintro e w11 ⟨rfl, hx011, hG11⟩
  have s1 := hA2.size
  have s3 := hB3.size
  have s4 := hB4.size
  have hA11 : Below w.heap.size w w11 := bstepBy hA10 hG11 (fun g hg => by have := hx010.base_le g hg; omega)
  have hx110 := hx19.keep hB10
  have hx111 := hx110.keepBy hG11 (own_apart' hx0 hx1 (Nat.le_refl _))
  have hu10 := ((((hu5.keep hB6).keep hB7).keep hB8).keep hB9).keep hB10
  have hg10 := ((((hg0.keep hB6).keep hB7).keep hB8).keep hB9).keep hB10
  have hu11 := hu10.keepBy hG11 (own_apart hu0 hx0 (Nat.le_refl _))
  have hg11 := hg10.keepBy hG11 (own_apart' hx0 hg0 (by omega))
  go_wp2_with fail
  refine (markB_any w11 _ x1 t (1 + (l.length : Int)) hx111 (by omega) (by omega) (by omega)).mono ?_
  rintro e w12 ⟨rfl, hx112, hG12⟩
  have hA12 : Below w.heap.size w w12 := bstepBy hA11 hG12 (fun g hg => by have := hx111.base_le g hg; omega)
  have hu12 := hu11.keepBy hG12 (own_apart hu0 hx1 (by omega))
  have hg12 := hg11.keepBy hG12 (own_apart' hx1 hg0 (Nat.le_refl _))
  have hk0 : decide ((1 + (l.length : Int) + (t.length : Int)) < 0) = false := by simp; omega
  go_wp2_with fail
  refine (eqB_any w12 _ _ p p hg12.byt hu12.byt).mono ?_
  rintro e w13 ⟨rfl, hB13⟩
  have hA13 := bstep hA12 hB13
  have hd : decide (p = p) = true := by simp
  rw [hd]
  clear hd
  -- the answer is written over
  go_wp2_with fail
  have hg13 := hg12.keep hB13
  refine (markB_any w13 _ g0 p 1 hg13 (by omega) (by omega) (by omega)).mono ?_
  rintro e w14 ⟨rfl, hg14, hG14⟩
  have hu14 := (hu12.keep hB13).keepBy hG14 (own_apart hu0 hg0 (by omega))
  have hA14 : Below w.heap.size w w14 := bstepBy hA13 hG14 (fun g hg => by have := hg13.base_le g hg; omega)
  go_wp2_with fail
  refine (heldB_any w14 g0 p.length 1 hg14.byt (by omega) (by omega) (by omega)).mono ?_
  rintro e w15 ⟨rfl, rfl⟩
  have hq0 : decide ((1 + (p.length : Int)) < 0) = false := by simp; omega
  go_wp2_with fail
  refine (toB_any w15 _ l (h.keep hA14) (by omega)).mono ?_
  rintro e w16 ⟨z0, rfl, hz0, _, hB16⟩
  have hA16 := bstep hA14 hB16
  go_wp2_with fail
  refine (toB_any w16 _ t (hu.keep hA16) (by omega)).mono ?_
  rintro e w17 ⟨z1, rfl, hz1, _, hB17⟩
  have hA17 := bstep hA16 hB17
  go_wp2_with fail
  refine (putTI_any w17 z0 z1 l t (hz0.keep hB17).byt hz1.byt (by omega)).mono ?_
  rintro e w18 ⟨q0, rfl, hq18, hB18⟩
  have hA18 := bstep hA17 hB18
  rw [unhide HP] at hq18
  go_wp2_with fail
  refine (eqB_any w18 _ _ p p hq18.byt (((hu14.keep hB16).keep hB17).keep hB18).byt).mono ?_
  rintro e w19 ⟨rfl, hB19⟩
  have hd : decide (p = p) = true := by simp
  rw [hd]
  clear hd
  go_wp2_with fail
  have hg19 := (((hg14.keep hB16).keep hB17).keep hB18).keep hB19
  refine (heldB_any w19 g0 p.length 1 hg19.byt (by omega) (by omega) (by omega)).mono ?_
  rintro e w20 ⟨rfl, rfl⟩
  go_wp2
  go_ret
  exact ⟨rfl, bstep hA18 hB19⟩
end Go.Proofs.Ytfblgdhbkakhcaa
