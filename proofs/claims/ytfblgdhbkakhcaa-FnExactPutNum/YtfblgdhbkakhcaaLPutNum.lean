/- The law on PutNum, walked by its callees' contracts: it returns true and writes nothing that was there. -/
import Derived.Test.YtfblgdhbkakhcaaEq
import Derived.Test.YtfblgdhbkakhcaaMark
import Derived.Test.YtfblgdhbkakhcaaPutS
import Derived.Test.YtfblgdhbkakhcaaPutI
namespace Go.Proofs.Ytfblgdhbkakhcaa
open Go.RowKit
set_option linter.unusedVariables false

/-- Two owned rows of which one was made behind the other lie in different blocks. -/
theorem own_apart {w w' : World} {b b' : Nat} {v v' : Value} {l l' : List Int} (h : Own w b v l) (h' : Own w' b' v' l') (hs : w.heap.size ≤ b') : v.ownBlock = none ∨ v.ownBlock ≠ v'.ownBlock := by
  cases hv : v.ownBlock with
  | none => exact .inl rfl
  | some g =>
    right
    intro e
    have h1 := h.lt g hv
    have h2 := h'.lt g e.symm
    omega
theorem own_apart' {w w' : World} {b b' : Nat} {v v' : Value} {l l' : List Int} (h : Own w b v l) (h' : Own w' b' v' l') (hs : w.heap.size ≤ b') : v'.ownBlock = none ∨ v'.ownBlock ≠ v.ownBlock := by
  cases hv : v'.ownBlock with
  | none => exact .inl rfl
  | some g =>
    right
    intro e
    have h1 := h.lt g e.symm
    have h2 := h'.lt g hv
    omega

set_option maxHeartbeats 3200000 in
theorem law_putnum (w : World) (v : Value) (l : List Int) (n : Int) (h : Byt w v l) :
    Calls Try.prog 4 #[v, .int .i64 n] w fun e w' => e = .returned (.bool true) ∧ Below w.heap.size w w' := by
  obtain ⟨a, cap, rfl, hlc, hcm⟩ := h.shape
  have hm := h.2.1
  unfold maxLen at hm
  by_cases hbig : 1048576 < l.length
  · have hb' : (1048576 : Int) < (l.length : Int) := by omega
    go_enter Try.func4, Try.ntmps4
    go_wp2
    go_ret
    exact ⟨rfl, Below.refl _ _⟩
  · have hb' : ¬ (1048576 : Int) < (l.length : Int) := by omega
    have hP := putAll_len l n
    go_enter Try.func4, Try.ntmps4
    go_wp2_with fail
    refine (toB_any w _ l h (by omega)).mono ?_
    rintro e w1 ⟨v1, rfl, ho1, _, hB1⟩
    go_wp2_with fail
    refine (putS_any w1 v1 l n ho1.byt (by omega)).mono ?_
    rintro e w2 ⟨u0, rfl, hu0, hB2⟩
    generalize hp : putAll l n = p at *
    have HP := hide hp
    clear hp
    go_wp2_with fail
    have h2 := (h.keep hB1).keep hB2
    refine (toB_any w2 _ l h2 (by omega)).mono ?_
    rintro e w3 ⟨x0, rfl, hx0, _, hB3⟩
    go_wp2_with fail
    refine (putI_any w3 x0 l n hx0.byt (by omega)).mono ?_
    rintro e w4 ⟨g0, rfl, hg0, hB4⟩
    rw [unhide HP] at hg0
    go_wp2_with fail
    refine (eqB_any w4 _ _ p p hg0.byt ((hu0.keep hB3).keep hB4).byt).mono ?_
    rintro e w5 ⟨rfl, hB5⟩
    have hd : decide (p = p) = true := by simp
    rw [hd]
    clear hd
    go_wp2_with fail
    have h5 := ((h2.keep hB3).keep hB4).keep hB5
    refine (toB_any w5 _ l h5 (by omega)).mono ?_
    rintro e w6 ⟨y0, rfl, hy0, _, hB6⟩
    go_wp2_with fail
    have hx6 := ((hx0.keep hB4).keep hB5).keep hB6
    refine (eqB_any w6 _ _ l l hx6.byt hy0.byt).mono ?_
    rintro e w7 ⟨rfl, hB7⟩
    have hd : decide (l = l) = true := by simp
    rw [hd]
    clear hd
    go_wp2_with fail
    have hx7 := hx6.keep hB7
    refine (markB_any w7 _ x0 l 1 hx7 (by omega) (by omega) (by omega)).mono ?_
    rintro e w8 ⟨rfl, hx8, hG8⟩
    have hu7 := ((((hu0.keep hB3).keep hB4).keep hB5).keep hB6).keep hB7
    have hg7 := ((hg0.keep hB5).keep hB6).keep hB7
    have hu8 := hu7.keepBy hG8 (own_apart hu0 hx0 (Nat.le_refl _))
    have hg8 := hg7.keepBy hG8 (own_apart' hx0 hg0 (Nat.le_refl _))
    have hB8 : Below w.heap.size w w8 := bstepBy (bstep (bstep (bstep (bstep (bstep (bstep hB1 hB2) hB3) hB4) hB5) hB6) hB7) hG8 (fun g hg => by have := hx7.base_le g hg; have := hB1.size; have := hB2.size; omega)
    have hk0 : decide ((1 + (l.length : Int)) < 0) = false := by simp; omega
    go_wp2_with fail
    refine (eqB_any w8 _ _ p p hg8.byt hu8.byt).mono ?_
    rintro e w9 ⟨rfl, hB9⟩
    have hd : decide (p = p) = true := by simp
    rw [hd]
    clear hd
    go_wp2_with fail
    have hg9 := hg8.keep hB9
    refine (markB_any w9 _ g0 p 1 hg9 (by omega) (by omega) (by omega)).mono ?_
    rintro e w10 ⟨rfl, hg10, hG10⟩
    have hu10 := (hu8.keep hB9).keepBy hG10 (own_apart hu0 hg0 (by have := hB3.size; omega))
    have hB10 : Below w.heap.size w w10 := bstepBy (bstep hB8 hB9) hG10 (fun g hg => by have := hg9.base_le g hg; have := hB1.size; have := hB2.size; have := hB3.size; omega)
    go_wp2_with fail
    refine (heldB_any w10 g0 p.length 1 hg10.byt (by omega) (by omega) (by omega)).mono ?_
    rintro e w11 ⟨rfl, rfl⟩
    have hq0 : decide ((1 + (p.length : Int)) < 0) = false := by simp; omega
    go_wp2_with fail
    have h11 := h.keep hB10
    refine (toB_any w11 _ l h11 (by omega)).mono ?_
    rintro e w12 ⟨z0, rfl, hz0, _, hB12⟩
    go_wp2_with fail
    refine (putI_any w12 z0 l n hz0.byt (by omega)).mono ?_
    rintro e w13 ⟨q0, rfl, hq13, hB13⟩
    rw [unhide HP] at hq13
    go_wp2_with fail
    refine (eqB_any w13 _ _ p p hq13.byt ((hu10.keep hB12).keep hB13).byt).mono ?_
    rintro e w14 ⟨rfl, hB14⟩
    have hd : decide (p = p) = true := by simp
    rw [hd]
    clear hd
    go_wp2_with fail
    have hg14 := ((hg10.keep hB12).keep hB13).keep hB14
    refine (heldB_any w14 g0 p.length 1 hg14.byt (by omega) (by omega) (by omega)).mono ?_
    rintro e w15 ⟨rfl, rfl⟩
    go_wp2
    go_ret
    exact ⟨rfl, bstep (bstep (bstep hB10 hB12) hB13) hB14⟩
end Go.Proofs.Ytfblgdhbkakhcaa
