/- The law on Markup, walked by its callees' contracts, impl's Markup's among them: it returns true and writes nothing that was there. -/
import Derived.Test.YteioihjgjbjmjaaSz
import Derived.Test.YteioihjgjbjmjaaEqT
import Derived.Test.YteioihjgjbjmjaaToT5
import Derived.Test.YteioihjgjbjmjaaMarkT
import Derived.Test.YteioihjgjbjmjaaCntT
import Derived.Test.YteioihjgjbjmjaaMkupT
import Derived.Test.YteioihjgjbjmjaaTool
import Derived.Test.YteioihjgjbjmjaaApart
namespace Go.Proofs.Yteioihjgjbjmjaa
open Go.RowKit
set_option linter.unusedVariables false
set_option maxRecDepth 100000

/-- What Markup tells of a tree. -/
def markupOf (n : Nat) (t : Tr (n + 1)) : List Int := if okN n t = true then mkup (n + 1) t else []
theorem markupOf_len (n : Nat) (t : Tr (n + 1)) : (markupOf n t).length ≤ 6 * szT (n + 1) t + 5 := by
  have := mkup_len (n + 1) t
  unfold markupOf
  split
  · exact this
  · simp

/-- What the law asks of impl's Markup. -/
def MarkISaid : Prop := ∀ (n : Nat) (w : World) (a b c d e : Value) (t : Tr (n + 1)) (F : List Nat), OwNode (n + 1) w [a, b, c, d, e] t F → szT (n + 1) t ≤ 2097152 →
    Calls Try.prog 19 #[.agg #[a, b, c, d, e]] w fun e w' => ∃ v, e = .returned v ∧ Own w' w.heap.size v (markupOf n t) ∧ Below w.heap.size w w'

set_option maxHeartbeats 6400000 in
theorem law_markup (hI : MarkISaid) (n : Nat) (w : World) (a b c d e : Value) (t : Tr (n + 1)) (h : RdNode (n + 1) w [a, b, c, d, e] t) :
    Calls Try.prog 6 #[.agg #[a, b, c, d, e]] w fun e w' => e = .returned (.bool true) ∧ Below w.heap.size w w' := by
  have h' := h
  obtain ⟨_, _, _, _, e0, k1, k2, hb, hc, hd, he⟩ := h
  simp only [List.cons.injEq, and_true] at e0
  obtain ⟨rfl, rfl, rfl, rfl, rfl⟩ := e0
  obtain ⟨ab, cb, rfl, _, _⟩ := hb.shape
  obtain ⟨ac, cc, rfl, _, _⟩ := hc.shape
  obtain ⟨ad, cd, rfl, _, _⟩ := Elems.shape hd
  obtain ⟨ae, ce, rfl, _, _⟩ := Elems.shape he
  generalize t.name.length = nb at *
  generalize t.text.length = nc at *
  generalize t.attrs.length = nd at *
  generalize t.kids.length = ne at *
  generalize hz : t.kind = z at *
  clear hb hc hd he
  have HH := hide h'
  clear h'
  have hA : Below w.heap.size w (w.alloc (.cells #[.int .i64 z, .slice ab nb cb, .slice ac nc cc, .slice ad nd cd, .slice ae ne ce] 26)) := (Below.refl _ _).alloc (Nat.le_refl _) _
  have l0 := Loc.made w #[.int .i64 z, .slice ab nb cb, .slice ac nc cc, .slice ad nd cd, .slice ae ne ce] 26
  by_cases hbig : (szT (n + 1) t : Int) ≤ 1048576
  · have hr : rest (szT (n + 1) t) 1048576 = 1048576 - (szT (n + 1) t : Int) := rest_in hbig
    have hsz : szT (n + 1) t ≤ 2097152 := by omega
    have hml : (mkup (n + 1) t).length ≤ 100000000 := by have := mkup_len (n + 1) t; omega
    have hpl := markupOf_len n t
    have hcn := cntT_sz (n + 1) t
    have HC := hide (show cntT (n + 1) t ≤ 1048576 by omega)
    have HP : Hid ((markupOf n t).length ≤ 16777216) := hide (by omega)
    have hr0 : decide (1048576 - (szT (n + 1) t : Int) < 0) = false := by simp; omega
    have hr1 : ¬ 1048576 - (szT (n + 1) t : Int) < 0 := by omega
    clear hpl hcn
    go_enter Try.func6, Try.ntmps6
    go_wp2_with fail
    refine (szNode_any (n + 1) _ _ _ _ _ _ t 1048576 ((unhide HH).keep hA) (by omega) (by omega)).mono ?_
    rintro e w1 ⟨rfl, hB1⟩
    rw [hr]
    generalize 1048576 - (szT (n + 1) t : Int) = r at *
    have hA1 := bstep hA hB1
    have l1 := l0.all hB1
    obtain ⟨x0, x1, x2, x3, x4⟩ := l1.five
    go_wp2_with fail
    refine (toNode_any (n + 1) w1 _ _ _ _ _ t ((unhide HH).keep hA1) hsz).mono ?_
    rintro e w2 ⟨kd, a1, n1, c1, a2, n2, c2, a3, n3, c3, a4, n4, c4, rfl, F, ho2, hF, hR, hB2⟩
    have hA2 := bstep hA1 hB2
    have l2 := l1.all hB2
    clear x0 x1 x2 x3 x4
    obtain ⟨x0, x1, x2, x3, x4⟩ := l2.five
    go_wp2_with fail
    refine (markupS_any n w2 _ _ _ _ _ t ho2.rd hml).mono ?_
    rintro e w3 ⟨u0, rfl, hu3, hB3⟩
    replace hu3 : Own w3 w2.heap.size u0 (markupOf n t) := hu3
    generalize hp : markupOf n t = p at *
    have HO := hide hp
    clear hp
    have hA3 := bstep hA2 hB3
    have l3 := l2.all hB3
    clear x0 x1 x2 x3 x4 ho2 hF hR
    obtain ⟨x0, x1, x2, x3, x4⟩ := l3.five
    go_wp2_with fail
    refine (toNode_any (n + 1) w3 _ _ _ _ _ t ((unhide HH).keep hA3) hsz).mono ?_
    rintro e w4 ⟨kd', a1', n1', c1', a2', n2', c2', a3', n3', c3', a4', n4', c4', rfl, F', ho4, hF', hR', hB4⟩
    have hA4 := bstep hA3 hB4
    have l4 := l3.all hB4
    clear x0 x1 x2 x3 x4
    go_wp2_with fail
    have hB5 : Below w4.heap.size w4 (w4.alloc (.cells #[.int .i64 kd', .slice a1' n1' c1', .slice a2' n2' c2', .slice a3' n3' c3', .slice a4' n4' c4'] 32)) := (Below.refl _ _).alloc (Nat.le_refl _) _
    have m5 := Loc.made w4 #[.int .i64 kd', .slice a1' n1' c1', .slice a2' n2' c2', .slice a3' n3' c3', .slice a4' n4' c4'] 32
    generalize (w4.alloc (.cells #[.int .i64 kd', .slice a1' n1' c1', .slice a2' n2' c2', .slice a3' n3' c3', .slice a4' n4' c4'] 32)) = w5 at *
    have hA5 := bstep hA4 hB5
    have l5 := l4.all hB5
    have ho5 := ho4.keep hB5
    have hu5 := (hu3.keep hB4).keep hB5
    have hS5 := m5.lt
    have hFS : ∀ g ∈ F', w3.heap.size ≤ g ∧ g < w4.heap.size := fun g hg => ⟨(hR' g hg).1, (hR' g hg).2⟩
    have s3 := hA3.size
    have s43 := hB4.size
    have s54 := hB5.size
    clear hB5
    generalize w4.heap.size = S at *
    refine (hI n w5 _ _ _ _ _ t F' ho5 hsz).mono ?_
    rintro e w6 ⟨g0, rfl, hg6, hB6⟩
    rw [unhide HO] at hg6
    have hA6 := bstep hA5 hB6
    have l6 := l5.all hB6
    have m6 := m5.all hB6
    have ho6 := ho5.keep hB6
    have hu6 := hu5.keep hB6
    go_wp2_with fail
    refine (eqB_any w6 _ _ p p hg6.byt hu6.byt).mono ?_
    rintro e w7 ⟨rfl, hB7⟩
    have hd : decide (p = p) = true := by simp
    rw [hd]
    have hA7 := bstep hA6 hB7
    have l7 := l6.all hB7
    have m7 := m6.all hB7
    have ho7 := ho6.keep hB7
    have hu7 := hu6.keep hB7
    have hg7 := hg6.keep hB7
    obtain ⟨x0, x1, x2, x3, x4⟩ := l7.five
    obtain ⟨y0, y1, y2, y3, y4⟩ := m7.five
    clear hd
    go_wp2_with fail
    go_region_held3 (fun w' => w'.cell? ⟨w.heap.size, 0, none⟩ = some (.int .i64 z) ∧ w'.cell? ⟨w.heap.size, 1, none⟩ = some (.slice ab nb cb) ∧ w'.cell? ⟨w.heap.size, 2, none⟩ = some (.slice ac nc cc) ∧ w'.cell? ⟨w.heap.size, 3, none⟩ = some (.slice ad nd cd) ∧ w'.cell? ⟨w.heap.size, 4, none⟩ = some (.slice ae ne ce) ∧ w'.cell? ⟨S, 0, none⟩ = some (.int .i64 kd') ∧ w'.cell? ⟨S, 1, none⟩ = some (.slice a1' n1' c1') ∧ w'.cell? ⟨S, 2, none⟩ = some (.slice a2' n2' c2') ∧ w'.cell? ⟨S, 3, none⟩ = some (.slice a3' n3' c3') ∧ w'.cell? ⟨S, 4, none⟩ = some (.slice a4' n4' c4'))
      (first | exact ⟨by assumption, by assumption, by assumption, by assumption, by assumption, by assumption, by assumption, by assumption, by assumption, by assumption⟩ | simp [*])
      (first | (go_at_call 9; refine (toNode_any (n + 1) _ _ _ _ _ _ t ((unhide HH).keep (hA7.drew)) hsz).mono ?_; rintro e w8 ⟨kd7, a17, n17, c17, a27, n27, c27, a37, n37, c37, a47, n47, c47, rfl, F7, ho8, hF7, hR7, hB8⟩; obtain ⟨x0, x1, x2, x3, x4⟩ := ((l7.all ((Below.refl _ _).drew)).all hB8).five; obtain ⟨y0, y1, y2, y3, y4⟩ := ((m7.all ((Below.refl _ _).drew)).all hB8).five) | (go_at_call 11; refine (eqNode_any (n + 1) _ _ _ _ _ _ _ _ _ _ _ t ((ho7.keep ((Below.refl _ _).drew)).keep hB8).rd ho8.rd).mono ?_; rintro e w9 ⟨rfl, hB9⟩; obtain ⟨x0, x1, x2, x3, x4⟩ := (((l7.all ((Below.refl _ _).drew)).all hB8).all hB9).five; obtain ⟨y0, y1, y2, y3, y4⟩ := (((m7.all ((Below.refl _ _).drew)).all hB8).all hB9).five))
    have hB79 : Below w7.heap.size w7 w9 := bstep (bstep ((Below.refl _ _).drew) hB8) hB9
    clear hB8 hB9 ho8 hF7 hR7
    have hA9 := bstep hA7 hB79
    have l9 := l7.all hB79
    have m9 := m7.all hB79
    have ho9 := ho7.keep hB79
    have hu9 := hu7.keep hB79
    have hg9 := hg7.keep hB79
    go_wp2_with fail
    refine (markN_any n w9 _ _ _ _ _ t F' 1 ho9 hF' (by have := unhide HC; omega) (by omega) (by have := unhide HC; omega)).mono ?_
    rintro e w10 ⟨rfl, _, hM⟩
    have hA10 : Below w.heap.size w w10 := hA9.trans (hM.below hA9.size (fun g hg => by have := (hFS g hg).1; omega))
    have l10 := l9.frm hM (fun hg => by have := (hFS _ hg).1; have := l3.lt; omega)
    have hu10 := hu9.frm hM (fun g hg hg' => by have := (hFS _ hg').1; have := (hu3.lt g (by simpa [FB] using hg)).2; omega)
    have hg10 := hg9.frm hM (fun g hg hg' => by have := (hFS _ hg').2; have := hg6.base_le g (by simpa [FB] using hg); omega)
    clear x0 x1 x2 x3 x4 y0 y1 y2 y3 y4 hM ho4 ho5 ho6 ho7 ho9 hF'
    have hcn := unhide HC
    generalize cntT (n + 1) t = ct at *
    have hk0 : decide ((1 + (ct : Int)) < 0) = false := by simp; omega
    have hk1 : ¬ (1 + (ct : Int)) < 0 := by omega
    go_wp2_with fail
    refine (eqB_any w10 _ _ p p hg10.byt hu10.byt).mono ?_
    rintro e w11 ⟨rfl, hB11⟩
    have hd : decide (p = p) = true := by simp
    rw [hd]
    clear hd
    have hA11 := bstep hA10 hB11
    have l11 := l10.all hB11
    have hu11 := hu10.keep hB11
    have hg11 := hg10.keep hB11
    have hpl := unhide HP
    go_wp2_with fail
    refine (markB_any w11 _ g0 p 1 hg11 (by omega) (by omega) (by omega)).mono ?_
    rintro e w12 ⟨rfl, hg12, hG12⟩
    have hu12 := hu11.keepBy hG12 (own_apart hu3 hg6 (by omega))
    have hA12 : Below w.heap.size w w12 := bstepBy hA11 hG12 (fun g hg => by have := hg11.base_le g hg; omega)
    have l12 := l11.frm (Frm.ofGrown hG12) (fun hg => by have := hg11.base_le _ (by simpa using hg); have := l3.lt; omega)
    go_wp2_with fail
    refine (heldB_any w12 g0 p.length 1 hg12.byt (by omega) (by omega) (by omega)).mono ?_
    rintro e w13 ⟨rfl, rfl⟩
    have hq0 : decide ((1 + (p.length : Int)) < 0) = false := by simp; omega
    obtain ⟨x0, x1, x2, x3, x4⟩ := l12.five
    go_wp2_with fail
    refine (toNode_any (n + 1) w13 _ _ _ _ _ t ((unhide HH).keep hA12) hsz).mono ?_
    rintro e w14 ⟨kd8, a18, n18, c18, a28, n28, c28, a38, n38, c38, a48, n48, c48, rfl, F8, ho14, hF8, hR8, hB14⟩
    have hA14 := bstep hA12 hB14
    clear x0 x1 x2 x3 x4
    go_wp2_with fail
    refine (hI n w14 _ _ _ _ _ t F8 ho14 hsz).mono ?_
    rintro e w15 ⟨q0, rfl, hq15, hB15⟩
    rw [unhide HO] at hq15
    have hA15 := bstep hA14 hB15
    go_wp2_with fail
    refine (eqB_any w15 _ _ p p hq15.byt ((hu12.keep hB14).keep hB15).byt).mono ?_
    rintro e w16 ⟨rfl, hB16⟩
    have hd : decide (p = p) = true := by simp
    rw [hd]
    clear hd
    have hg16 := ((hg12.keep hB14).keep hB15).keep hB16
    go_wp2_with fail
    refine (heldB_any w16 g0 p.length 1 hg16.byt (by omega) (by omega) (by omega)).mono ?_
    rintro e w17 ⟨rfl, rfl⟩
    go_wp2
    go_ret
    exact ⟨rfl, bstep hA15 hB16⟩
  · have hr : rest (szT (n + 1) t) 1048576 = -1 := rest_out hbig
    go_enter Try.func6, Try.ntmps6
    go_wp2_with fail
    refine (szNode_any (n + 1) _ _ _ _ _ _ t 1048576 ((unhide HH).keep hA) (by omega) (by omega)).mono ?_
    rintro e w1 ⟨rfl, hB1⟩
    rw [hr]
    go_wp2
    go_ret
    exact ⟨rfl, bstep hA hB1⟩
end Go.Proofs.Yteioihjgjbjmjaa
