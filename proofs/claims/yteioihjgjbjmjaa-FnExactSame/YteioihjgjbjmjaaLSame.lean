/- The law on Same, walked by its callees' contracts: it returns true and writes nothing that was there. -/
import Derived.Test.YteioihjgjbjmjaaSz
import Derived.Test.YteioihjgjbjmjaaEqT
import Derived.Test.YteioihjgjbjmjaaToT5
import Derived.Test.YteioihjgjbjmjaaSameS
import Derived.Test.YteioihjgjbjmjaaSameI
namespace Go.Proofs.Yteioihjgjbjmjaa
open Go.RowKit
set_option linter.unusedVariables false
set_option maxRecDepth 100000

set_option maxHeartbeats 6400000 in
theorem law_same (n : Nat) (w : World) (a b c d e a' b' c' d' e' : Value) (t u : Tr (n + 1)) (h : RdNode (n + 1) w [a, b, c, d, e] t) (h' : RdNode (n + 1) w [a', b', c', d', e'] u) :
    Calls Try.prog 4 #[.agg #[a, b, c, d, e], .agg #[a', b', c', d', e']] w fun e w' => e = .returned (.bool true) ∧ Below w.heap.size w w' := by
  obtain ⟨z, ab, nb, cb, ac, nc, cc, ad, nd, cd, ae, ne, ce, rfl, rfl, rfl, rfl, rfl⟩ := rd_five h
  obtain ⟨z', ab', nb', cb', ac', nc', cc', ad', nd', cd', ae', ne', ce', rfl, rfl, rfl, rfl, rfl⟩ := rd_five h'
  obtain ⟨l1, l2, hB⟩ := two w #[.int .i64 z, .slice ab nb cb, .slice ac nc cc, .slice ad nd cd, .slice ae ne ce] #[.int .i64 z', .slice ab' nb' cb', .slice ac' nc' cc', .slice ad' nd' cd', .slice ae' ne' ce'] 26 26
  have HH := hide h
  have HH' := hide h'
  clear h h'
  by_cases hbig : (szT (n + 1) t : Int) ≤ 1048576
  · have hr : rest (szT (n + 1) t) 1048576 = 1048576 - (szT (n + 1) t : Int) := rest_in hbig
    have hsz : szT (n + 1) t ≤ 2097152 := by omega
    have hr0 : decide (1048576 - (szT (n + 1) t : Int) < 0) = false := by simp; omega
    go_enter Try.func4, Try.ntmps4
    go_wp2_with fail
    generalize (w.alloc (.cells #[.int .i64 z, .slice ab nb cb, .slice ac nc cc, .slice ad nd cd, .slice ae ne ce] 26)).alloc (.cells #[.int .i64 z', .slice ab' nb' cb', .slice ac' nc' cc', .slice ad' nd' cd', .slice ae' ne' ce'] 26) = w1 at *
    refine (szNode_any (n + 1) _ _ _ _ _ _ t 1048576 ((unhide HH).keep hB) (by omega) (by omega)).mono ?_
    rintro e w2 ⟨rfl, hB2⟩
    have hA2 := bstep hB hB2
    have l12 := l1.all hB2
    have l22 := l2.all hB2
    rw [hr]
    obtain ⟨x0, x1, x2, x3, x4⟩ := l12.five
    obtain ⟨y0, y1, y2, y3, y4⟩ := l22.five
    obtain ⟨r, hrr⟩ : ∃ r, r = 1048576 - (szT (n + 1) t : Int) := ⟨_, rfl⟩
    rw [← hrr] at hr0 ⊢
    have hr1 : 0 ≤ r := by omega
    have hr2 : r ≤ 1048576 := by omega
    clear hr hbig hrr
    go_wp2_with fail
    refine (szNode_any (n + 1) _ _ _ _ _ _ u r ((unhide HH').keep hA2) (by omega) (by omega)).mono ?_
    rintro e w3 ⟨rfl, hB3⟩
    have hA3 := bstep hA2 hB3
    have l13 := l12.all hB3
    have l23 := l22.all hB3
    clear x0 x1 x2 x3 x4 y0 y1 y2 y3 y4
    obtain ⟨x0, x1, x2, x3, x4⟩ := l13.five
    obtain ⟨y0, y1, y2, y3, y4⟩ := l23.five
    by_cases hbig' : (szT (n + 1) u : Int) ≤ r
    · have hsz' : szT (n + 1) u ≤ 2097152 := by omega
      rw [rest_in hbig']
      have hq0 : decide (r - (szT (n + 1) u : Int) < 0) = false := by simp; omega
      generalize r - (szT (n + 1) u : Int) = r' at *
      clear hr0 hr1 hr2 hbig'
      have HT := hide (fun (W : World) (hW : Below w3.heap.size w3 W) => toNode_any (n + 1) W _ _ _ _ _ t ((unhide HH).keep (bstep hA3 hW)) hsz)
      have HU := hide (fun (W : World) (hW : Below w3.heap.size w3 W) => toNode_any (n + 1) W _ _ _ _ _ u ((unhide HH').keep (bstep hA3 hW)) hsz')
      have HTb := HT
      have HUb := HU
      go_wp2_with fail
      go_region_held3 (fun w' => w'.cell? ⟨w.heap.size, 0, none⟩ = some (.int .i64 z) ∧ w'.cell? ⟨w.heap.size, 1, none⟩ = some (.slice ab nb cb) ∧ w'.cell? ⟨w.heap.size, 2, none⟩ = some (.slice ac nc cc) ∧ w'.cell? ⟨w.heap.size, 3, none⟩ = some (.slice ad nd cd) ∧ w'.cell? ⟨w.heap.size, 4, none⟩ = some (.slice ae ne ce) ∧ w'.cell? ⟨w.heap.size + 1, 0, none⟩ = some (.int .i64 z') ∧ w'.cell? ⟨w.heap.size + 1, 1, none⟩ = some (.slice ab' nb' cb') ∧ w'.cell? ⟨w.heap.size + 1, 2, none⟩ = some (.slice ac' nc' cc') ∧ w'.cell? ⟨w.heap.size + 1, 3, none⟩ = some (.slice ad' nd' cd') ∧ w'.cell? ⟨w.heap.size + 1, 4, none⟩ = some (.slice ae' ne' ce'))
        (first | exact ⟨by assumption, by assumption, by assumption, by assumption, by assumption, by assumption, by assumption, by assumption, by assumption, by assumption⟩ | simp [*])
        (first
          | (go_at_call 9; refine (unhide HT _ ((Below.refl _ _).drew)).mono ?_; clear HT; rintro e w4 ⟨kd4, a14, n14, c14, a24, n24, c24, a34, n34, c34, a44, n44, c44, rfl, F4, ho4, hF4, hR4, hB4⟩; have hD4 := bstep ((Below.refl w3.heap.size w3).drew) hB4; obtain ⟨x0, x1, x2, x3, x4⟩ := (l13.all hD4).five; obtain ⟨y0, y1, y2, y3, y4⟩ := (l23.all hD4).five)
          | (go_at_call 9; refine (unhide HU _ hD4).mono ?_; clear HU; rintro e w5 ⟨kd5, a15, n15, c15, a25, n25, c25, a35, n35, c35, a45, n45, c45, rfl, F5, ho5, hF5, hR5, hB5⟩; have hD5 := bstep hD4 hB5; obtain ⟨x0, x1, x2, x3, x4⟩ := (l13.all hD5).five; obtain ⟨y0, y1, y2, y3, y4⟩ := (l23.all hD5).five)
          | (go_at_call 12; refine (sameS_any n _ _ _ _ _ _ _ _ _ _ _ t u (ho4.keep hB5).rd ho5.rd).mono ?_; rintro e w6 ⟨rfl, hB6⟩; have hD6 := bstep hD5 hB6; obtain ⟨x0, x1, x2, x3, x4⟩ := (l13.all hD6).five; obtain ⟨y0, y1, y2, y3, y4⟩ := (l23.all hD6).five))
      generalize hsb : sameN n t u = sb at *
      have HSB := hide hsb
      clear hsb ho4 ho5 hF4 hF5 hR4 hR5 hB4 hB5 hB6 hD4 hD5
      have HTc := HTb
      have HUc := HUb
      go_wp2_with fail
      refine (unhide HTb _ hD6).mono ?_
      clear HTb
      rintro e w7 ⟨kd7, a17, n17, c17, a27, n27, c27, a37, n37, c37, a47, n47, c47, rfl, F7, ho7, hF7, hR7, hB7⟩
      have hD7 := bstep hD6 hB7
      have hB7a : Below w7.heap.size w7 (w7.alloc (.cells #[.int .i64 kd7, .slice a17 n17 c17, .slice a27 n27 c27, .slice a37 n37 c37, .slice a47 n47 c47] 32)) := (Below.refl _ _).alloc (Nat.le_refl _) _
      have m7 := Loc.made w7 #[.int .i64 kd7, .slice a17 n17 c17, .slice a27 n27 c27, .slice a37 n37 c37, .slice a47 n47 c47] 32
      have hD7a := bstep hD7 hB7a
      have ho7a := ho7.keep hB7a
      clear x0 x1 x2 x3 x4 y0 y1 y2 y3 y4
      obtain ⟨y0, y1, y2, y3, y4⟩ := (l23.all hD7a).five
      go_wp2_with fail
      generalize (w7.alloc (.cells #[.int .i64 kd7, .slice a17 n17 c17, .slice a27 n27 c27, .slice a37 n37 c37, .slice a47 n47 c47] 32)) = w7a at *
      obtain ⟨S7, hS7⟩ : ∃ S7, S7 = w7.heap.size := ⟨_, rfl⟩
      rw [← hS7] at m7 ⊢
      clear hS7 hB7a hB7
      refine (unhide HUb _ hD7a).mono ?_
      clear HUb
      rintro e w8 ⟨kd8, a18, n18, c18, a28, n28, c28, a38, n38, c38, a48, n48, c48, rfl, F8, ho8, hF8, hR8, hB8⟩
      have hD8 := bstep hD7a hB8
      have hB8a : Below w8.heap.size w8 (w8.alloc (.cells #[.int .i64 kd8, .slice a18 n18 c18, .slice a28 n28 c28, .slice a38 n38 c38, .slice a48 n48 c48] 32)) := (Below.refl _ _).alloc (Nat.le_refl _) _
      have m8 := Loc.made w8 #[.int .i64 kd8, .slice a18 n18 c18, .slice a28 n28 c28, .slice a38 n38 c38, .slice a48 n48 c48] 32
      have hD8a := bstep hD8 hB8a
      have ho8a := ho8.keep hB8a
      have ho78 := (ho7a.keep hB8).keep hB8a
      have m78 := (m7.all hB8).all hB8a
      clear y0 y1 y2 y3 y4
      obtain ⟨u0, u1, u2, u3, u4⟩ := m78.five
      go_wp2_with fail
      generalize (w8.alloc (.cells #[.int .i64 kd8, .slice a18 n18 c18, .slice a28 n28 c28, .slice a38 n38 c38, .slice a48 n48 c48] 32)) = w8a at *
      obtain ⟨S8, hS8⟩ : ∃ S8, S8 = w8.heap.size := ⟨_, rfl⟩
      rw [← hS8] at m8 ⊢
      clear hS8 hB8a hB8 m7 ho7 ho7a ho8 hF7 hR7 hF8 hR8
      refine (sameI_any n w8a _ _ _ _ _ _ _ _ _ _ t u ho78.rd ho8a.rd hsz hsz').mono ?_
      rintro e w9 ⟨rfl, hB9⟩
      rw [unhide HSB]
      have hD9 := bstep hD8a hB9
      have hoA := ho78.keep hB9
      have hoB := ho8a.keep hB9
      have mA := m78.all hB9
      have mB := m8.all hB9
      clear u0 u1 u2 u3 u4 ho78 ho8a m78 m8
      have hne : (sb != sb) = false := by simp
      obtain ⟨x0, x1, x2, x3, x4⟩ := (l13.all hD9).five
      obtain ⟨u0, u1, u2, u3, u4⟩ := mA.five
      have HTd := HTc
      go_wp2_with fail
      go_region_held3 (fun w' => w'.cell? ⟨w.heap.size, 0, none⟩ = some (.int .i64 z) ∧ w'.cell? ⟨w.heap.size, 1, none⟩ = some (.slice ab nb cb) ∧ w'.cell? ⟨w.heap.size, 2, none⟩ = some (.slice ac nc cc) ∧ w'.cell? ⟨w.heap.size, 3, none⟩ = some (.slice ad nd cd) ∧ w'.cell? ⟨w.heap.size, 4, none⟩ = some (.slice ae ne ce) ∧ w'.cell? ⟨S7, 0, none⟩ = some (.int .i64 kd7) ∧ w'.cell? ⟨S7, 1, none⟩ = some (.slice a17 n17 c17) ∧ w'.cell? ⟨S7, 2, none⟩ = some (.slice a27 n27 c27) ∧ w'.cell? ⟨S7, 3, none⟩ = some (.slice a37 n37 c37) ∧ w'.cell? ⟨S7, 4, none⟩ = some (.slice a47 n47 c47))
        (first | exact ⟨by assumption, by assumption, by assumption, by assumption, by assumption, by assumption, by assumption, by assumption, by assumption, by assumption⟩ | simp [*])
        (first
          | (go_at_call 9; refine (unhide HTd _ (hD9.drew)).mono ?_; clear HTd; rintro e wa ⟨kda, a1a, n1a, c1a, a2a, n2a, c2a, a3a, n3a, c3a, a4a, n4a, c4a, rfl, Fa, hoa, hFa, hRa, hBa⟩; have hEa := bstep ((Below.refl w9.heap.size w9).drew) hBa; obtain ⟨x0, x1, x2, x3, x4⟩ := ((l13.all hD9).all hEa).five; obtain ⟨u0, u1, u2, u3, u4⟩ := (mA.all hEa).five)
          | (go_at_call 11; refine (eqNode_any (n + 1) _ _ _ _ _ _ _ _ _ _ _ t (hoA.keep hEa).rd hoa.rd).mono ?_; rintro e wb ⟨rfl, hBb⟩; have hEb := bstep hEa hBb; obtain ⟨x0, x1, x2, x3, x4⟩ := ((l13.all hD9).all hEb).five; obtain ⟨u0, u1, u2, u3, u4⟩ := (mA.all hEb).five))
      have hDb := bstep hD9 hEb
      have hoC := hoB.keep hEb
      have mC := mB.all hEb
      clear x0 x1 x2 x3 x4 u0 u1 u2 u3 u4 hoa hFa hRa hBa hBb hEa
      obtain ⟨y0, y1, y2, y3, y4⟩ := (l23.all hDb).five
      obtain ⟨u0, u1, u2, u3, u4⟩ := mC.five
      go_wp2_with fail
      go_region_held3 (fun w' => w'.cell? ⟨w.heap.size + 1, 0, none⟩ = some (.int .i64 z') ∧ w'.cell? ⟨w.heap.size + 1, 1, none⟩ = some (.slice ab' nb' cb') ∧ w'.cell? ⟨w.heap.size + 1, 2, none⟩ = some (.slice ac' nc' cc') ∧ w'.cell? ⟨w.heap.size + 1, 3, none⟩ = some (.slice ad' nd' cd') ∧ w'.cell? ⟨w.heap.size + 1, 4, none⟩ = some (.slice ae' ne' ce') ∧ w'.cell? ⟨S8, 0, none⟩ = some (.int .i64 kd8) ∧ w'.cell? ⟨S8, 1, none⟩ = some (.slice a18 n18 c18) ∧ w'.cell? ⟨S8, 2, none⟩ = some (.slice a28 n28 c28) ∧ w'.cell? ⟨S8, 3, none⟩ = some (.slice a38 n38 c38) ∧ w'.cell? ⟨S8, 4, none⟩ = some (.slice a48 n48 c48))
        (first | exact ⟨by assumption, by assumption, by assumption, by assumption, by assumption, by assumption, by assumption, by assumption, by assumption, by assumption⟩ | simp [*])
        (first
          | (go_at_call 9; refine (unhide HUc _ (hDb.drew)).mono ?_; clear HUc; rintro e wc ⟨kdc, a1c, n1c, c1c, a2c, n2c, c2c, a3c, n3c, c3c, a4c, n4c, c4c, rfl, Fc, hoc, hFc, hRc, hBc⟩; have hEc := bstep ((Below.refl wb.heap.size wb).drew) hBc; obtain ⟨y0, y1, y2, y3, y4⟩ := ((l23.all hDb).all hEc).five; obtain ⟨u0, u1, u2, u3, u4⟩ := (mC.all hEc).five)
          | (go_at_call 11; refine (eqNode_any (n + 1) _ _ _ _ _ _ _ _ _ _ _ u (hoC.keep hEc).rd hoc.rd).mono ?_; rintro e wd ⟨rfl, hBd⟩; have hEd := bstep hEc hBd; obtain ⟨y0, y1, y2, y3, y4⟩ := ((l23.all hDb).all hEd).five; obtain ⟨u0, u1, u2, u3, u4⟩ := (mC.all hEd).five))
      go_wp2_with fail
      go_ret
      exact ⟨rfl, bstep hA3 (bstep hDb hEd)⟩
    · rw [rest_out hbig']
      go_wp2_with fail
      go_ret
      exact ⟨rfl, hA3⟩
  · have hr : rest (szT (n + 1) t) 1048576 = -1 := rest_out hbig
    go_enter Try.func4, Try.ntmps4
    go_wp2_with fail
    generalize (w.alloc (.cells #[.int .i64 z, .slice ab nb cb, .slice ac nc cc, .slice ad nd cd, .slice ae ne ce] 26)).alloc (.cells #[.int .i64 z', .slice ab' nb' cb', .slice ac' nc' cc', .slice ad' nd' cd', .slice ae' ne' ce'] 26) = w1 at *
    refine (szNode_any (n + 1) _ _ _ _ _ _ t 1048576 ((unhide HH).keep hB) (by omega) (by omega)).mono ?_
    rintro e w2 ⟨rfl, hB2⟩
    rw [hr]
    go_wp2_with fail
    go_ret
    exact ⟨rfl, bstep hB hB2⟩

/-- The same, of two arguments each of which is a tree at every depth from some depth on. -/
theorem law_same2 (w : World) (a b c d e a' b' c' d' e' : Value) (M M' : Nat) (h : ∀ m, M ≤ m → ∃ t : Tr (m + 1), RdNode (m + 1) w [a, b, c, d, e] t) (h' : ∀ m, M' ≤ m → ∃ t : Tr (m + 1), RdNode (m + 1) w [a', b', c', d', e'] t) :
    Calls Try.prog 4 #[.agg #[a, b, c, d, e], .agg #[a', b', c', d', e']] w fun e w' => e = .returned (.bool true) ∧ Below w.heap.size w w' := by
  obtain ⟨t, ht⟩ := h (M + M') (by omega)
  obtain ⟨u, hu⟩ := h' (M + M') (by omega)
  exact law_same (M + M') w a b c d e a' b' c' d' e' t u ht hu
end Go.Proofs.Yteioihjgjbjmjaa
