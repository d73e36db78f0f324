/- impl.Same answers whether two trees may be and are one. -/
import Derived.Test.YteioihjgjbjmjaaPartsI
import Derived.Test.YteioihjgjbjmjaaSameM
import Derived.Deep.RegionHeld3
import Derived.Deep.RegionWith
namespace Go.Proofs.Yteioihjgjbjmjaa
open Go.RowKit
set_option linter.unusedVariables false
set_option maxRecDepth 100000

theorem RdNode.shape5 {n : Nat} {w : World} {a b c d e : Value} {t : Tr n} (h : RdNode n w [a, b, c, d, e] t) : ∃ z ab nb cb ac nc cc ad nd cd ae ne ce, a = .int .i64 z ∧ b = .slice ab nb cb ∧ c = .slice ac nc cc ∧ d = .slice ad nd cd ∧ e = .slice ae ne ce := by
  obtain ⟨z, ab, nb, cb, ac, nc, cc, ad, nd, cd, ae, ne, ce, hC⟩ := rd_shape h
  simp only [List.cons.injEq, and_true] at hC
  exact ⟨z, ab, nb, cb, ac, nc, cc, ad, nd, cd, ae, ne, ce, hC⟩

set_option maxHeartbeats 3200000 in
theorem sameI_any (n : Nat) (w : World) (a b c d e a' b' c' d' e' : Value) (t u : Tr (n + 1)) (h : RdNode (n + 1) w [a, b, c, d, e] t) (h' : RdNode (n + 1) w [a', b', c', d', e'] u) (hs : szT (n + 1) t ≤ 2097152) (hs' : szT (n + 1) u ≤ 2097152) :
    Calls Try.prog 13 #[.agg #[a, b, c, d, e], .agg #[a', b', c', d', e']] w fun e w' => e = .returned (.bool (sameN n t u)) ∧ Below w.heap.size w w' := by
  obtain ⟨z, ab, nb, cb, ac, nc, cc, ad, nd, cd, ae, ne, ce, rfl, rfl, rfl, rfl, rfl⟩ := h.shape5
  obtain ⟨z', ab', nb', cb', ac', nc', cc', ad', nd', cd', ae', ne', ce', rfl, rfl, rfl, rfl, rfl⟩ := h'.shape5
  obtain ⟨l1, l2, hB⟩ := two w #[.int .i64 z, .slice ab nb cb, .slice ac nc cc, .slice ad nd cd, .slice ae ne ce] #[.int .i64 z', .slice ab' nb' cb', .slice ac' nc' cc', .slice ad' nd' cd', .slice ae' ne' ce'] 32 32
  go_enter Try.func13, Try.ntmps13
  go_wp2_with fail
  generalize (w.alloc (.cells #[.int .i64 z, .slice ab nb cb, .slice ac nc cc, .slice ad nd cd, .slice ae ne ce] 32)).alloc (.cells #[.int .i64 z', .slice ab' nb' cb', .slice ac' nc' cc', .slice ad' nd' cd', .slice ae' ne' ce'] 32) = w1 at *
  have HA : Hid (∀ W, Below w1.heap.size w1 W → Calls Try.prog 10 #[.agg #[.int .i64 z, .slice ab nb cb, .slice ac nc cc, .slice ad nd cd, .slice ae ne ce]] W fun e w' => e = .returned (.bool (okN n t)) ∧ Below W.heap.size W w') := hide fun W hW => nodeI_any n W _ _ _ _ _ t ((h.keep hB).keep hW) hs
  have HB : Hid (∀ W, Below w1.heap.size w1 W → Calls Try.prog 10 #[.agg #[.int .i64 z', .slice ab' nb' cb', .slice ac' nc' cc', .slice ad' nd' cd', .slice ae' ne' ce']] W fun e w' => e = .returned (.bool (okN n u)) ∧ Below W.heap.size W w') := hide fun W hW => nodeI_any n W _ _ _ _ _ u ((h'.keep hB).keep hW) hs'
  obtain ⟨xs, hP⟩ := pre_ex w (n + 1) 1 _ t h
  obtain ⟨ys, hQ⟩ := pre_ex w (n + 1) 1 _ u h'
  have HC : Hid (∀ W, Below w1.heap.size w1 W → Calls Try.prog 36 #[.agg #[.int .i64 z, .slice ab nb cb, .slice ac nc cc, .slice ad nd cd, .slice ae ne ce]] W fun e w' => ∃ v, e = .returned v ∧ RdParts w' v xs ∧ Below W.heap.size W w') := hide fun W hW => partsI_any n w W (bstep hB hW) _ _ _ _ _ t xs hP hs
  have HD : Hid (∀ W, Below w1.heap.size w1 W → Calls Try.prog 36 #[.agg #[.int .i64 z', .slice ab' nb' cb', .slice ac' nc' cc', .slice ad' nd' cd', .slice ae' ne' ce']] W fun e w' => ∃ v, e = .returned v ∧ RdParts w' v ys ∧ Below W.heap.size W w') := hide fun W hW => partsI_any n w W (bstep hB hW) _ _ _ _ _ u ys hQ hs'
  have HQ : Hid (okN n t = true → okN n u = true → eqHds (xs.map hdI) (ys.map hdI) = sameN n t u) := hide fun h1 h2 => by
    rw [pre_hp w (n + 1) 1 _ t xs hP, pre_hp w (n + 1) 1 _ u ys hQ, hp_eq]
    unfold sameN
    rw [h1, h2]; simp
  have HN1 : Hid (okN n t = false → sameN n t u = false) := hide fun h1 => by unfold sameN; rw [h1]; rfl
  have HN2 : Hid (okN n u = false → sameN n t u = false) := hide fun h1 => by unfold sameN; rw [h1]; simp
  obtain ⟨x0, x1, x2, x3, x4⟩ := l1.five
  obtain ⟨y0, y1, y2, y3, y4⟩ := l2.five
  clear hP hQ h h' hs hs'
  have HW := hide hB
  clear hB
  by_cases ht : okN n t = true
  · by_cases hu : okN n u = true
    · have HR := hide (unhide HQ ht hu)
      rw [ht] at HA
      rw [hu] at HB
      clear ht hu HQ HN1 HN2
      go_region_held3 (fun w' => w'.cell? ⟨w.heap.size, 0, none⟩ = some (.int .i64 z) ∧ w'.cell? ⟨w.heap.size, 1, none⟩ = some (.slice ab nb cb) ∧ w'.cell? ⟨w.heap.size, 2, none⟩ = some (.slice ac nc cc) ∧ w'.cell? ⟨w.heap.size, 3, none⟩ = some (.slice ad nd cd) ∧ w'.cell? ⟨w.heap.size, 4, none⟩ = some (.slice ae ne ce) ∧ w'.cell? ⟨w.heap.size + 1, 0, none⟩ = some (.int .i64 z') ∧ w'.cell? ⟨w.heap.size + 1, 1, none⟩ = some (.slice ab' nb' cb') ∧ w'.cell? ⟨w.heap.size + 1, 2, none⟩ = some (.slice ac' nc' cc') ∧ w'.cell? ⟨w.heap.size + 1, 3, none⟩ = some (.slice ad' nd' cd') ∧ w'.cell? ⟨w.heap.size + 1, 4, none⟩ = some (.slice ae' ne' ce'))
        (first | exact ⟨by assumption, by assumption, by assumption, by assumption, by assumption, by assumption, by assumption, by assumption, by assumption, by assumption⟩ | simp [*])
        (first
          | (go_at_call 10; refine (unhide HA _ ((Below.refl _ _).drew)).mono ?_; clear HA; rintro e w2 ⟨rfl, hB2⟩; have hK2 := bstep ((Below.refl w1.heap.size w1).drew) hB2; obtain ⟨x0, x1, x2, x3, x4⟩ := (l1.all hK2).five; obtain ⟨y0, y1, y2, y3, y4⟩ := (l2.all hK2).five)
          | (go_at_call 10; refine (unhide HB _ hK2).mono ?_; clear HB; rintro e w3 ⟨rfl, hB3⟩; have hK3 := bstep hK2 hB3; obtain ⟨x0, x1, x2, x3, x4⟩ := (l1.all hK3).five; obtain ⟨y0, y1, y2, y3, y4⟩ := (l2.all hK3).five)
          | (go_at_call 36; refine (unhide HC _ hK3).mono ?_; clear HC; rintro e w4 ⟨v4, rfl, hp4, hB4⟩; have hK4 := bstep hK3 hB4; obtain ⟨x0, x1, x2, x3, x4⟩ := (l1.all hK4).five; obtain ⟨y0, y1, y2, y3, y4⟩ := (l2.all hK4).five)
          | (go_at_call 36; refine (unhide HD _ hK4).mono ?_; clear HD; rintro e w5 ⟨v5, rfl, hp5, hB5⟩; have hK5 := bstep hK4 hB5; obtain ⟨x0, x1, x2, x3, x4⟩ := (l1.all hK5).five; obtain ⟨y0, y1, y2, y3, y4⟩ := (l2.all hK5).five)
          | (go_at_call 35; refine (equalParts_any w _ (bstep (unhide HW) hK5) _ _ xs ys (Elems.keep hp4 hB5 (fun _ _ _ h => h)) hp5).mono ?_; rintro e w6 ⟨rfl, hB6⟩; have hK6 := bstep hK5 hB6; obtain ⟨x0, x1, x2, x3, x4⟩ := (l1.all hK6).five; obtain ⟨y0, y1, y2, y3, y4⟩ := (l2.all hK6).five))
      all_goals
        go_wp2_with fail
        go_ret
        exact ⟨by rw [← unhide HR]; rfl, bstep (unhide HW) hK6⟩
    · have hu' : okN n u = false := by simpa using hu
      have HR := hide (unhide HN2 hu')
      rw [ht] at HA
      rw [hu'] at HB
      clear ht hu hu' HC HD HQ HN1 HN2
      go_region_with (first
        | (go_at_call 10; refine (unhide HA _ ((Below.refl _ _).drew)).mono ?_; clear HA; rintro e w2 ⟨rfl, hB2⟩; have hK2 := bstep ((Below.refl w1.heap.size w1).drew) hB2; obtain ⟨x0, x1, x2, x3, x4⟩ := (l1.all hK2).five; obtain ⟨y0, y1, y2, y3, y4⟩ := (l2.all hK2).five)
        | (go_at_call 10; refine (unhide HB _ hK2).mono ?_; clear HB; rintro e w3 ⟨rfl, hB3⟩; have hK3 := bstep hK2 hB3; obtain ⟨x0, x1, x2, x3, x4⟩ := (l1.all hK3).five; obtain ⟨y0, y1, y2, y3, y4⟩ := (l2.all hK3).five))
      all_goals
        go_wp2_with fail
        go_ret
        exact ⟨by rw [unhide HR]; rfl, bstep (unhide HW) hK3⟩
  · have ht' : okN n t = false := by simpa using ht
    have HR := hide (unhide HN1 ht')
    rw [ht'] at HA
    clear ht ht' HB HC HD HQ HN1 HN2
    go_region_with ((go_at_call 10; refine (unhide HA _ ((Below.refl _ _).drew)).mono ?_; rintro e w2 ⟨rfl, hB2⟩; have hK2 := bstep ((Below.refl w1.heap.size w1).drew) hB2; obtain ⟨x0, x1, x2, x3, x4⟩ := (l1.all hK2).five; obtain ⟨y0, y1, y2, y3, y4⟩ := (l2.all hK2).five))
    all_goals
      go_wp2_with fail
      go_ret
      exact ⟨by rw [unhide HR]; rfl, bstep (unhide HW) hK2⟩
end Go.Proofs.Yteioihjgjbjmjaa
