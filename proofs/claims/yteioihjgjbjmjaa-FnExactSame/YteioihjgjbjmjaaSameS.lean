/- spec.Same answers whether two trees may be and are one. -/
import Derived.Test.YteioihjgjbjmjaaSameT
namespace Go.Proofs.Yteioihjgjbjmjaa
open Go.RowKit
set_option linter.unusedVariables false
set_option maxRecDepth 100000

theorem rd_five {n : Nat} {w : World} {a b c d e : Value} {t : Tr n} (h : RdNode n w [a, b, c, d, e] t) : ∃ z ab nb cb ac nc cc ad nd cd ae ne ce, a = .int .i64 z ∧ b = .slice ab nb cb ∧ c = .slice ac nc cc ∧ d = .slice ad nd cd ∧ e = .slice ae ne ce := by
  cases n with
  | zero => exact t.elim
  | succ n =>
    obtain ⟨_, _, _, _, e0, _, _, hb, hc, hd, he⟩ := h
    simp only [List.cons.injEq, and_true] at e0
    obtain ⟨rfl, rfl, rfl, rfl, rfl⟩ := e0
    obtain ⟨ab, cb, rfl, _, _⟩ := hb.shape
    obtain ⟨ac, cc, rfl, _, _⟩ := hc.shape
    obtain ⟨ad, cd, rfl, _, _⟩ := Elems.shape hd
    obtain ⟨ae, ce, rfl, _, _⟩ := Elems.shape he
    exact ⟨_, _, _, _, _, _, _, _, _, _, _, _, _, rfl, rfl, rfl, rfl, rfl⟩

set_option maxHeartbeats 3200000 in
theorem sameS_any (n : Nat) (w : World) (a b c d e a' b' c' d' e' : Value) (t u : Tr (n + 1)) (h : RdNode (n + 1) w [a, b, c, d, e] t) (h' : RdNode (n + 1) w [a', b', c', d', e'] u) :
    Calls Try.prog 12 #[.agg #[a, b, c, d, e], .agg #[a', b', c', d', e']] w fun e w' => e = .returned (.bool (sameN n t u)) ∧ Below w.heap.size w w' := by
  obtain ⟨z, ab, nb, cb, ac, nc, cc, ad, nd, cd, ae, ne, ce, rfl, rfl, rfl, rfl, rfl⟩ := rd_five h
  obtain ⟨z', ab', nb', cb', ac', nc', cc', ad', nd', cd', ae', ne', ce', rfl, rfl, rfl, rfl, rfl⟩ := rd_five h'
  obtain ⟨l1, l2, hB⟩ := two w #[.int .i64 z, .slice ab nb cb, .slice ac nc cc, .slice ad nd cd, .slice ae ne ce] #[.int .i64 z', .slice ab' nb' cb', .slice ac' nc' cc', .slice ad' nd' cd', .slice ae' ne' ce'] 32 32
  have HQ : Hid ((okN n t = false → sameN n t u = false) ∧ (okN n u = false → sameN n t u = false) ∧ (okN n t = true → okN n u = true → sameN n t u = eqT (n + 1) t u)) := hide ⟨fun h => by unfold sameN; rw [h]; rfl, fun h => by unfold sameN; rw [h]; simp, fun h1 h2 => by unfold sameN; rw [h1, h2]; simp⟩
  go_enter Try.func12, Try.ntmps12
  go_wp2_with fail
  generalize (w.alloc (.cells #[.int .i64 z, .slice ab nb cb, .slice ac nc cc, .slice ad nd cd, .slice ae ne ce] 32)).alloc (.cells #[.int .i64 z', .slice ab' nb' cb', .slice ac' nc' cc', .slice ad' nd' cd', .slice ae' ne' ce'] 32) = w1 at *
  refine (nodeS_any n w1 _ _ _ _ _ t (h.keep hB)).mono ?_
  rintro e w2 ⟨rfl, hB2⟩
  have hA2 := bstep hB hB2
  obtain ⟨x0, x1, x2, x3, x4⟩ := (l1.all hB2).five
  obtain ⟨y0, y1, y2, y3, y4⟩ := (l2.all hB2).five
  by_cases ht : okN n t = true
  · rw [ht]
    go_wp2_with fail
    refine (nodeS_any n w2 _ _ _ _ _ u (h'.keep hA2)).mono ?_
    rintro e w3 ⟨rfl, hB3⟩
    have hA3 := bstep hA2 hB3
    clear x0 x1 x2 x3 x4 y0 y1 y2 y3 y4
    obtain ⟨x0, x1, x2, x3, x4⟩ := ((l1.all hB2).all hB3).five
    obtain ⟨y0, y1, y2, y3, y4⟩ := ((l2.all hB2).all hB3).five
    by_cases hu : okN n u = true
    · rw [hu]
      have HR := hide ((unhide HQ).2.2 ht hu)
      clear ht hu
      go_wp2_with fail
      refine (same_any (n + 1) w3 _ _ _ _ _ _ _ _ _ _ t u (h.keep hA3) (h'.keep hA3)).mono ?_
      rintro e w4 ⟨rfl, hB4⟩
      go_wp2_with fail
      go_ret
      exact ⟨by rw [unhide HR]; rfl, bstep hA3 hB4⟩
    · have hu' : okN n u = false := by simpa using hu
      rw [hu']
      have HR := hide ((unhide HQ).2.1 hu')
      clear ht hu hu'
      go_wp2_with fail
      go_ret
      exact ⟨by rw [unhide HR]; rfl, hA3⟩
  · have ht' : okN n t = false := by simpa using ht
    rw [ht']
    have HR := hide ((unhide HQ).1 ht')
    clear ht ht'
    go_wp2_with fail
    go_ret
    exact ⟨by rw [unhide HR]; rfl, hA2⟩
end Go.Proofs.Yteioihjgjbjmjaa
