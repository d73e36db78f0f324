/- The law on the order of stamps and keys, walked by its callees' contracts. -/
import Derived.Test.YtjannojebngoeaaDrawL
import Derived.Test.YtjannojebngoeaaLessI
import Derived.Test.YtjannojebngoeaaKlI
import Derived.Test.YtjannojebngoeaaSameZ
namespace Go.Proofs.Ytjannojebngoeaa
open Go.RowKit
set_option linter.unusedVariables false
set_option maxRecDepth 100000

theorem less_anti (n r n' r' : Int) : (lessB n r n' r' && lessB n' r' n r) = false := by
  unfold lessB
  rw [Bool.eq_false_iff]
  simp only [ne_eq, Bool.and_eq_true, Bool.or_eq_true, decide_eq_true_eq, beq_iff_eq]
  omega
theorem less_tri (n r n' r' : Int) : (lessB n r n' r' || lessB n' r' n r) = !(n == n' && r == r') := by
  unfold lessB
  rw [Bool.eq_iff_iff]
  simp only [Bool.and_eq_true, Bool.or_eq_true, decide_eq_true_eq, beq_iff_eq, Bool.not_eq_true', Bool.and_eq_false_iff, beq_eq_false_iff_ne]
  omega

set_option maxHeartbeats 6400000 in
theorem law_fnless (w : World) (code : Value) (l : List Int) (h : Byt w code l) :
    Calls Try.prog 4 #[code] w fun e w' => e = .returned (.bool true) ∧ Below w.heap.size w w' := by
  have HD := hide (fun W hW => drawLess_any W code l (h.keep (w' := W) hW))
  have HK := hide (fun W hW => drawKeyLess_any W code l (h.keep (w' := W) hW))
  obtain ⟨a0, c0, rfl, _, _⟩ := h.shape
  clear h
  go_enter Try.func4, Try.ntmps4
  go_wp2_with fail
  refine (unhide HD w (Below.refl _ _)).mono ?_
  rintro e w1 ⟨n, r, n', r', rfl, hB1⟩
  clear HD
  have hA2 : Below w1.heap.size w1 ((w1.alloc (.cells #[.int .i64 n, .int .i64 r] 24)).alloc (.cells #[.int .i64 n', .int .i64 r'] 24)) := ((Below.refl w1.heap.size w1).alloc (Nat.le_refl _) _).alloc (by simp) _
  have l2 := (Loc.made w1 #[.int .i64 n, .int .i64 r] 24).alloc (.cells #[.int .i64 n', .int .i64 r'] 24)
  have m2 := Loc.made (w1.alloc (.cells #[.int .i64 n, .int .i64 r] 24)) #[.int .i64 n', .int .i64 r'] 24
  rw [show (w1.alloc (.cells #[.int .i64 n, .int .i64 r] 24)).heap.size = w1.heap.size + 1 by simp] at m2
  have LL := hide (And.intro hA2 (And.intro l2 m2))
  clear hA2 l2 m2
  go_wp2_with fail
  obtain ⟨hA2, l2, m2⟩ := unhide LL
  clear LL
  generalize ((w1.alloc (.cells #[.int .i64 n, .int .i64 r] 24)).alloc (.cells #[.int .i64 n', .int .i64 r'] 24)) = w2 at *
  have hB2 := bstep hB1 hA2
  refine (unhide HK w2 hB2).mono ?_
  rintro e w3 ⟨a, c, k, a', c', k', rfl, i3, j3, hk, hk', hB3⟩
  clear HK
  have hA3 := bstep hB2 hB3
  have l3 := l2.all hB3
  have m3 := m2.all hB3
  generalize w1.heap.size = S at *
  clear hA2 l2 m2 hB1 hB2 hB3
  have I3 := hide (And.intro i3 j3)
  clear i3 j3
  obtain ⟨x0, x1⟩ := l3.two
  obtain ⟨y0, y1⟩ := m3.two
  go_wp2_with fail
  refine (lessI_any w3 n r n' r').mono ?_
  rintro e w4 ⟨rfl, hB4⟩
  have hA4 := bstep hA3 hB4
  have l4 := l3.all hB4
  have m4 := m3.all hB4
  clear x0 x1 y0 y1 l3 m3
  obtain ⟨x0, x1⟩ := l4.two
  obtain ⟨y0, y1⟩ := m4.two
  go_wp2_with fail
  refine (lessI_any w4 n' r' n r).mono ?_
  rintro e w5 ⟨rfl, hB5⟩
  have hA5 := bstep hA4 hB5
  have l5 := l4.all hB5
  have m5 := m4.all hB5
  clear x0 x1 y0 y1 l4 m4
  obtain ⟨x0, x1⟩ := l5.two
  obtain ⟨y0, y1⟩ := m5.two
  go_wp2_with fail
  refine (klI_any w5 _ _ k k' (((unhide I3).1.keep hB4).keep hB5) (((unhide I3).2.keep hB4).keep hB5)).mono ?_
  rintro e w6 ⟨rfl, hB6⟩
  have hA6 := bstep hA5 hB6
  have l6 := l5.all hB6
  have m6 := m5.all hB6
  clear x0 x1 y0 y1 l5 m5
  obtain ⟨x0, x1⟩ := l6.two
  obtain ⟨y0, y1⟩ := m6.two
  go_wp2_with fail
  refine (klI_any w6 _ _ k' k ((((unhide I3).2.keep hB4).keep hB5).keep hB6) ((((unhide I3).1.keep hB4).keep hB5).keep hB6)).mono ?_
  rintro e w7 ⟨rfl, hB7⟩
  have hA7 := bstep hA6 hB7
  have l7 := l6.all hB7
  have m7 := m6.all hB7
  clear x0 x1 y0 y1 l6 m6
  obtain ⟨x0, x1⟩ := l7.two
  obtain ⟨y0, y1⟩ := m7.two
  have HS := hide (fun W (hW : Below w7.heap.size w7 W) => sameZ_any W _ _ k k' (((((unhide I3).1.keep hB4).keep hB5).keep hB6).keep (bstep hB7 hW)) (((((unhide I3).2.keep hB4).keep hB5).keep hB6).keep (bstep hB7 hW)))
  clear hB4 hB5 hB6 hB7 I3 hA3 hA4 hA5 hA6
  have q1 := klB_anti k k'
  have q2 := klB_tri k k'
  have q3 : (lessB n r n' r' && lessB n' r' n r) = false := less_anti n r n' r'
  have q4 : (lessB n r n' r' || lessB n' r' n r) = !(n == n' && r == r') := less_tri n r n' r'
  generalize klB k k' = t3 at *
  generalize klB k' k = t4 at *
  generalize lessB n r n' r' = t1 at *
  generalize lessB n' r' n r = t2 at *
  rcases (show (n = n' ∧ r = r') ∨ (n = n' ∧ r ≠ r') ∨ n ≠ n' by omega) with ⟨rfl, rfl⟩ | ⟨rfl, hr⟩ | hn
  · have e1 : t1 = false := by cases t1 <;> simp_all
    have e2 : t2 = false := by cases t2 <;> simp_all
    subst e1 e2
    clear q3 q4
    rcases Bool.eq_false_or_eq_true t3 with e | e <;> rcases Bool.eq_false_or_eq_true t4 with e' | e' <;> subst e <;> subst e' <;> first | (exfalso; simp at q1; done) | skip
    all_goals
      have hd : decide (k = k') = _ := (Bool.not_not _).symm.trans (congrArg _ q2.symm)
      have HD := hide hd
      clear q1 q2 hd
      go_wp2_with fail
      refine (unhide HS _ ?_).mono ?_
      · exact Below.refl _ _
      rintro e w8 ⟨rfl, hB8⟩
      rw [unhide HD]
      have hA8 := bstep hA7 hB8
      clear hB8 HD HS
      go_wp2_with fail
      go_ret
      exact ⟨rfl, hA8⟩
  · have dr : (r == r') = false := by simpa using hr
    rw [dr] at q4
    simp only [Bool.and_false, Bool.not_false] at q4
    clear hr
    rcases Bool.eq_false_or_eq_true t1 with e1 | e1 <;> rcases Bool.eq_false_or_eq_true t2 with e2 | e2 <;> subst e1 <;> subst e2 <;> first | (exfalso; simp at q3; done) | (exfalso; simp at q4; done) | skip
    all_goals clear q3 q4
    all_goals
      rcases Bool.eq_false_or_eq_true t3 with e | e <;> rcases Bool.eq_false_or_eq_true t4 with e' | e' <;> subst e <;> subst e' <;> first | (exfalso; simp at q1; done) | skip
      all_goals
        have hd : decide (k = k') = _ := (Bool.not_not _).symm.trans (congrArg _ q2.symm)
        have HD := hide hd
        clear q1 q2 hd
        go_wp2_with fail
        refine (unhide HS _ ?_).mono ?_
        · exact Below.refl _ _
        rintro e w8 ⟨rfl, hB8⟩
        rw [unhide HD]
        have hA8 := bstep hA7 hB8
        clear hB8 HD HS
        go_wp2_with fail
        go_ret
        exact ⟨rfl, hA8⟩
  · have dn : (n == n') = false := by simpa using hn
    rw [dn] at q4
    simp only [Bool.false_and, Bool.not_false] at q4
    clear hn
    rcases Bool.eq_false_or_eq_true t1 with e1 | e1 <;> rcases Bool.eq_false_or_eq_true t2 with e2 | e2 <;> subst e1 <;> subst e2 <;> first | (exfalso; simp at q3; done) | (exfalso; simp at q4; done) | skip
    all_goals clear q3 q4
    all_goals
      rcases Bool.eq_false_or_eq_true t3 with e | e <;> rcases Bool.eq_false_or_eq_true t4 with e' | e' <;> subst e <;> subst e' <;> first | (exfalso; simp at q1; done) | skip
      all_goals
        have hd : decide (k = k') = _ := (Bool.not_not _).symm.trans (congrArg _ q2.symm)
        have HD := hide hd
        clear q1 q2 hd
        go_wp2_with fail
        refine (unhide HS _ ?_).mono ?_
        · exact Below.refl _ _
        rintro e w8 ⟨rfl, hB8⟩
        rw [unhide HD]
        have hA8 := bstep hA7 hB8
        clear hB8 HD HS
        go_wp2_with fail
        go_ret
        exact ⟨rfl, hA8⟩
end Go.Proofs.Ytjannojebngoeaa
