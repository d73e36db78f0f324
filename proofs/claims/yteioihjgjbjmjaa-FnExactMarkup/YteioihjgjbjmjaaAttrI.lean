/- impl.attrsOk answers what the plain test says. -/
import Derived.Test.YteioihjgjbjmjaaNameI
import Derived.Test.YteioihjgjbjmjaaCmpI
import Derived.Test.YteioihjgjbjmjaaToT
namespace Go.Proofs.Yteioihjgjbjmjaa
open Go.RowKit
set_option linter.unusedVariables false
set_option maxRecDepth 100000

open Classical in
set_option maxHeartbeats 3200000 in
theorem attrsI_any (w : World) (v : Value) (l : List (List Int × List Int)) (h : RdAttrs w v l) :
    Calls Try.prog 55 #[v] w fun e w' => e = .returned (.bool (decide (AttrsOk l))) ∧ Below w.heap.size w w' := by
  by_cases hl : 4 < l.length
  · obtain ⟨a, cap, rfl, _⟩ := Elems.shape h
    have HD := hide (show decide (AttrsOk l) = false by simp only [decide_eq_false_iff_not]; rintro ⟨_, _⟩; omega)
    have d2 : (4 : Int) < (l.length : Int) := by omega
    go_enter Try.func55, Try.ntmps55
    go_wp2_with fail
    go_ret
    exact ⟨by rw [unhide HD]; rfl, Below.refl _ _⟩
  have d2 : ¬ (4 : Int) < (l.length : Int) := by omega
  by_cases h0 : l = []
  · obtain ⟨a, cap, rfl, _⟩ := Elems.shape h
    subst h0
    have HD := hide (show decide (AttrsOk []) = true by simp only [decide_eq_true_eq]; exact ⟨by simp, fun i hi => by simp at hi⟩)
    go_enter Try.func55, Try.ntmps55
    go_wp2_with fail
    refine wp_loop_rounds 1 ?_
    rw [rounds_succ]
    go_wp2_with fail
    go_ret
    exact ⟨by rw [unhide HD]; rfl, Below.refl _ _⟩
  obtain ⟨_, ⟨_, e⟩ | ⟨_, _, _, _, e⟩ | ⟨b, off, cap, rfl, g1, g2, g3, g4, g5⟩⟩ := h
  · exact absurd e h0
  · exact absurd e h0
  go_enter Try.func55, Try.ntmps55
  go_wp2_with fail
  go_loopw [10] (fun i wr => ∃ k : Nat, k ≤ l.length ∧ i = .int .i64 k ∧ (∀ i, i < k → attrAt l i) ∧ Below w.heap.size w wr) (fun i _ => l.length - (intOf i).toNat)
  case atStart => exact ⟨0, Nat.zero_le _, rfl, fun i hi => by omega, Below.refl _ _⟩
  case round =>
    obtain ⟨k, hk, rfl, ha, hB⟩ := hrel
    have HA := hide ha
    clear ha
    by_cases hlt : k < l.length
    · obtain ⟨c0, c1, e0, e1, hc⟩ := two_of (g5 k hlt)
      obtain ⟨_, _, ee, hc0, hc1⟩ := hc
      simp only [List.cons.injEq, and_true] at ee
      obtain ⟨rfl, rfl⟩ := ee
      replace e0 := (hB.cell (p := ⟨b, off + k * 2, none⟩) g4).trans e0
      replace e1 := (hB.cell (p := ⟨b, off + k * 2 + 1, none⟩) g4).trans e1
      replace hc0 := hc0.keep hB
      replace hc1 := hc1.keep hB
      have hlt' : (k : Int) < (l.length : Int) := by omega
      have hk0 : (0 : Int) ≤ (k : Int) := by omega
      obtain ⟨x, hx⟩ : ∃ x, x = l[k] := ⟨_, rfl⟩
      rw [← hx] at hc0 hc1
      have hgd : l.getD k ([], []) = x := by rw [hx]; simp [hlt]
      obtain ⟨a0, n0, hv0, _, _⟩ := hc0.shape
      obtain ⟨a1, n1, hv1, _, _⟩ := hc1.shape
      subst hv0 hv1
      have HGD := hide hgd
      have HX := hide hx
      clear hgd hx
      have hB1 : Below wr.heap.size wr (wr.alloc (.cells #[.slice a0 x.1.length n0, .slice a1 x.2.length n1] 88)) := (Below.refl _ _).alloc (Nat.le_refl _) _
      have l1 := Loc.made wr #[.slice a0 x.1.length n0, .slice a1 x.2.length n1] 88
      have hcell : ∀ j, j < l.length → ∃ y : Value, y ∈ [y] ∧ wr.cell? ⟨b, off + j * 2, none⟩ = some y ∧ Byt wr y (l.getD j ([], [])).1 := by
        intro j hj
        obtain ⟨p0, p1, u0, u1, hp⟩ := two_of (g5 j hj)
        obtain ⟨_, _, ee, hp0, hp1⟩ := hp
        simp only [List.cons.injEq, and_true] at ee
        obtain ⟨rfl, rfl⟩ := ee
        exact ⟨_, by simp, (hB.cell (p := ⟨b, off + j * 2, none⟩) g4).trans u0, by rw [show l.getD j ([], []) = l[j] by simp [hj]]; exact hp0.keep hB⟩
      have HC := hide hcell
      clear hcell g5
      have hbs : b < wr.heap.size := Nat.lt_of_lt_of_le g4 hB.size
      generalize hn0 : x.1.length = m0 at *
      generalize hn1 : x.2.length = m1 at *
      clear hn0 hn1
      go_wp2_with fail
      generalize wr.alloc (.cells #[.slice a0 m0 n0, .slice a1 m1 n1] 88) = w1 at *
      have c0 : w1.cell? ⟨wr.heap.size, 0, none⟩ = some (.slice a0 m0 n0) := l1.cell 0
      have c1 : w1.cell? ⟨wr.heap.size, 1, none⟩ = some (.slice a1 m1 n1) := l1.cell 1
      have hA1 := bstep hB hB1
      have HB1 := hide hB1
      clear hB1 e0 e1
      refine (nameI_any w1 _ x.1 (hc0.keep (unhide HB1))).mono ?_
      rintro e w1 ⟨rfl, rfl⟩
      by_cases hn : NameOk x.1
      · rw [show decide (NameOk x.1) = true by simpa using hn]
        go_wp2_with fail
        refine (textI_any w1 _ x.2 (hc1.keep (unhide HB1))).mono ?_
        rintro e w1 ⟨rfl, rfl⟩
        by_cases ht : TextOk x.2
        · rw [show decide (TextOk x.2) = true by simpa using ht]
          by_cases hkz : k = 0
          · have HT := hide (show attrAt l k from ⟨by rw [unhide HGD]; exact hn, by rw [unhide HGD]; exact ht, fun h => by omega⟩)
            subst hkz
            clear hn ht HC HX HGD hc0 hc1 HB1
            go_wp2_with fail
            go_quiet (fail)
            go_wp2_with fail
            go_roundw
            case rel => exact ⟨1, by omega, by go_num, fun i hi => by obtain rfl : i = 0 := (by omega); exact unhide HT, below_drewN hA1 _⟩
            case measure => simp [intOf]; omega
          · obtain ⟨y, _, u0, hp0⟩ := unhide HC (k - 1) (by omega)
            have hB1 := unhide HB1
            replace u0 := (hB1.cell (p := ⟨b, off + (k - 1) * 2, none⟩) hbs).trans u0
            replace hp0 := hp0.keep hB1
            have hx0 := hc0.keep hB1
            generalize hy : (l.getD (k - 1) ([], [])).1 = yl at *
            obtain ⟨a2, n2, hv2, _, _⟩ := hp0.shape
            subst hv2
            generalize yl.length = m2 at *
            have hkp : 0 < k := by omega
            have hkd : decide (0 < k) = true := by simp; omega
            have hk1 : (0 : Int) ≤ (k : Int) - 1 := by omega
            have hk2 : (k : Int) - 1 < (l.length : Int) := by omega
            have hk3 : ((k : Int) - 1).toNat = k - 1 := by omega
            have hcq : ∀ q, Calls Try.prog 72 #[.slice a2 m2 n2, .slice a0 m0 n0] (w1.drewN q) fun e w' => e = .returned (.int .i64 (cmpB yl x.1)) ∧ w' = w1.drewN q := fun q => cmpI_any _ _ _ _ _ (hp0.keep (below_drewN (Below.refl _ _) q)) (hx0.keep (below_drewN (Below.refl _ _) q))
            have HQ := hide hcq
            have hlc := lessB_cmp yl x.1
            by_cases hl2 : lessB yl x.1 = true
            · have HT := hide (show attrAt l k from ⟨by rw [unhide HGD]; exact hn, by rw [unhide HGD]; exact ht, fun _ => by rw [unhide HGD, hy]; exact hl2⟩)
              have hcz : decide (0 ≤ cmpB yl x.1) = false := by rw [hlc] at hl2; simp at hl2 ⊢; omega
              have hcz' : ¬ 0 ≤ cmpB yl x.1 := by simpa using hcz
              clear hn ht HX HGD hc0 hc1 HB1 HC hcq hlc hl2 hy hp0 hx0 hB1
              generalize cmpB yl x.1 = cm at *
              go_wp2_with fail
              go_quiet ((go_at_call 72; exact Calls.quiet_of_same (unhide HQ _)))
              go_wp2_with fail
              go_roundw
              case rel => exact ⟨k + 1, by omega, by go_num, fun i hi => step_all (unhide HA) (unhide HT) i hi, below_drewN hA1 _⟩
              case measure => simp [intOf]; omega
            · have HF := hide (show decide (AttrsOk l) = false by
                simp only [decide_eq_false_iff_not]
                rintro ⟨_, h⟩
                exact hl2 (by have := (h k hlt).2.2 (by omega); rwa [unhide HGD, hy] at this))
              have hcz : decide (0 ≤ cmpB yl x.1) = true := by rw [hlc] at hl2; simp at hl2 ⊢; omega
              have hcz' : 0 ≤ cmpB yl x.1 := by simpa using hcz
              clear hn ht HX HGD hc0 hc1 HB1 HC hcq hlc hl2 hy hp0 hx0 hB1
              generalize cmpB yl x.1 = cm at *
              go_wp2_with fail
              go_quiet ((go_at_call 72; exact Calls.quiet_of_same (unhide HQ _)))
              go_wp2_with fail
              go_ret
              exact ⟨by rw [unhide HF]; rfl, below_drewN hA1 _⟩
        · rw [show decide (TextOk x.2) = false by simpa using ht]
          have HF := hide (show decide (AttrsOk l) = false by
            simp only [decide_eq_false_iff_not]
            rintro ⟨_, h⟩
            exact ht (by have := (h k hlt).2.1; rwa [unhide HGD] at this))
          clear hn ht
          go_wp2_with fail
          go_ret
          exact ⟨by rw [unhide HF]; rfl, hA1⟩
      · have hd : decide (NameOk x.1) = false := by simpa using hn
        rw [hd]
        have HF := hide (show decide (AttrsOk l) = false by
          simp only [decide_eq_false_iff_not]
          rintro ⟨_, h⟩
          exact hn (by have := (h k hlt).1; rwa [unhide HGD] at this))
        clear hn hd
        go_wp2_with fail
        go_ret
        exact ⟨by rw [unhide HF]; rfl, hA1⟩
    · have e : k = l.length := by omega
      subst e
      have HF := hide (show decide (AttrsOk l) = true by simp only [decide_eq_true_eq]; exact ⟨by omega, unhide HA⟩)
      clear g5
      go_wp2_with fail
      go_ret
      exact ⟨by rw [unhide HF]; rfl, hB⟩
end Go.Proofs.Yteioihjgjbjmjaa
