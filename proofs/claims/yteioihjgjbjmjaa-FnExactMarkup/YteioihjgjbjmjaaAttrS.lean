/- spec.l2void and spec.l2attrs answer what the plain tests say. -/
import Derived.Test.YteioihjgjbjmjaaNameS
import Derived.Test.YteioihjgjbjmjaaStr
import Derived.Test.YteioihjgjbjmjaaTree
import Derived.WalkLawsBesides
import Derived.Deep.RegionHeld3
import Derived.Deep.QuietTactic
import Derived.BigQuiet
namespace Go.Proofs.Yteioihjgjbjmjaa
open Go.RowKit
set_option linter.unusedVariables false

/-- br, hr. -/
def Void (l : List Int) : Prop := l = [98, 114] ∨ l = [104, 114]
theorem str_br : (str [98, 114]).toList = [98, 114] := by rw [toList_data, str_list]; rfl
theorem str_hr : (str [104, 114]).toList = [104, 114] := by rw [toList_data, str_list]; rfl
theorem okB_br : okB [98, 114] := fun x hx => by simp at hx; omega
theorem okB_hr : okB [104, 114] := fun x hx => by simp at hx; omega

open Classical in
set_option maxHeartbeats 1600000 in
theorem voidS_any (w : World) (v : Value) (l : List Int) (h : Byt w v l) :
    Calls Try.prog 50 #[v] w fun e w' => e = .returned (.bool (decide (Void l))) ∧ w' = w := by
  have c1 := conv_any w v l h
  have b1 : ((str l).toList == [98, 114]) = decide (l = [98, 114]) := by rw [← str_br]; exact str_beq h.1 okB_br
  have b2 : ((str l).toList == [104, 114]) = decide (l = [104, 114]) := by rw [← str_hr]; exact str_beq h.1 okB_hr
  obtain ⟨a1, k1, rfl, _⟩ := h.shape
  generalize str l = s at *
  by_cases h1 : l = [98, 114]
  · have HD := hide (show decide (Void l) = true by simp [Void, h1])
    have d1 : (s.toList == [98, 114]) = true := by rw [b1]; simp [h1]
    clear b1 b2 h1
    go_enter Try.func50, Try.ntmps50
    go_wp2
    go_ret
    exact ⟨by rw [unhide HD]; rfl, rfl⟩
  · have d1 : (s.toList == [98, 114]) = false := by rw [b1]; simp [h1]
    by_cases h2 : l = [104, 114]
    · have HD := hide (show decide (Void l) = true by simp [Void, h2])
      have d2 : (s.toList == [104, 114]) = true := by rw [b2]; simp [h2]
      clear b1 b2 h1 h2
      go_enter Try.func50, Try.ntmps50
      go_wp2
      go_ret
      exact ⟨by rw [unhide HD]; rfl, rfl⟩
    · have HD := hide (show decide (Void l) = false by simp [Void, h1, h2])
      have d2 : (s.toList == [104, 114]) = false := by rw [b2]; simp [h2]
      clear b1 b2 h1 h2
      go_enter Try.func50, Try.ntmps50
      go_wp2
      go_ret
      exact ⟨by rw [unhide HD]; rfl, rfl⟩

/-- By their bytes. -/
def lessB (a b : List Int) : Bool := Op.bytesLess (str a).toList (str b).toList
/-- An attribute that may stand at place i. -/
def attrAt (l : List (List Int × List Int)) (i : Nat) : Prop := NameOk (l.getD i ([], [])).1 ∧ TextOk (l.getD i ([], [])).2 ∧ (0 < i → lessB (l.getD (i - 1) ([], [])).1 (l.getD i ([], [])).1 = true)
def AttrsOk (l : List (List Int × List Int)) : Prop := l.length ≤ 4 ∧ ∀ i, i < l.length → attrAt l i

theorem step_all {p : Nat → Prop} {k : Nat} (h : ∀ i, i < k → p i) (h1 : p k) (i : Nat) (hi : i < k + 1) : p i := by
  by_cases e : i = k
  · subst e; exact h1
  · exact h i (by omega)

open Classical in
set_option maxHeartbeats 3200000 in
theorem attrsS_any (w : World) (v : Value) (l : List (List Int × List Int)) (h : RdAttrs w v l) :
    Calls Try.prog 49 #[v] w fun e w' => e = .returned (.bool (decide (AttrsOk l))) ∧ Below w.heap.size w w' := by
  by_cases hl : 4 < l.length
  · obtain ⟨a, cap, rfl, _⟩ := Elems.shape h
    have HD := hide (show decide (AttrsOk l) = false by simp only [decide_eq_false_iff_not]; rintro ⟨_, _⟩; omega)
    have d2 : (4 : Int) < (l.length : Int) := by omega
    go_enter Try.func49, Try.ntmps49
    go_wp2_with fail
    go_ret
    exact ⟨by rw [unhide HD]; rfl, Below.refl _ _⟩
  have d2 : ¬ (4 : Int) < (l.length : Int) := by omega
  by_cases h0 : l = []
  · obtain ⟨a, cap, rfl, _⟩ := Elems.shape h
    subst h0
    have HD := hide (show decide (AttrsOk []) = true by simp only [decide_eq_true_eq]; exact ⟨by simp, fun i hi => by simp at hi⟩)
    go_enter Try.func49, Try.ntmps49
    go_wp2_with fail
    refine wp_loop_rounds 1 ?_
    rw [rounds_succ]
    go_wp2_with fail
    go_ret
    exact ⟨by rw [unhide HD]; rfl, Below.refl _ _⟩
  obtain ⟨_, ⟨_, e⟩ | ⟨_, _, _, _, e⟩ | ⟨b, off, cap, rfl, g1, g2, g3, g4, g5⟩⟩ := h
  · exact absurd e h0
  · exact absurd e h0
  go_enter Try.func49, Try.ntmps49
  go_wp2_with fail
  go_loopw [3] (fun i wr => ∃ k : Nat, k ≤ l.length ∧ i = .int .i64 k ∧ (∀ i, i < k → attrAt l i) ∧ Below w.heap.size w wr) (fun i _ => l.length - (intOf i).toNat)
  case atStart => exact ⟨0, Nat.zero_le _, rfl, fun i hi => by omega, Below.refl _ _⟩
  case round =>
    obtain ⟨k, hk, rfl, ha, hB⟩ := hrel
    have HA := hide ha
    clear ha
    by_cases hlt : k < l.length
    · obtain ⟨c0, c1, e0, e1, hc⟩ := two_of (g5 k hlt)
      obtain ⟨_, _, ee, hc0, hc1⟩ := hc
      simp only [List.cons.injEq, and_true] at ee
      obtain ⟨rfl, rfl⟩ := ee
      replace e0 := (hB.cell (p := ⟨b, off + k * 2, none⟩) g4).trans e0
      replace e1 := (hB.cell (p := ⟨b, off + k * 2 + 1, none⟩) g4).trans e1
      replace hc0 := hc0.keep hB
      replace hc1 := hc1.keep hB
      have hlt' : (k : Int) < (l.length : Int) := by omega
      have hk0 : (0 : Int) ≤ (k : Int) := by omega
      obtain ⟨x, hx⟩ : ∃ x, x = l[k] := ⟨_, rfl⟩
      rw [← hx] at hc0 hc1
      have hgd : l.getD k ([], []) = x := by rw [hx]; simp [hlt]
      obtain ⟨a0, n0, hv0, _, _⟩ := hc0.shape
      obtain ⟨a1, n1, hv1, _, _⟩ := hc1.shape
      subst hv0 hv1
      by_cases hn : NameOk x.1
      · by_cases ht : TextOk x.2
        · by_cases hkz : k = 0
          · have HT := hide (show attrAt l k from ⟨by rw [hgd]; exact hn, by rw [hgd]; exact ht, fun h => by omega⟩)
            have HN := hide hn
            have HX := hide ht
            subst hkz
            have dk : decide ((0 : Int) < ((0 : Nat) : Int)) = false := by simp
            simp only [Nat.zero_mul, Nat.add_zero] at e0 e1
            clear g5 hn ht hgd hx
            go_wp2_with fail
            go_quiet (first | (go_at_call 48; exact Calls.quiet_of_same (nameS_yes _ _ x.1 (hc0.keep (below_drewN (Below.refl _ _) _)) (unhide HN))) | (go_at_call 47; exact Calls.quiet_of_same (textS_yes _ _ x.2 (hc1.keep (below_drewN (Below.refl _ _) _)) (unhide HX))))
            go_wp2_with fail
            go_roundw
            case rel => exact ⟨1, by omega, by go_num, fun i hi => by obtain rfl : i = 0 := (by omega); exact unhide HT, below_drewN hB _⟩
            case measure => simp [intOf]; omega
          · obtain ⟨p0, p1, u0, u1, hp⟩ := two_of (g5 (k - 1) (by omega))
            obtain ⟨_, _, ee, hp0, hp1⟩ := hp
            simp only [List.cons.injEq, and_true] at ee
            obtain ⟨rfl, rfl⟩ := ee
            replace u0 := (hB.cell (p := ⟨b, off + (k - 1) * 2, none⟩) g4).trans u0
            replace hp0 := hp0.keep hB
            obtain ⟨y, hy⟩ : ∃ y, y = l[k - 1] := ⟨_, rfl⟩
            rw [← hy] at hp0
            have hgy : l.getD (k - 1) ([], []) = y := by rw [hy]; simp [show k - 1 < l.length by omega]
            obtain ⟨a2, n2, hv2, _, _⟩ := hp0.shape
            subst hv2
            have cx := fun q => conv_any (wr.drewN q) _ x.1 (hc0.keep (below_drewN (Below.refl _ _) q))
            have cy := fun q => conv_any (wr.drewN q) _ y.1 (hp0.keep (below_drewN (Below.refl _ _) q))
            have hkp : 0 < k := by omega
            have hkd : decide (0 < k) = true := by simp; omega
            have hk1 : (0 : Int) ≤ (k : Int) - 1 := by omega
            have hk2 : (k : Int) - 1 < (l.length : Int) := by omega
            have hk3 : ((k : Int) - 1).toNat = k - 1 := by omega
            have HN := hide hn
            have HX := hide ht
            by_cases hl2 : lessB y.1 x.1 = true
            · have HT := hide (show attrAt l k from ⟨by rw [hgd]; exact hn, by rw [hgd]; exact ht, fun _ => by rw [hgd, hgy]; exact hl2⟩)
              unfold lessB at hl2
              clear g5 hn ht hgd hx hy hgy
              go_wp2_with fail
              go_quiet (first | (go_at_call 48; exact Calls.quiet_of_same (nameS_yes _ _ x.1 (hc0.keep (below_drewN (Below.refl _ _) _)) (unhide HN))) | (go_at_call 47; exact Calls.quiet_of_same (textS_yes _ _ x.2 (hc1.keep (below_drewN (Below.refl _ _) _)) (unhide HX))))
              go_wp2_with fail
              go_roundw
              case rel => exact ⟨k + 1, by omega, by go_num, fun i hi => step_all (unhide HA) (unhide HT) i hi, below_drewN hB _⟩
              case measure => simp [intOf]; omega
            · have HF := hide (show decide (AttrsOk l) = false by
                simp only [decide_eq_false_iff_not]
                rintro ⟨_, h⟩
                exact hl2 (by have := (h k hlt).2.2 (by omega); rwa [hgd, hgy] at this))
              have hl3 : Op.bytesLess (str y.1).toList (str x.1).toList = false := by unfold lessB at hl2; simpa using hl2
              clear g5 hn ht hgd hx hy hgy hl2
              go_wp2_with fail
              go_quiet (first | (go_at_call 48; exact Calls.quiet_of_same (nameS_yes _ _ x.1 (hc0.keep (below_drewN (Below.refl _ _) _)) (unhide HN))) | (go_at_call 47; exact Calls.quiet_of_same (textS_yes _ _ x.2 (hc1.keep (below_drewN (Below.refl _ _) _)) (unhide HX))))
              go_wp2_with fail
              go_ret
              exact ⟨by rw [unhide HF]; rfl, below_drewN hB _⟩
        · have HF := hide (show decide (AttrsOk l) = false by
            simp only [decide_eq_false_iff_not]
            rintro ⟨_, h⟩
            exact ht (by have := (h k hlt).2.1; rwa [hgd] at this))
          have HN := hide hn
          have HX := hide ht
          clear g5 hn ht hgd hx
          go_wp2_with fail
          go_quiet (first | (go_at_call 48; exact Calls.quiet_of_same (nameS_yes _ _ x.1 (hc0.keep (below_drewN (Below.refl _ _) _)) (unhide HN))) | (go_at_call 47; exact Calls.quiet_of_same (textS_no _ _ x.2 (hc1.keep (below_drewN (Below.refl _ _) _)) (unhide HX))))
          go_wp2_with fail
          go_ret
          exact ⟨by rw [unhide HF]; rfl, below_drewN hB _⟩
      · have HF := hide (show decide (AttrsOk l) = false by
          simp only [decide_eq_false_iff_not]
          rintro ⟨_, h⟩
          exact hn (by have := (h k hlt).1; rwa [hgd] at this))
        have HN := hide hn
        clear g5 hn hgd hx
        go_wp2_with fail
        go_quiet ((go_at_call 48; exact Calls.quiet_of_same (nameS_no _ _ x.1 (hc0.keep (below_drewN (Below.refl _ _) _)) (unhide HN))))
        go_wp2_with fail
        go_ret
        exact ⟨by rw [unhide HF]; rfl, below_drewN hB _⟩
    · have e : k = l.length := by omega
      subst e
      have HF := hide (show decide (AttrsOk l) = true by simp only [decide_eq_true_eq]; exact ⟨by omega, unhide HA⟩)
      clear g5
      go_wp2_with fail
      go_ret
      exact ⟨by rw [unhide HF]; rfl, hB⟩
end Go.Proofs.Yteioihjgjbjmjaa
