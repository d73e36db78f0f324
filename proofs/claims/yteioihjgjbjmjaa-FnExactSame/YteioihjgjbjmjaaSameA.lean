/- impl.sameAttr, and slices.EqualFunc over attributes: they answer whether the attributes are one. -/
import Derived.Test.YteioihjgjbjmjaaCmpI
import Derived.Test.YteioihjgjbjmjaaTool
namespace Go.Proofs.Yteioihjgjbjmjaa
open Go.RowKit
set_option linter.unusedVariables false
set_option maxRecDepth 100000

theorem Loc.pair {w : World} {g : Nat} {a b : Value} {T : TypeId} (h : Loc w g #[a, b] T) : w.cell? ⟨g, 0, none⟩ = some a ∧ w.cell? ⟨g, 1, none⟩ = some b := ⟨h.cell 0, h.cell 1⟩

set_option maxHeartbeats 1600000 in
theorem sameAttr_any (w : World) (a b a' b' : Value) (x y : List Int × List Int) (ha : Byt w a x.1) (hb : Byt w b x.2) (ha' : Byt w a' y.1) (hb' : Byt w b' y.2) :
    Calls Try.prog 61 #[.agg #[a, b], .agg #[a', b']] w fun e w' => e = .returned (.bool (decide (x = y))) ∧ Below w.heap.size w w' := by
  obtain ⟨p1, k1, rfl, _⟩ := ha.shape
  obtain ⟨p2, k2, rfl, _⟩ := hb.shape
  obtain ⟨q1, j1, rfl, _⟩ := ha'.shape
  obtain ⟨q2, j2, rfl, _⟩ := hb'.shape
  obtain ⟨l1, l2, hB⟩ := two w #[.slice p1 x.1.length k1, .slice p2 x.2.length k2] #[.slice q1 y.1.length j1, .slice q2 y.2.length j2] 88 88
  have HD : Hid ((x.1 ≠ y.1 → decide (x = y) = false) ∧ (x.1 = y.1 → decide (x = y) = decide (x.2 = y.2))) := by
    obtain ⟨x1, x2⟩ := x
    obtain ⟨y1, y2⟩ := y
    refine ⟨fun h => ?_, fun h => ?_⟩
    · simp only [decide_eq_false_iff_not]; intro e; exact h (congrArg Prod.fst e)
    · simp only at h; subst h; simp
  generalize x.1.length = n1 at *
  generalize x.2.length = n2 at *
  generalize y.1.length = m1 at *
  generalize y.2.length = m2 at *
  go_enter Try.func61, Try.ntmps61
  go_wp2_with fail
  generalize (w.alloc (.cells #[.slice p1 n1 k1, .slice p2 n2 k2] 88)).alloc (.cells #[.slice q1 m1 j1, .slice q2 m2 j2] 88) = w1 at *
  refine (equalI_any w1 _ _ x.1 y.1 (ha.keep hB) (ha'.keep hB)).mono ?_
  rintro e w1 ⟨rfl, rfl⟩
  obtain ⟨c0, c1⟩ := l1.pair
  obtain ⟨d0, d1⟩ := l2.pair
  by_cases h1 : x.1 = y.1
  · rw [show decide (x.1 = y.1) = true by simpa using h1]
    have HE := hide ((unhide HD).2 h1)
    clear h1
    go_wp2_with fail
    refine (equalI_any w1 _ _ x.2 y.2 (hb.keep hB) (hb'.keep hB)).mono ?_
    rintro e w1 ⟨rfl, rfl⟩
    go_wp2_with fail
    go_ret
    exact ⟨by rw [unhide HE]; rfl, hB⟩
  · rw [show decide (x.1 = y.1) = false by simpa using h1]
    have HE := hide ((unhide HD).1 h1)
    clear h1
    go_wp2_with fail
    go_ret
    exact ⟨by rw [unhide HE]; rfl, hB⟩

theorem eq_to {α : Type} {l m : List α} {k : Nat} (hl : l.length = m.length) (hk : k = l.length) (h : ∀ i, i < k → l[i]? = m[i]?) : l = m := by
  apply List.ext_getElem?
  intro i
  by_cases hi : i < k
  · exact h i hi
  · rw [List.getElem?_eq_none (by omega), List.getElem?_eq_none (by omega)]

set_option maxHeartbeats 3200000 in
theorem equalAttrs_any (w : World) (u v : Value) (l m : List (List Int × List Int)) (hu : RdAttrs w u l) (hv : RdAttrs w v m) :
    Calls Try.prog 60 #[u, v, .func (.func 61) #[] #[]] w fun e w' => e = .returned (.bool (decide (l = m))) ∧ Below w.heap.size w w' := by
  have hml := hu.1
  unfold maxLen at hml
  obtain ⟨au, cu, rfl, _, _⟩ := Elems.shape hu
  obtain ⟨av, cv, rfl, _, _⟩ := Elems.shape hv
  by_cases hlen : l.length = m.length
  · have d1 : ((l.length : Int) != (m.length : Int)) = false := by simp [hlen]
    have HL := hide hlen
    have hml' : (l.length : Int) ≤ 9223372036854775807 := by omega
    generalize hn : l.length = n at *
    have HN := hide hn
    have HM : Hid (m.length = n) := hide hlen.symm
    rw [← hlen] at d1 hv
    rw [← hlen]
    clear hlen hn HL
    go_enter Try.func60, Try.ntmps60
    go_wp2_with fail
    go_loopw [17] (fun i wr => ∃ k : Nat, k ≤ n ∧ i = .int .i64 k ∧ (∀ i, i < k → l[i]? = m[i]?) ∧ Below w.heap.size w wr) (fun i _ => n - (intOf i).toNat)
    case atStart => exact ⟨0, Nat.zero_le _, rfl, fun i hi => by omega, Below.refl _ _⟩
    case round =>
      obtain ⟨k, hk, rfl, ha, hB⟩ := hrel
      have HA := hide ha
      clear ha
      by_cases hlt : k < n
      · have hkl : k < l.length := by rw [unhide HN]; exact hlt
        have hkm : k < m.length := by rw [unhide HM]; exact hlt
        obtain ⟨b, off, rfl, hbl, hun, _, C, hC, hc, hr⟩ := hu.at hkl
        clear hun
        obtain ⟨b', off', rfl, hbl', hun, _, C', hC', hc', hr'⟩ := hv.at hkm
        clear hun
        obtain ⟨x, hx⟩ : ∃ x, x = l[k] := ⟨_, rfl⟩
        obtain ⟨y, hy⟩ : ∃ y, y = m[k] := ⟨_, rfl⟩
        rw [← hx] at hr
        rw [← hy] at hr'
        obtain ⟨v0, v1, rfl, h0, h1⟩ := hr
        obtain ⟨v0', v1', rfl, h0', h1'⟩ := hr'
        have e0 := (hB.cell (p := ⟨b, off + k * 2, none⟩) hbl).trans (hc 0 (by omega))
        have e1 := (hB.cell (p := ⟨b, off + k * 2 + 1, none⟩) hbl).trans (hc 1 (by omega))
        have e0' := (hB.cell (p := ⟨b', off' + k * 2, none⟩) hbl').trans (hc' 0 (by omega))
        have e1' := (hB.cell (p := ⟨b', off' + k * 2 + 1, none⟩) hbl').trans (hc' 1 (by omega))
        simp only [List.getElem?_cons_zero, List.getElem?_cons_succ] at e0 e1 e0' e1'
        obtain ⟨p0, k0, rfl, _, _⟩ := h0.shape
        obtain ⟨p1, k1, rfl, _, _⟩ := h1.shape
        obtain ⟨p0', k0', rfl, _, _⟩ := h0'.shape
        obtain ⟨p1', k1', rfl, _, _⟩ := h1'.shape
        have HE : Hid (l[k]? = m[k]? ↔ x = y) := hide (by rw [List.getElem?_eq_getElem hkl, List.getElem?_eq_getElem hkm, ← hx, ← hy, Option.some.injEq])
        clear hc hc' hx hy
        obtain ⟨l1, l2, hB2⟩ := two wr #[.slice p0 x.1.length k0, .slice p1 x.2.length k1] #[.slice p0' y.1.length k0', .slice p1' y.2.length k1'] 88 88
        have hA := bstep hB hB2
        have hcall := sameAttr_any _ _ _ _ _ x y ((h0.keep hB).keep hB2) ((h1.keep hB).keep hB2) ((h0'.keep hB).keep hB2) ((h1'.keep hB).keep hB2)
        have HC := hide hcall
        have hlt' : (k : Int) < (n : Int) := by omega
        generalize x.1.length = n0 at *
        generalize x.2.length = n1 at *
        generalize y.1.length = m0 at *
        generalize y.2.length = m1 at *
        clear hcall h0 h1 h0' h1' hu hv
        have z0 : (wr.alloc (.cells #[.slice p0 n0 k0, .slice p1 n1 k1] 88)).cell? ⟨b', off' + k * 2, none⟩ = some (.slice p0' m0 k0') := (((Below.refl wr.heap.size wr).alloc (Nat.le_refl _) _).cell (p := ⟨b', off' + k * 2, none⟩) (Nat.lt_of_lt_of_le hbl' hB.size)).trans e0'
        have z1 : (wr.alloc (.cells #[.slice p0 n0 k0, .slice p1 n1 k1] 88)).cell? ⟨b', off' + k * 2 + 1, none⟩ = some (.slice p1' m1 k1') := (((Below.refl wr.heap.size wr).alloc (Nat.le_refl _) _).cell (p := ⟨b', off' + k * 2 + 1, none⟩) (Nat.lt_of_lt_of_le hbl' hB.size)).trans e1'
        clear e0' e1'
        go_wp2_with fail
        refine (unhide HC).mono ?_
        rintro e w2 ⟨rfl, hB3⟩
        have hA3 := bstep hA hB3
        by_cases hxy : x = y
        · rw [show decide (x = y) = true by simpa using hxy]
          have HS := hide ((unhide HE).2 hxy)
          clear hxy z0 z1 l1 l2
          go_wp2_with fail
          go_roundw
          case rel => exact ⟨k + 1, by omega, by go_num, fun i hi => step_all (p := fun i => l[i]? = m[i]?) (unhide HA) (unhide HS) i hi, hA3⟩
          case measure => simp [intOf]; omega
        · rw [show decide (x = y) = false by simpa using hxy]
          have HF := hide (show decide (l = m) = false by
            simp only [decide_eq_false_iff_not]
            intro e
            exact hxy ((unhide HE).1 (by rw [e])))
          clear hxy z0 z1 l1 l2
          go_wp2_with fail
          go_ret
          exact ⟨by rw [unhide HF]; rfl, hA3⟩
      · have e : k = n := by omega
        subst e
        have HF := hide (show decide (l = m) = true by
          simp only [decide_eq_true_eq]
          exact eq_to (by rw [unhide HN, unhide HM]) (unhide HN).symm (unhide HA))
        clear hu hv
        go_wp2_with fail
        go_ret
        exact ⟨by rw [unhide HF]; rfl, hB⟩
  · have d1 : ((l.length : Int) != (m.length : Int)) = true := by rw [bne_iff_ne]; omega
    have HE := hide (show decide (l = m) = false by simp only [decide_eq_false_iff_not]; intro e; exact hlen (by rw [e]))
    clear hlen hu hv
    go_enter Try.func60, Try.ntmps60
    go_wp2_with fail
    go_ret
    exact ⟨by rw [unhide HE]; rfl, Below.refl _ _⟩
end Go.Proofs.Yteioihjgjbjmjaa
