/- The laws' own count of how great a tree is, by contracts. -/
import Derived.Test.YteioihjgjbjmjaaChecked
import Derived.Test.YteioihjgjbjmjaaTree
namespace Go.Proofs.Yteioihjgjbjmjaa
open Go.RowKit
set_option linter.unusedVariables false

theorem ret_i64 {a b : Int} (h : a = b) : Ending.returned (.int .i64 a) = .returned (.int .i64 b) := by rw [h]

theorem szB_any (w : World) (a : Option Addr) (n cap : Nat) (left : Int) (hn : n ≤ maxLen) (h0 : 0 ≤ left) (h1 : left ≤ 1000000000) :
    Calls Try.prog 23 #[.slice a n cap, .int .i64 left] w fun e w' => e = .returned (.int .i64 (rest n left)) ∧ w' = w := by
  unfold maxLen at hn
  by_cases h : (n : Int) ≤ left
  · have HR := hide (rest_in h)
    have hd : ¬ left - (n : Int) < 0 := by omega
    go_enter Try.func23, Try.ntmps23
    go_wp2
    go_ret
    exact ⟨by rw [unhide HR]; rfl, rfl⟩
  · have HR := hide (rest_out h)
    have hd : left - (n : Int) < 0 := by omega
    go_enter Try.func23, Try.ntmps23
    go_wp2
    go_ret
    exact ⟨by rw [unhide HR]; rfl, rfl⟩

set_option maxHeartbeats 1600000 in
theorem szAttr_any (w : World) (a b : Value) (x : List Int × List Int) (left : Int) (ha : Byt w a x.1) (hb : Byt w b x.2) (h0 : 0 ≤ left) (h1 : left ≤ 1000000000) :
    Calls Try.prog 46 #[.agg #[a, b], .int .i64 left] w fun e w' => e = .returned (.int .i64 (rest (x.1.length + x.2.length) left)) ∧ Below w.heap.size w w' := by
  obtain ⟨a1, c1, rfl, _, _⟩ := ha.shape
  obtain ⟨a2, c2, rfl, _, _⟩ := hb.shape
  have m1 := ha.2.1
  have m2 := hb.2.1
  by_cases h2 : ((x.1.length : Nat) : Int) ≤ left
  · have HR := hide (rest_rest (b := x.2.length) h2)
    go_enter Try.func46, Try.ntmps46
    go_wp2_with fail
    refine (szB_any _ _ _ _ left m1 h0 h1).mono ?_
    rintro e w1 ⟨rfl, rfl⟩
    rw [rest_in h2]
    have hd : ¬ left - (x.1.length : Int) < 0 := by omega
    go_wp2_with fail
    refine (szB_any _ _ _ _ (left - (x.1.length : Int)) m2 (by omega) (by omega)).mono ?_
    rintro e w2 ⟨rfl, rfl⟩
    by_cases h3 : ((x.2.length : Nat) : Int) ≤ left - (x.1.length : Int)
    · rw [rest_in h3] at HR ⊢
      have hd2 : ¬ left - (x.1.length : Int) - (x.2.length : Int) < 0 := by omega
      go_wp2
      go_ret
      exact ⟨by rw [unhide HR]; rfl, (Below.refl _ _).alloc (Nat.le_refl _) _⟩
    · rw [rest_out h3] at HR ⊢
      go_wp2
      go_ret
      exact ⟨by rw [unhide HR]; rfl, (Below.refl _ _).alloc (Nat.le_refl _) _⟩
  · have HR := hide (rest_bad (b := x.2.length) h2)
    go_enter Try.func46, Try.ntmps46
    go_wp2_with fail
    refine (szB_any _ _ _ _ left m1 h0 h1).mono ?_
    rintro e w1 ⟨rfl, rfl⟩
    rw [rest_out (by omega)]
    go_wp2
    go_ret
    exact ⟨by rw [unhide HR]; rfl, (Below.refl _ _).alloc (Nat.le_refl _) _⟩

/-- The count of the first k members. -/
def sumTo {α : Type} (f : α → Nat) (l : List α) (k : Nat) : Nat := ((l.take k).map f).sum
theorem sumTo_step {α : Type} (f : α → Nat) (l : List α) (k : Nat) (h : k < l.length) : sumTo f l (k + 1) = sumTo f l k + f l[k] := by
  unfold sumTo
  rw [List.take_succ_eq_append_getElem h]
  simp only [List.map_append, List.sum_append, List.map_cons, List.map_nil, List.sum_cons, List.sum_nil, Nat.add_zero]
theorem sumTo_all {α : Type} (f : α → Nat) (l : List α) : sumTo f l l.length = (l.map f).sum := by simp [sumTo]
theorem sumTo_le {α : Type} (f : α → Nat) (l : List α) (k : Nat) : sumTo f l k ≤ (l.map f).sum := by
  have h : (l.map f).sum = sumTo f l k + ((l.drop k).map f).sum := by
    unfold sumTo
    rw [← List.sum_append, ← List.map_append, List.take_append_drop]
  omega

set_option maxHeartbeats 1600000 in
theorem szAttrS_any (w : World) (v : Value) (l : List (List Int × List Int)) (left : Int) (h : RdAttrs w v l) (h0 : 0 ≤ left) (h1 : left ≤ 1000000000) :
    Calls Try.prog 24 #[v, .int .i64 left] w fun e w' => e = .returned (.int .i64 (rest (szA l) left)) ∧ Below w.heap.size w w' := by
  have hm := h.1
  unfold maxLen at hm
  by_cases h2 : (l.length : Int) ≤ left
  · have hd : ¬ left - (l.length : Int) < 0 := by omega
    obtain ⟨_, ⟨rfl, rfl⟩ | ⟨x, cap, rfl, hc, rfl⟩ | ⟨b, off, cap, rfl, g1, g2, g3, g4, g5⟩⟩ := h
    · go_enter Try.func24, Try.ntmps24
      go_wp2
      refine wp_loop_rounds 1 ?_
      rw [rounds_succ]
      go_wp2
      go_ret
      exact ⟨ret_i64 (by rw [rest_in (by simpa [szA] using h0)]; simp [szA]), Below.refl _ _⟩
    · go_enter Try.func24, Try.ntmps24
      go_wp2
      refine wp_loop_rounds 1 ?_
      rw [rounds_succ]
      go_wp2
      go_ret
      exact ⟨ret_i64 (by rw [rest_in (by simpa [szA] using h0)]; simp [szA]), Below.refl _ _⟩
    · have HE := hide (rest_rest (b := (l.map fun x => x.1.length + x.2.length).sum) h2)
      go_enter Try.func24, Try.ntmps24
      go_wp2
      go_loopw [1, 5] (fun q i wr => ∃ k : Nat, k ≤ l.length ∧ i = .int .i64 k ∧ ((sumTo (fun x : List Int × List Int => x.1.length + x.2.length) l k : Nat) : Int) ≤ left - (l.length : Int) ∧ q = .int .i64 (left - (l.length : Int) - (sumTo (fun x : List Int × List Int => x.1.length + x.2.length) l k : Nat)) ∧ Below w.heap.size w wr) (fun _ i _ => l.length - (intOf i).toNat)
      case atStart => exact ⟨0, Nat.zero_le _, rfl, by simp [sumTo]; omega, by simp [sumTo], Below.refl _ _⟩
      case round =>
        obtain ⟨k, hk, rfl, hs, rfl, hB⟩ := hrel
        by_cases hlt : k < l.length
        · obtain ⟨C, hC, hcell, c0, c1, rfl, hc0, hc1⟩ := g5 k hlt
          have e0 := (hB.cell (p := ⟨b, off + k * 2, none⟩) g4).trans (hcell 0 (by omega))
          have e1 := (hB.cell (p := ⟨b, off + k * 2 + 1, none⟩) g4).trans (hcell 1 (by omega))
          simp only [List.getElem?_cons_zero, List.getElem?_cons_succ] at e0 e1
          have hlt' : (k : Int) < (l.length : Int) := by omega
          obtain ⟨a1, k1, hsh1, _, _⟩ := hc0.shape
          obtain ⟨a2, k2, hsh2, _, _⟩ := hc1.shape
          subst hsh1 hsh2
          generalize hq : sumTo (fun x : List Int × List Int => x.1.length + x.2.length) l k = q at *
          have HQ := hide hq
          clear hcell g5 hq
          have hst := sumTo_step (fun x : List Int × List Int => x.1.length + x.2.length) l k hlt
          have hle := sumTo_le (fun x : List Int × List Int => x.1.length + x.2.length) l (k + 1)
          rw [hst] at hle
          rw [HQ.out] at hst hle
          have HST := hide hst
          clear hst
          go_wp2_with fail
          refine (szAttr_any wr _ _ l[k] (left - (l.length : Int) - (q : Int)) (hc0.keep hB) (hc1.keep hB) (by omega) (by omega)).mono ?_
          rintro e w2 ⟨rfl, hB2⟩
          have hB3 := hB.trans (hB2.mono hB.size)
          clear hc0 hc1 hC e0 e1
          generalize l[k].fst.length + l[k].snd.length = m at *
          by_cases h3 : (m : Int) ≤ left - (l.length : Int) - (q : Int)
          · rw [rest_in h3]
            have hd3 : ¬ left - (l.length : Int) - (q : Int) - (m : Int) < 0 := by omega
            go_wp2
            go_roundw
            case rel => exact ⟨k + 1, by omega, by go_num, by rw [unhide HST]; omega, by rw [unhide HST]; exact congrArg (Value.int .i64) (by omega), hB3⟩
            case measure => simp [intOf]; omega
          · rw [rest_out h3]
            have HF := hide (show rest (szA l) left = -1 by unfold szA; rw [unhide HE, rest_out (by omega)])
            go_wp2
            go_ret
            exact ⟨by rw [unhide HF]; rfl, hB3⟩
        · have e : k = l.length := by omega
          subst e
          rw [sumTo_all] at hs ⊢
          have HF := hide (show rest (szA l) left = left - (l.length : Int) - ((l.map fun x => x.1.length + x.2.length).sum : Nat) by unfold szA; rw [unhide HE, rest_in hs])
          go_wp2
          go_ret
          exact ⟨by rw [unhide HF]; rfl, hB⟩
  · have HF := hide (show rest (szA l) left = -1 from rest_bad h2)
    obtain ⟨a, cap, rfl, _, _⟩ := h.shape
    have hd : left - (l.length : Int) < 0 := by omega
    go_enter Try.func24, Try.ntmps24
    go_wp2
    go_ret
    exact ⟨by rw [unhide HF]; rfl, Below.refl _ _⟩

/-- What szNode does to a node of depth below n. -/
def SzNodeSaid (n : Nat) : Prop := ∀ (w : World) (a b c d e : Value) (t : Tr n) (left : Int), RdNode n w [a, b, c, d, e] t → 0 ≤ left → left ≤ 1000000000 →
    Calls Try.prog 7 #[.agg #[a, b, c, d, e], .int .i64 left] w fun e w' => e = .returned (.int .i64 (rest (szT n t) left)) ∧ Below w.heap.size w w'

set_option maxHeartbeats 1600000 in
theorem szNodeS_any (n : Nat) (H : SzNodeSaid n) (w : World) (v : Value) (l : List (Tr n)) (left : Int) (h : RdKids n w v l) (h0 : 0 ≤ left) (h1 : left ≤ 1000000000) :
    Calls Try.prog 25 #[v, .int .i64 left] w fun e w' => e = .returned (.int .i64 (rest (szK n l) left)) ∧ Below w.heap.size w w' := by
  have hm := h.1
  unfold maxLen at hm
  by_cases h2 : (l.length : Int) ≤ left
  · have hd : ¬ left - (l.length : Int) < 0 := by omega
    obtain ⟨_, ⟨rfl, rfl⟩ | ⟨x, cap, rfl, hc, rfl⟩ | ⟨b, off, cap, rfl, g1, g2, g3, g4, g5⟩⟩ := h
    · go_enter Try.func25, Try.ntmps25
      go_wp2_with fail
      refine wp_loop_rounds 1 ?_
      rw [rounds_succ]
      go_wp2_with fail
      go_ret
      exact ⟨ret_i64 (by rw [rest_in (by simpa [szK] using h0)]; simp [szK]), Below.refl _ _⟩
    · go_enter Try.func25, Try.ntmps25
      go_wp2_with fail
      refine wp_loop_rounds 1 ?_
      rw [rounds_succ]
      go_wp2_with fail
      go_ret
      exact ⟨ret_i64 (by rw [rest_in (by simpa [szK] using h0)]; simp [szK]), Below.refl _ _⟩
    · have HE := hide (rest_rest (b := (l.map (szT n)).sum) h2)
      go_enter Try.func25, Try.ntmps25
      go_wp2_with fail
      go_loopw [1, 5] (fun q i wr => ∃ k : Nat, k ≤ l.length ∧ i = .int .i64 k ∧ ((sumTo (szT n) l k : Nat) : Int) ≤ left - (l.length : Int) ∧ q = .int .i64 (left - (l.length : Int) - (sumTo (szT n) l k : Nat)) ∧ Below w.heap.size w wr) (fun _ i _ => l.length - (intOf i).toNat)
      case atStart => exact ⟨0, Nat.zero_le _, rfl, by simp [sumTo]; omega, by simp [sumTo], Below.refl _ _⟩
      case round =>
        obtain ⟨k, hk, rfl, hs, rfl, hB⟩ := hrel
        by_cases hlt : k < l.length
        · obtain ⟨C, hC, hcell, hr⟩ := g5 k hlt
          obtain ⟨c0, c1, c2, c3, c4, rfl⟩ : ∃ c0 c1 c2 c3 c4, C = [c0, c1, c2, c3, c4] := by
            match C, hC with
            | [c0, c1, c2, c3, c4], _ => exact ⟨c0, c1, c2, c3, c4, rfl⟩
          have e0 := (hB.cell (p := ⟨b, off + k * 5, none⟩) g4).trans (hcell 0 (by omega))
          have e1 := (hB.cell (p := ⟨b, off + k * 5 + 1, none⟩) g4).trans (hcell 1 (by omega))
          have e2 := (hB.cell (p := ⟨b, off + k * 5 + 2, none⟩) g4).trans (hcell 2 (by omega))
          have e3 := (hB.cell (p := ⟨b, off + k * 5 + 3, none⟩) g4).trans (hcell 3 (by omega))
          have e4 := (hB.cell (p := ⟨b, off + k * 5 + 4, none⟩) g4).trans (hcell 4 (by omega))
          simp only [List.getElem?_cons_zero, List.getElem?_cons_succ] at e0 e1 e2 e3 e4
          have hlt' : (k : Int) < (l.length : Int) := by omega
          have hst := sumTo_step (szT n) l k hlt
          have hle := sumTo_le (szT n) l (k + 1)
          rw [hst] at hle
          generalize hq : sumTo (szT n) l k = q at *
          have HQ := hide hq
          have HST := hide hst
          clear hcell g5 hq hst
          go_wp2_with fail
          refine (H wr _ _ _ _ _ l[k] (left - (l.length : Int) - (q : Int)) (hr.keep hB) (by omega) (by omega)).mono ?_
          rintro e w2 ⟨rfl, hB2⟩
          have hB3 := hB.trans (hB2.mono hB.size)
          clear hC e0 e1 e2 e3 e4 hr
          generalize szT n l[k] = m at *
          by_cases h3 : (m : Int) ≤ left - (l.length : Int) - (q : Int)
          · rw [rest_in h3]
            have hd3 : ¬ left - (l.length : Int) - (q : Int) - (m : Int) < 0 := by omega
            go_wp2_with fail
            go_roundw
            case rel => exact ⟨k + 1, by omega, by go_num, by rw [unhide HST]; omega, by rw [unhide HST]; exact congrArg (Value.int .i64) (by omega), hB3⟩
            case measure => simp [intOf]; omega
          · rw [rest_out h3]
            have HF := hide (show rest (szK n l) left = -1 by unfold szK; rw [unhide HE, rest_out (by omega)])
            go_wp2_with fail
            go_ret
            exact ⟨by rw [unhide HF]; rfl, hB3⟩
        · have e : k = l.length := by omega
          subst e
          rw [sumTo_all] at hs ⊢
          have HF := hide (show rest (szK n l) left = left - (l.length : Int) - ((l.map (szT n)).sum : Nat) by unfold szK; rw [unhide HE, rest_in hs])
          go_wp2_with fail
          go_ret
          exact ⟨by rw [unhide HF]; rfl, hB⟩
  · have HF := hide (show rest (szK n l) left = -1 from rest_bad h2)
    obtain ⟨a, cap, rfl, _, _⟩ := Elems.shape h
    have hd : left - (l.length : Int) < 0 := by omega
    go_enter Try.func25, Try.ntmps25
    go_wp2_with fail
    go_ret
    exact ⟨by rw [unhide HF]; rfl, Below.refl _ _⟩

theorem szNode_zero : SzNodeSaid 0 := fun _ _ _ _ _ _ t => t.elim

set_option maxHeartbeats 3200000 in
theorem szNode_succ (n : Nat) (H : SzNodeSaid n) : SzNodeSaid (n + 1) := by
  intro w a b c d e t left hr h0 h1
  obtain ⟨a', b', c', d', e0, k1, k2, hb, hc, hd, he⟩ := hr
  simp only [List.cons.injEq, and_true] at e0
  obtain ⟨rfl, rfl, rfl, rfl, rfl⟩ := e0
  obtain ⟨ab, cb, rfl, _, _⟩ := hb.shape
  obtain ⟨ac, cc, rfl, _, _⟩ := hc.shape
  obtain ⟨ad, cd, rfl, _, _⟩ := Elems.shape hd
  obtain ⟨ae, ce, rfl, _, _⟩ := Elems.shape he
  have mb := hb.2.1
  have mc := hc.2.1
  have hz : szT (n + 1) t = t.name.length + (t.text.length + (szA t.attrs + szK n t.kids)) := by show t.name.length + t.text.length + szA t.attrs + (t.kids.length + (t.kids.map (szT n)).sum) = _; unfold szK; omega
  rw [hz]
  have hA : Below w.heap.size w (w.alloc (.cells #[.int .i64 t.kind, .slice ab t.name.length cb, .slice ac t.text.length cc, .slice ad t.attrs.length cd, .slice ae t.kids.length ce] 26)) := (Below.refl _ _).alloc (Nat.le_refl _) _
  go_enter Try.func7, Try.ntmps7
  go_wp2_with fail
  refine (szB_any _ _ _ _ left mb h0 h1).mono ?_
  rintro e w1 ⟨rfl, rfl⟩
  by_cases h2 : (t.name.length : Int) ≤ left
  · have H2 := hide (rest_rest (b := t.text.length + (szA t.attrs + szK n t.kids)) h2)
    rw [rest_in h2]
    have hd2 : ¬ left - (t.name.length : Int) < 0 := by omega
    go_wp2_with fail
    refine (szB_any _ _ _ _ (left - (t.name.length : Int)) mc (by omega) (by omega)).mono ?_
    rintro e w1 ⟨rfl, rfl⟩
    by_cases h3 : (t.text.length : Int) ≤ left - (t.name.length : Int)
    · have H3 := hide (rest_rest (b := szA t.attrs + szK n t.kids) h3)
      rw [rest_in h3]
      have hd3 : ¬ left - (t.name.length : Int) - (t.text.length : Int) < 0 := by omega
      go_wp2_with fail
      refine (szAttrS_any _ _ t.attrs (left - (t.name.length : Int) - (t.text.length : Int)) (hd.keep hA) (by omega) (by omega)).mono ?_
      rintro e w2 ⟨rfl, hB2⟩
      have hA2 := bstep hA hB2
      by_cases h4 : (szA t.attrs : Int) ≤ left - (t.name.length : Int) - (t.text.length : Int)
      · have H4 := hide (rest_rest (b := szK n t.kids) h4)
        rw [rest_in h4]
        have hd4 : ¬ left - (t.name.length : Int) - (t.text.length : Int) - (szA t.attrs : Int) < 0 := by omega
        have hc4 := cell_later hB2 (show (w.alloc (.cells #[.int .i64 t.kind, .slice ab t.name.length cb, .slice ac t.text.length cc, .slice ad t.attrs.length cd, .slice ae t.kids.length ce] 26)).cell? ⟨w.heap.size, 4, none⟩ = some (.slice ae t.kids.length ce) by simp)
        go_wp2_with fail
        refine (szNodeS_any n H w2 _ t.kids (left - (t.name.length : Int) - (t.text.length : Int) - (szA t.attrs : Int)) (RdKids.keep he hA2) (by omega) (by omega)).mono ?_
        rintro e w3 ⟨rfl, hB3⟩
        have hA3 := bstep hA2 hB3
        clear hB2 hB3 hA hA2 hc4
        by_cases h5 : (szK n t.kids : Int) ≤ left - (t.name.length : Int) - (t.text.length : Int) - (szA t.attrs : Int)
        · have H5 := hide (rest_in h5)
          rw [rest_in h5]
          have hd5 : ¬ left - (t.name.length : Int) - (t.text.length : Int) - (szA t.attrs : Int) - (szK n t.kids : Int) < 0 := by omega
          go_wp2_with fail
          go_ret
          exact ⟨by rw [unhide H2, unhide H3, unhide H4, unhide H5]; rfl, hA3⟩
        · have H5 := hide (rest_out h5)
          rw [rest_out h5]
          go_wp2_with fail
          go_ret
          exact ⟨by rw [unhide H2, unhide H3, unhide H4, unhide H5]; rfl, hA3⟩
      · have H4 := hide (rest_bad (b := szK n t.kids) h4)
        rw [rest_out h4]
        clear hB2 hA
        go_wp2_with fail
        go_ret
        exact ⟨by rw [unhide H2, unhide H3, unhide H4]; rfl, hA2⟩
    · have H3 := hide (rest_bad (b := szA t.attrs + szK n t.kids) h3)
      rw [rest_out h3]
      have HA := hide hA
      clear hA
      go_wp2_with fail
      go_ret
      exact ⟨by rw [unhide H2, unhide H3]; rfl, unhide HA⟩
  · have H2 := hide (rest_bad (b := t.text.length + (szA t.attrs + szK n t.kids)) h2)
    rw [rest_out h2]
    have HA := hide hA
    clear hA
    go_wp2_with fail
    go_ret
    exact ⟨by rw [unhide H2]; rfl, unhide HA⟩

theorem szNode_any (n : Nat) : SzNodeSaid n := by
  induction n with
  | zero => exact szNode_zero
  | succ n ih => exact szNode_succ n ih

end Go.Proofs.Yteioihjgjbjmjaa
