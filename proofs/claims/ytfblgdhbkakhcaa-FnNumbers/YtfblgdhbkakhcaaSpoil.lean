/- What is drawn and spoilt: some readable bytes. -/
import Derived.Test.YtfblgdhbkakhcaaNew
import Derived.Test.YtfblgdhbkakhcaaPutS
import Derived.Test.YtfblgdhbkakhcaaGetI
import Derived.Deep.RegionLaw
import Derived.Deep.RegionHeld3
namespace Go.Proofs.Ytfblgdhbkakhcaa
open Go.RowKit
set_option linter.unusedVariables false

/-- 'append(out, src...)', as one step of a region that draws its order. -/
theorem step_app {w : World} {ops : Array Oper} {o : Oper} {a : Act} {K : Act → World → Prop} {Q : Exit → Act → World → Prop} {E : Prop} (hgd : o.guard = none) (s x : Operand)
    (ho : o.op = .call { callee := .builtin .append, args := #[s, x], argTypes := #[22, 22] })
    (base : Nat) (v : Value) (l : List Int) (hs : a.eval s = v) (hown : Own w base v l) (u : Value) (m : List Int) (hx : a.eval x = u) (hu : Byt w u m)
    (hlen : l.length + m.length ≤ 134217728) (hbase : base ≤ w.heap.size)
    (h : ∀ v' w', Own w' base v' (l ++ m) → w.grownBy w' v.ownBlock → K (a.put o.dst v') w') : if Region.wanted o (yielded ops a.tmps) = true then Oper.wp Try.prog o a w K Q else E := by
  have hw : Region.wanted o (yielded ops a.tmps) = true := by simp [Region.wanted, hgd]
  rw [if_pos hw]
  obtain ⟨i0, hi, hz0, hz1, hz2⟩ := info_parts Try.info5
  have hfull : ∀ (ad : Addr) (c : Nat), a.eval x = .slice (some ad) m.length c → (∀ j, j < m.length → w.cell? (ad.add j) = some (.int .u8 (m.getD j 0))) → Oper.wp Try.prog o a w K Q := by
    intro ad c hx' hc
    refine wp_append_own w s x 22 ho base 5 i0 (.int .u8 0) 1 1 Try.underlying22 hi hz0 hz1 hz2 rfl (by decide) v l.length (vals l) hs hown.2 ad m.length c (vals m) hx' (by rw [vals_len]; omega) ?_ (vals_one m) (by unfold maxLen; omega) (by omega) hbase ?_
    · intro j y hj
      have hlt : j < m.length := by
        by_cases hlt : j < m.length
        · exact hlt
        · rw [List.getElem?_eq_none (by rw [vals_len]; omega)] at hj; cases hj
      rw [vals_at hlt] at hj
      rw [hc j hlt]; exact hj
    · intro v' w' h1 h2 _
      refine h v' w' ⟨hown.1.app hu.1, ?_⟩ h2
      rw [vals_app, List.length_append]; exact h1
  obtain ⟨hok, hm, ⟨rfl, rfl⟩ | ⟨y, cap, rfl, hc, rfl⟩ | ⟨b, off, cap, rfl, h1, h2, h3, h4, h5⟩⟩ := hu
  · have hrun := run_append_owned_none (P := Try.prog) (w := w) base 22 o.type 5 i0 1 Try.underlying22 hi v l.length (vals l) hown.2
    unfold Oper.wp
    simp [execOp, ho, resolve, invoke, builtin, hs, hx, hrun, Result.andThen]
    exact h v w (by rw [List.append_nil]; exact hown) (World.grownBy.refl _ _)
  · exact hfull y cap hx (fun j hj => by simp at hj)
  · exact hfull ⟨b, off, none⟩ cap hx (fun j hj => by rw [add_plain]; exact h5 j hj)

/-- An owned row of at least one byte, its block and its cells. -/
theorem Own.form {w : World} {base : Nat} {v : Value} {l : List Int} (h : Own w base v l) (h0 : l ≠ []) : ∃ g cap, v = .slice (some ⟨g, 0, none⟩) l.length cap ∧ base ≤ g ∧ g < w.heap.size ∧ l.length ≤ cap ∧ cap ≤ maxLen ∧
    (∀ i, i < l.length → w.cell? ⟨g, i, none⟩ = some (.int .u8 (l.getD i 0))) ∧ (∀ i, w.frozen? ⟨g, i, none⟩ = false) := by
  obtain ⟨hok, hlen, ⟨rfl, hz⟩ | ⟨g, cap, cur, rfl, hb, hg, hnc, hcm, hcs, htake⟩⟩ := h
  · exact absurd (List.eq_nil_of_length_eq_zero hz) h0
  · have hr : w.ownsRow base 5 1 (.slice (some ⟨g, 0, none⟩) l.length cap) l.length (vals l) := ⟨hlen, .inr ⟨g, cap, cur, rfl, hb, hg, hnc, hcm, hcs, htake⟩⟩
    refine ⟨g, cap, rfl, hb, (hr.lt g rfl).2, hnc, hcm, fun i hi => ?_, fun i => hr.frozenAt i⟩
    rw [hr.cellAt i (by omega), vals_at hi]

/-- A store of one byte into an owned row. -/
theorem Own.store {w : World} {base g cap : Nat} {l : List Int} (h : Own w base (.slice (some ⟨g, 0, none⟩) l.length cap) l) (i : Nat) (x : Int) (h0 : 0 ≤ x) (h1 : x ≤ 255) :
    Own (w.setCell ⟨g, i, none⟩ (.int .u8 x)) base (.slice (some ⟨g, 0, none⟩) l.length cap) (l.set i x) := by
  refine ⟨fun y hy => ?_, ?_⟩
  · rcases List.mem_or_eq_of_mem_set hy with h' | rfl
    · exact h.1 y h'
    · exact ⟨h0, h1⟩
  · have hs := (h.2.stored i (.int .u8 x)).1
    rw [List.length_set]
    unfold vals at hs ⊢
    rw [List.map_set]
    exact hs

/-- The head of an owned row can be read. -/
theorem Own.take {w : World} {base g cap : Nat} {l : List Int} (h : Own w base (.slice (some ⟨g, 0, none⟩) l.length cap) l) (j : Nat) (hj : j ≤ l.length) (c : Nat) (hc : j ≤ c) (hcm : c ≤ maxLen) : Byt w (.slice (some ⟨g, 0, none⟩) j c) (l.take j) := by
  have hl : (l.take j).length = j := by simp; omega
  by_cases h0 : j = 0
  · subst h0
    exact ⟨by simpa using okB_nil, by simp [maxLen], .inr (.inl ⟨_, c, rfl, hcm, by simp⟩)⟩
  · obtain ⟨g', cap', e, _, hlt, _, _, hcell, _⟩ := h.form (by intro e; subst e; simp at hj; omega)
    simp only [Value.slice.injEq, Option.some.injEq, Addr.mk.injEq, true_and, and_true] at e
    obtain ⟨rfl, rfl⟩ := e
    refine ⟨h.1.take j, by omega, .inr (.inr ⟨g, 0, c, by rw [hl], by omega, hcm, fun e => by rw [e] at hl; simp at hl; omega, hlt, fun i hi => ?_⟩)⟩
    rw [Nat.zero_add, hcell i (by omega), List.getD_eq_getElem?_getD, List.getD_eq_getElem?_getD, List.getElem?_take, if_pos (by omega)]

/-- The value does not lie in block g. -/
def Far (v : Value) (g : Nat) : Prop := ∀ a n c, v = .slice (some a) n c → a.block ≠ g
theorem Own.far {w : World} {base g : Nat} {v : Value} {l : List Int} (h : Own w base v l) (hg : g < base) : Far v g := by
  intro a n c e
  have := h.base_le a.block (by rw [e]; rfl)
  omega
theorem far_some (b off n c g : Nat) (h : b ≠ g) : Far (.slice (some ⟨b, off, none⟩) n c) g := by
  intro a n c e
  simp only [Value.slice.injEq, Option.some.injEq] at e
  rw [← e.1]; exact h
/-- What can be read can be read still, while another block is written. -/
theorem Byt.past {w w' : World} {g : Nat} {v : Value} {l : List Int} (h : Byt w v l) (hg : w.grownBy w' (some g)) (hf : Far v g) : Byt w' v l := by
  obtain ⟨hok, hm, h1 | h2 | ⟨b, off, cap, rfl, h1, h2, h3, h4, h5⟩⟩ := h
  · exact ⟨hok, hm, .inl h1⟩
  · exact ⟨hok, hm, .inr (.inl h2)⟩
  · have hb : b ≠ g := hf _ _ _ rfl
    exact ⟨hok, hm, .inr (.inr ⟨b, off, cap, rfl, h1, h2, h3, Nat.lt_of_lt_of_le h4 hg.size, fun i hi => hg.cell (a := ⟨b, off + i, none⟩) (h5 i hi) (by simp; omega)⟩)⟩

set_option maxHeartbeats 3200000 in
theorem l1spoil_any (w0 w : World) (g : Nat) (code : Value) (l : List Int) (v : Value) (m : List Int) (h : Cur w0 w g code l) (hv : Byt w v m) (hm : m.length ≤ 1000) :
    Calls Try.prog 32 #[.pointer (some ⟨g, 0, none⟩), v] w fun e w' => ∃ v', e = .returned v' ∧ ∃ l', Byt w' v' l' ∧ Far v' g ∧ l'.length ≤ 1001 ∧ Cur w0 w' g code l ∧ w.grownBy w' (some g) := by
  have hlt := h.lt
  have hs0 := h.below.size
  go_enter Try.func32, Try.ntmps32
  go_wp2_with (at_builtin; refine wpList_app rfl _ _ rfl w.heap.size _ [] rfl (own_none w) v m rfl (hv.alloc _) ?c1 ?c2 ?_)
  case c1 => first | omega | (simp; omega)
  case c2 => simp
  intro v1 w1 ho1 hg1
  have hG1 : w.grownBy w1 (some g) := grown_new (grown_below (World.grownBy.refl w (some g)) ((Below.refl _ _).alloc (Nat.le_refl _) _)) hg1 (fun q hq => by simp [Value.ownBlock] at hq; omega)
  have hC1 : Cur w0 w1 g code l := (h.keepAll ((Below.refl _ _).alloc (Nat.le_refl _) _)).keep hg1 (fun e => by simp [Value.ownBlock] at e; omega) (fun q hq => by simp [Value.ownBlock] at hq; omega)
  clear hg1
  have hs1 := hG1.size
  by_cases h0 : m = []
  · subst h0
    obtain ⟨a1, k1, rfl, _⟩ := ho1.byt.shape
    go_wp2_with fail
    refine (l1Byte_any w0 w1 g code l hC1).mono ?_
    rintro e w2 ⟨y, hy0, hy1, rfl, hC2, hG2⟩
    have ho2 := ho1.past hG2 hlt
    have hs2 := hG2.size
    go_wp2_with (at_builtin; refine wpList_app rfl _ _ rfl w.heap.size _ [] rfl (ho2.alloc _) _ [y] rfl (byt_one w2 y hy0 hy1) ?c1 ?c2 ?_)
    case c1 => simp
    case c2 => first | omega | (simp; omega)
    intro v3 w3 ho3 hg3
    have hC3 : Cur w0 w3 g code l := (hC2.keepAll ((Below.refl _ _).alloc (Nat.le_refl _) _)).keep hg3 (fun e => by have := ho2.base_le g e.symm; omega) (fun q hq => by have := ho2.base_le q hq; omega)
    have hG3 : w.grownBy w3 (some g) := grown_new (grown_below (grown_trans hG1 hG2) ((Below.refl _ _).alloc (Nat.le_refl _) _)) hg3 ho2.base_le
    have HO := hide (show Own w3 w.heap.size v3 ([] ++ [y]) from ho3)
    clear ho3 hg3 hG2 ho2 hC2
    go_wp2
    go_ret
    exact ⟨_, rfl, _, (unhide HO).byt, (unhide HO).far hlt, by simp, hC3, hG3⟩
  obtain ⟨q, cap, rfl, hq, hq2, hmc, hcm, hcell, hfr⟩ := ho1.form h0
  have hml : 0 < m.length := by cases m with
    | nil => exact absurd rfl h0
    | cons x m => simp
  have hne0 : ((m.length : Int) == 0) = false := by simp; omega
  clear hcell hfr
  go_wp2_with fail
  refine (l1Below_any w0 w1 g code l m.length hC1 (by omega) (by omega)).mono ?_
  rintro e w2 ⟨x, hx0, hx1, rfl, hC2, hG2⟩
  obtain ⟨j, rfl⟩ := Int.eq_ofNat_of_zero_le hx0
  have hj : j < m.length := by omega
  have ho2 := ho1.past hG2 hlt
  have hG2' := grown_trans hG1 hG2
  clear hG1 hG2 hC1 ho1
  go_wp2_with fail
  refine (l1Below_any w0 w2 g code l 5 hC2 (by omega) (by omega)).mono ?_
  rintro e w3 ⟨k, hk0, hk1, rfl, hC3, hG3⟩
  have ho3 := ho2.past hG3 hlt
  have hG3' := grown_trans hG2' hG3
  have hs3 := hG3'.size
  clear hG2' hG3 hC2 ho2
  have hcm' := hcm
  unfold maxLen at hcm'
  have hcz : ¬ cap = 0 := by omega
  by_cases k0 : k = 0
  · subst k0
    have hr := ho3.take j (by omega) cap (by omega) hcm
    have HR := hide hr
    clear hr
    go_wp2
    go_ret
    exact ⟨_, rfl, _, unhide HR, far_some _ _ _ _ _ (by omega), by simp; omega, hC3, hG3'⟩
  by_cases k1 : k = 1
  · subst k1
    clear k0
    go_wp2_with fail
    refine (l1Byte_any w0 w3 g code l hC3).mono ?_
    rintro e w4 ⟨y, hy0, hy1, rfl, hC4, hG4⟩
    have ho4 := ho3.past hG4 hlt
    have hs4 := hG4.size
    go_wp2_with (at_builtin; refine wpList_app rfl _ _ rfl w.heap.size _ m rfl (ho4.alloc _) _ [y] rfl (byt_one w4 y hy0 hy1) ?c1 ?c2 ?_)
    case c1 => simp; omega
    case c2 => first | omega | (simp; omega)
    intro v5 w5 ho5 hg5
    have hC5 : Cur w0 w5 g code l := (hC4.keepAll ((Below.refl _ _).alloc (Nat.le_refl _) _)).keep hg5 (fun e => by have := ho4.base_le g e.symm; omega) (fun q hq => by have := ho4.base_le q hq; omega)
    have hG5 : w.grownBy w5 (some g) := grown_new (grown_below (grown_trans hG3' hG4) ((Below.refl _ _).alloc (Nat.le_refl _) _)) hg5 ho4.base_le
    have HO := hide (show Own w5 w.heap.size v5 (m ++ [y]) from ho5)
    clear ho5 hg5 hG4 ho4 hC4 hG3'
    go_wp2
    go_ret
    exact ⟨_, rfl, _, (unhide HO).byt, (unhide HO).far hlt, by simp; omega, hC5, hG5⟩
  by_cases k2 : k = 2
  · subst k2
    clear k0 k1
    go_wp2_with fail
    refine (l1Byte_any w0 w3 g code l hC3).mono ?_
    rintro e w4 ⟨y, hy0, hy1, rfl, hC4, hG4⟩
    have ho4 := ho3.past hG4 hlt
    have hG4' := grown_trans hG3' hG4
    clear hG3' hG4
    obtain ⟨q', cap', e, _, _, _, _, hcell, hfr⟩ := ho4.form h0
    simp only [Value.slice.injEq, Option.some.injEq, Addr.mk.injEq, true_and, and_true] at e
    obtain ⟨rfl, rfl⟩ := e
    have c1 := hcell j hj
    have f1 := hfr j
    have hst := ho4.store j y hy0 hy1
    have hgs := set_grown w4 q j (.int .u8 y)
    have hC5 := hC4.keep hgs (by simp; omega) (fun r hr => by simp at hr; omega)
    have hG5 := grown_new hG4' hgs (fun r hr => by simp at hr; omega)
    have HO := hide hst
    have HC := hide hC5
    have HG := hide hG5
    clear hcell hfr hst hgs hC5 hG5 hG4' hC4
    have hj' : (j : Int) < (m.length : Int) := by omega
    go_wp2
    go_ret
    exact ⟨_, rfl, _, (unhide HO).byt, (unhide HO).far hlt, by simp; omega, unhide HC, unhide HG⟩
  by_cases k3 : k = 3
  · subst k3
    clear k0 k1 k2
    have hj0 : (0 : Int) ≤ (j : Int) := by omega
    have hj1 : (j : Int) ≤ (cap : Int) := by omega
    have hj2 : (j : Int) + 1 ≤ (m.length : Int) := by omega
    have hj3 : (j : Int) + 1 ≤ (cap : Int) := by omega
    have hr1 := ho3.take j (by omega) cap (by omega) hcm
    have hcut : Byt w3 (.slice (some ⟨q, 0 + (j + 1), none⟩) (m.length - (j + 1)) (cap - (j + 1))) (m.drop (j + 1)) := by
      obtain ⟨q', cap', e, _, hq3, _, _, hcell, _⟩ := ho3.form h0
      simp only [Value.slice.injEq, Option.some.injEq, Addr.mk.injEq, true_and, and_true] at e
      obtain ⟨rfl, rfl⟩ := e
      exact Byt.cut (off := 0) (p := j + 1) ho3.1 (by unfold maxLen; omega) (by omega) hmc hcm hq3 (fun i hi => by rw [Nat.zero_add]; exact hcell i hi)
    rw [Nat.zero_add] at hcut
    have hwr : IntKind.i64.wrap ((j : Int) + 1) = (j : Int) + 1 := by rw [IntKind.wrap_i64]; omega
    have htn : ((j : Int) + 1).toNat = j + 1 := by omega
    have hp1 : (0 : Int) ≤ (j : Int) + 1 := by omega
    have hp2 : (j : Int) ≤ (j : Int) + 1 := by omega
    have hlt3 := hC3.lt
    by_cases hcj : cap = j + 1
    · subst hcj
      have hcut0 : Byt w3 (.slice (some ⟨q, 0, none⟩) 0 0) [] := ⟨okB_nil, by simp [maxLen], .inr (.inl ⟨_, 0, rfl, by simp [maxLen], rfl⟩)⟩
      go_wp2
      go_region_law (first | (refine step_app rfl (.tmp 59) (.tmp 62) rfl w3.heap.size _ [] (by rfl) (own_none _) _ (m.take j) (by rfl) (hr1.alloc _) (by simp; omega) (by simp) ?_; intro v5 w5 ho5 hg5; have hB5 : Below w3.heap.size w3 w5 := bstepBy (((Below.refl _ _).alloc (Nat.le_refl _) _).drew) hg5 (fun r hr => by simp [Value.ownBlock] at hr; omega)) | (refine step_app rfl (.tmp 63) (.tmp 67) rfl w3.heap.size _ (m.take j) (by rfl) ho5 _ [] (by rfl) (hcut0.keep hB5) (by simp; omega) hB5.size ?_; intro v6 w6 ho6 hg6))
      have hC6 : Cur w0 w6 g code l := (hC3.keepAll hB5).keep hg6 (fun e => by have := ho5.base_le g e.symm; omega) (fun r hr => by have := ho5.base_le r hr; omega)
      have hG6 : w.grownBy w6 (some g) := grown_new (grown_below hG3' hB5) hg6 (fun r hr => by have := ho5.base_le r hr; omega)
      have HO := hide ho6.byt
      have HF := hide (ho6.far hlt3)
      have hl6 : (m.take j ++ []).length ≤ 1001 := by simp; omega
      clear ho6 hg6 hg5 ho5 hB5 hC3 hG3' hr1 hcut hcut0
      go_wp2
      go_ret
      exact ⟨_, rfl, _, unhide HO, unhide HF, hl6, hC6, hG6⟩
    · go_wp2
      go_region_law (first | (refine step_app rfl (.tmp 59) (.tmp 62) rfl w3.heap.size _ [] (by rfl) (own_none _) _ (m.take j) (by rfl) (hr1.alloc _) (by simp; omega) (by simp) ?_; intro v5 w5 ho5 hg5; have hB5 : Below w3.heap.size w3 w5 := bstepBy (((Below.refl _ _).alloc (Nat.le_refl _) _).drew) hg5 (fun r hr => by simp [Value.ownBlock] at hr; omega)) | (refine step_app rfl (.tmp 63) (.tmp 67) rfl w3.heap.size _ (m.take j) (by rfl) ho5 _ (m.drop (j + 1)) (by rfl) (hcut.keep hB5) (by simp; omega) hB5.size ?_; intro v6 w6 ho6 hg6))
      have hC6 : Cur w0 w6 g code l := (hC3.keepAll hB5).keep hg6 (fun e => by have := ho5.base_le g e.symm; omega) (fun r hr => by have := ho5.base_le r hr; omega)
      have hG6 : w.grownBy w6 (some g) := grown_new (grown_below hG3' hB5) hg6 (fun r hr => by have := ho5.base_le r hr; omega)
      have HO := hide ho6.byt
      have HF := hide (ho6.far hlt3)
      have hl6 : (m.take j ++ m.drop (j + 1)).length ≤ 1001 := by simp; omega
      clear ho6 hg6 hg5 ho5 hB5 hC3 hG3' hr1 hcut
      go_wp2
      go_ret
      exact ⟨_, rfl, _, unhide HO, unhide HF, hl6, hC6, hG6⟩
  · obtain rfl : k = 4 := by omega
    clear k0 k1 k2 k3
    obtain ⟨q', cap', e, _, hq3, _, _, hcell, hfr⟩ := ho3.form h0
    simp only [Value.slice.injEq, Option.some.injEq, Addr.mk.injEq, true_and, and_true] at e
    obtain ⟨rfl, rfl⟩ := e
    obtain ⟨z, hz⟩ : ∃ z, z = m.getD j 0 := ⟨_, rfl⟩
    have c1 : w3.cell? ⟨q, j, none⟩ = some (.int .u8 z) := by rw [hz]; exact hcell j hj
    have f1 := hfr j
    have hj' : (j : Int) < (m.length : Int) := by omega
    have hj0 : (0 : Int) ≤ (j : Int) := by omega
    have hqg : q ≠ g := by omega
    clear hcell hfr hz
    go_wp2
    go_region_with ((go_at_call 31; refine (l1Below_any w0 _ g code l 8 (hC3.keepAll ((Below.refl _ _).drew)) (by omega) (by omega)).mono ?_; rintro e w4 ⟨y, hy0, hy1, rfl, hC4, hG4⟩; have c4 : w4.cell? ⟨q, j, none⟩ = some (.int .u8 z) := hG4.cell (a := ⟨q, j, none⟩) c1 (by simp; omega); have f4 : w4.frozen? ⟨q, j, none⟩ = false := (World.frozen?_of_block (w := w3) (hG4.block q hq3 (by simp; omega))).trans f1))
    all_goals
      have hb := bounds_u8 (wf_bits (k := .u8) .xor z (IntKind.u8.wrap (2 ^ y.toNat)))
      generalize bits BinOp.xor IntKind.u8 z (IntKind.u8.wrap (2 ^ y.toNat)) = x at *
      have hG4' : w3.grownBy w4 (some g) := ⟨hG4.os, hG4.tape, hG4.output, hG4.size, hG4.block⟩
      have ho4 := ho3.past hG4' hlt
      have hst := ho4.store j x hb.1 hb.2
      have hgs := set_grown w4 q j (.int .u8 x)
      have hC5 := hC4.keep hgs (by simp; omega) (fun r hr => by simp at hr; omega)
      have hG5 : w.grownBy (w4.setCell ⟨q, j, none⟩ (.int .u8 x)) (some g) := grown_new (grown_trans hG3' hG4') hgs (fun r hr => by simp at hr; omega)
      have HO := hide hst
      have HC := hide hC5
      have HG := hide hG5
      clear hst hgs hC5 hG5 hG3' hC4 hG4 hG4' c1 c4 f1 f4 ho3 ho4 hC3
      go_wp2
      go_ret
      exact ⟨_, rfl, _, (unhide HO).byt, (unhide HO).far hlt, by simp; omega, unhide HC, unhide HG⟩
end Go.Proofs.Ytfblgdhbkakhcaa
