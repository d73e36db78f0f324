/- Own texts joined: Spoil, PutOI, NameI, IdI, OpN, KeyI, OpI. -/
import Derived.Test.YtcabolcfoijglaaJa
import Derived.Test.YtcabolcfoijglaaJb
import Derived.Test.YtcabolcfoijglaaJc
import Derived.Test.YtcabolcfoijglaaJd
import Derived.Test.YtcabolcfoijglaaJe
import Derived.Test.YtcabolcfoijglaaJf
import Derived.Test.YtcabolcfoijglaaJg
import Derived.Deep.RegionLaw
import Derived.Deep.RegionHeld3
import Derived.Test.YtcabolcfoijglaaChecked

/- What is drawn and spoilt: some readable bytes. -/
namespace Go.Proofs.Ytcabolcfoijglaa
open Go.RowKit
set_option linter.unusedVariables false

/-- An owned row of at least one byte, its block and its cells. -/
theorem Own.form {w : World} {base : Nat} {v : Value} {l : List Int} (h : Own w base v l) (h0 : l ≠ []) : ∃ g cap, v = .slice (some ⟨g, 0, none⟩) l.length cap ∧ base ≤ g ∧ g < w.heap.size ∧ l.length ≤ cap ∧ cap ≤ maxLen ∧
    (∀ i, i < l.length → w.cell? ⟨g, i, none⟩ = some (.int .u8 (l.getD i 0))) ∧ (∀ i, w.frozen? ⟨g, i, none⟩ = false) := by
  obtain ⟨hok, hlen, ⟨rfl, hz⟩ | ⟨g, cap, cur, rfl, hb, hg, hnc, hcm, hcs, htake⟩⟩ := h
  · exact absurd (List.eq_nil_of_length_eq_zero hz) h0
  · have hr : w.ownsRow base 5 1 (.slice (some ⟨g, 0, none⟩) l.length cap) l.length (vals l) := ⟨hlen, .inr ⟨g, cap, cur, rfl, hb, hg, hnc, hcm, hcs, htake⟩⟩
    refine ⟨g, cap, rfl, hb, (hr.lt g rfl).2, hnc, hcm, fun i hi => ?_, fun i => hr.frozenAt i⟩
    rw [hr.cellAt i (by omega), vals_at hi]

/-- A store of one byte into an owned row. -/
theorem Own.store {w : World} {base g cap : Nat} {l : List Int} (h : Own w base (.slice (some ⟨g, 0, none⟩) l.length cap) l) (i : Nat) (x : Int) (h0 : 0 ≤ x) (h1 : x ≤ 255) :
    Own (w.setCell ⟨g, i, none⟩ (.int .u8 x)) base (.slice (some ⟨g, 0, none⟩) l.length cap) (l.set i x) := by
  refine ⟨fun y hy => ?_, ?_⟩
  · rcases List.mem_or_eq_of_mem_set hy with h' | rfl
    · exact h.1 y h'
    · exact ⟨h0, h1⟩
  · have hs := (h.2.stored i (.int .u8 x)).1
    rw [List.length_set]
    unfold vals at hs ⊢
    rw [List.map_set]
    exact hs

/-- The head of an owned row can be read. -/
theorem Own.take {w : World} {base g cap : Nat} {l : List Int} (h : Own w base (.slice (some ⟨g, 0, none⟩) l.length cap) l) (j : Nat) (hj : j ≤ l.length) (c : Nat) (hc : j ≤ c) (hcm : c ≤ maxLen) : Byt w (.slice (some ⟨g, 0, none⟩) j c) (l.take j) := by
  have hl : (l.take j).length = j := by simp; omega
  by_cases h0 : j = 0
  · subst h0
    exact ⟨by simpa using okB_nil, by simp [maxLen], .inr (.inl ⟨_, c, rfl, hcm, by simp⟩)⟩
  · obtain ⟨g', cap', e, _, hlt, _, _, hcell, _⟩ := h.form (by intro e; subst e; simp at hj; omega)
    simp only [Value.slice.injEq, Option.some.injEq, Addr.mk.injEq, true_and, and_true] at e
    obtain ⟨rfl, rfl⟩ := e
    refine ⟨h.1.take j, by omega, .inr (.inr ⟨g, 0, c, by rw [hl], by omega, hcm, fun e => by rw [e] at hl; simp at hl; omega, hlt, fun i hi => ?_⟩)⟩
    rw [Nat.zero_add, hcell i (by omega), List.getD_eq_getElem?_getD, List.getD_eq_getElem?_getD, List.getElem?_take, if_pos (by omega)]

/-- The value does not lie in block g. -/
def Far (v : Value) (g : Nat) : Prop := ∀ a n c, v = .slice (some a) n c → a.block ≠ g
theorem Own.far {w : World} {base g : Nat} {v : Value} {l : List Int} (h : Own w base v l) (hg : g < base) : Far v g := by
  intro a n c e
  have := h.base_le a.block (by rw [e]; rfl)
  omega
theorem far_some (b off n c g : Nat) (h : b ≠ g) : Far (.slice (some ⟨b, off, none⟩) n c) g := by
  intro a n c e
  simp only [Value.slice.injEq, Option.some.injEq] at e
  rw [← e.1]; exact h
/-- What can be read can be read still, while another block is written. -/
theorem Byt.past {w w' : World} {g : Nat} {v : Value} {l : List Int} (h : Byt w v l) (hg : w.grownBy w' (some g)) (hf : Far v g) : Byt w' v l := by
  obtain ⟨hok, hm, h1 | h2 | ⟨b, off, cap, rfl, h1, h2, h3, h4, h5⟩⟩ := h
  · exact ⟨hok, hm, .inl h1⟩
  · exact ⟨hok, hm, .inr (.inl h2)⟩
  · have hb : b ≠ g := hf _ _ _ rfl
    exact ⟨hok, hm, .inr (.inr ⟨b, off, cap, rfl, h1, h2, h3, Nat.lt_of_lt_of_le h4 hg.size, fun i hi => hg.cell (a := ⟨b, off + i, none⟩) (h5 i hi) (by simp; omega)⟩)⟩

set_option maxHeartbeats 3200000 in
theorem l1spoil_any (w0 w : World) (g : Nat) (code : Value) (l : List Int) (v : Value) (m : List Int) (h : Cur w0 w g code l) (hv : Byt w v m) (hm : m.length ≤ 1000) :
    Calls Try.prog 51 #[.pointer (some ⟨g, 0, none⟩), v] w fun e w' => ∃ v', e = .returned v' ∧ ∃ l', Byt w' v' l' ∧ Far v' g ∧ l'.length ≤ 1001 ∧ Cur w0 w' g code l ∧ w.grownBy w' (some g) := by
  have hlt := h.lt
  have hs0 := h.below.size
  go_enter Try.func51, Try.ntmps51
  go_wp2_with (at_builtin; refine wpList_app rfl _ _ rfl w.heap.size _ [] rfl (own_none w) v m rfl (hv.alloc _) ?c1 ?c2 ?_)
  case c1 => first | omega | (simp; omega)
  case c2 => simp
  intro v1 w1 ho1 hg1
  have hG1 : w.grownBy w1 (some g) := grown_new (grown_below (World.grownBy.refl w (some g)) ((Below.refl _ _).alloc (Nat.le_refl _) _)) hg1 (fun q hq => by simp [Value.ownBlock] at hq; omega)
  have hC1 : Cur w0 w1 g code l := (h.keepAll ((Below.refl _ _).alloc (Nat.le_refl _) _)).keep hg1 (fun e => by simp [Value.ownBlock] at e; omega) (fun q hq => by simp [Value.ownBlock] at hq; omega)
  clear hg1
  have hs1 := hG1.size
  by_cases h0 : m = []
  · subst h0
    obtain ⟨a1, k1, rfl, _⟩ := ho1.byt.shape
    go_wp2_with fail
    refine (l1Byte_any w0 w1 g code l hC1).mono ?_
    rintro e w2 ⟨y, hy0, hy1, rfl, hC2, hG2⟩
    have ho2 := ho1.past hG2 hlt
    have hs2 := hG2.size
    go_wp2_with (at_builtin; refine wpList_app rfl _ _ rfl w.heap.size _ [] rfl (ho2.alloc _) _ [y] rfl (byt_one w2 y hy0 hy1) ?c1 ?c2 ?_)
    case c1 => simp
    case c2 => first | omega | (simp; omega)
    intro v3 w3 ho3 hg3
    have hC3 : Cur w0 w3 g code l := (hC2.keepAll ((Below.refl _ _).alloc (Nat.le_refl _) _)).keep hg3 (fun e => by have := ho2.base_le g e.symm; omega) (fun q hq => by have := ho2.base_le q hq; omega)
    have hG3 : w.grownBy w3 (some g) := grown_new (grown_below (grown_trans hG1 hG2) ((Below.refl _ _).alloc (Nat.le_refl _) _)) hg3 ho2.base_le
    have HO := hide (show Own w3 w.heap.size v3 ([] ++ [y]) from ho3)
    clear ho3 hg3 hG2 ho2 hC2
    go_wp2
    go_ret
    exact ⟨_, rfl, _, (unhide HO).byt, (unhide HO).far hlt, by simp, hC3, hG3⟩
  obtain ⟨q, cap, rfl, hq, hq2, hmc, hcm, hcell, hfr⟩ := ho1.form h0
  have hml : 0 < m.length := by cases m with
    | nil => exact absurd rfl h0
    | cons x m => simp
  have hne0 : ((m.length : Int) == 0) = false := by simp; omega
  clear hcell hfr
  go_wp2_with fail
  refine (l1Below_any w0 w1 g code l m.length hC1 (by omega) (by omega)).mono ?_
  rintro e w2 ⟨x, hx0, hx1, rfl, hC2, hG2⟩
  obtain ⟨j, rfl⟩ := Int.eq_ofNat_of_zero_le hx0
  have hj : j < m.length := by omega
  have ho2 := ho1.past hG2 hlt
  have hG2' := grown_trans hG1 hG2
  clear hG1 hG2 hC1 ho1
  go_wp2_with fail
  refine (l1Below_any w0 w2 g code l 5 hC2 (by omega) (by omega)).mono ?_
  rintro e w3 ⟨k, hk0, hk1, rfl, hC3, hG3⟩
  have ho3 := ho2.past hG3 hlt
  have hG3' := grown_trans hG2' hG3
  have hs3 := hG3'.size
  clear hG2' hG3 hC2 ho2
  have hcm' := hcm
  unfold maxLen at hcm'
  have hcz : ¬ cap = 0 := by omega
  by_cases k0 : k = 0
  · subst k0
    have hr := ho3.take j (by omega) cap (by omega) hcm
    have HR := hide hr
    clear hr
    go_wp2
    go_ret
    exact ⟨_, rfl, _, unhide HR, far_some _ _ _ _ _ (by omega), by simp; omega, hC3, hG3'⟩
  by_cases k1 : k = 1
  · subst k1
    clear k0
    go_wp2_with fail
    refine (l1Byte_any w0 w3 g code l hC3).mono ?_
    rintro e w4 ⟨y, hy0, hy1, rfl, hC4, hG4⟩
    have ho4 := ho3.past hG4 hlt
    have hs4 := hG4.size
    go_wp2_with (at_builtin; refine wpList_app rfl _ _ rfl w.heap.size _ m rfl (ho4.alloc _) _ [y] rfl (byt_one w4 y hy0 hy1) ?c1 ?c2 ?_)
    case c1 => simp; omega
    case c2 => first | omega | (simp; omega)
    intro v5 w5 ho5 hg5
    have hC5 : Cur w0 w5 g code l := (hC4.keepAll ((Below.refl _ _).alloc (Nat.le_refl _) _)).keep hg5 (fun e => by have := ho4.base_le g e.symm; omega) (fun q hq => by have := ho4.base_le q hq; omega)
    have hG5 : w.grownBy w5 (some g) := grown_new (grown_below (grown_trans hG3' hG4) ((Below.refl _ _).alloc (Nat.le_refl _) _)) hg5 ho4.base_le
    have HO := hide (show Own w5 w.heap.size v5 (m ++ [y]) from ho5)
    clear ho5 hg5 hG4 ho4 hC4 hG3'
    go_wp2
    go_ret
    exact ⟨_, rfl, _, (unhide HO).byt, (unhide HO).far hlt, by simp; omega, hC5, hG5⟩
  by_cases k2 : k = 2
  · subst k2
    clear k0 k1
    go_wp2_with fail
    refine (l1Byte_any w0 w3 g code l hC3).mono ?_
    rintro e w4 ⟨y, hy0, hy1, rfl, hC4, hG4⟩
    have ho4 := ho3.past hG4 hlt
    have hG4' := grown_trans hG3' hG4
    clear hG3' hG4
    obtain ⟨q', cap', e, _, _, _, _, hcell, hfr⟩ := ho4.form h0
    simp only [Value.slice.injEq, Option.some.injEq, Addr.mk.injEq, true_and, and_true] at e
    obtain ⟨rfl, rfl⟩ := e
    have c1 := hcell j hj
    have f1 := hfr j
    have hst := ho4.store j y hy0 hy1
    have hgs := set_grown w4 q j (.int .u8 y)
    have hC5 := hC4.keep hgs (by simp; omega) (fun r hr => by simp at hr; omega)
    have hG5 := grown_new hG4' hgs (fun r hr => by simp at hr; omega)
    have HO := hide hst
    have HC := hide hC5
    have HG := hide hG5
    clear hcell hfr hst hgs hC5 hG5 hG4' hC4
    have hj' : (j : Int) < (m.length : Int) := by omega
    go_wp2
    go_ret
    exact ⟨_, rfl, _, (unhide HO).byt, (unhide HO).far hlt, by simp; omega, unhide HC, unhide HG⟩
  by_cases k3 : k = 3
  · subst k3
    clear k0 k1 k2
    have hj0 : (0 : Int) ≤ (j : Int) := by omega
    have hj1 : (j : Int) ≤ (cap : Int) := by omega
    have hj2 : (j : Int) + 1 ≤ (m.length : Int) := by omega
    have hj3 : (j : Int) + 1 ≤ (cap : Int) := by omega
    have hr1 := ho3.take j (by omega) cap (by omega) hcm
    have hcut : Byt w3 (.slice (some ⟨q, 0 + (j + 1), none⟩) (m.length - (j + 1)) (cap - (j + 1))) (m.drop (j + 1)) := by
      obtain ⟨q', cap', e, _, hq3, _, _, hcell, _⟩ := ho3.form h0
      simp only [Value.slice.injEq, Option.some.injEq, Addr.mk.injEq, true_and, and_true] at e
      obtain ⟨rfl, rfl⟩ := e
      exact Byt.cut (off := 0) (p := j + 1) ho3.1 (by unfold maxLen; omega) (by omega) hmc hcm hq3 (fun i hi => by rw [Nat.zero_add]; exact hcell i hi)
    rw [Nat.zero_add] at hcut
    have hwr : IntKind.i64.wrap ((j : Int) + 1) = (j : Int) + 1 := by rw [IntKind.wrap_i64]; omega
    have htn : ((j : Int) + 1).toNat = j + 1 := by omega
    have hp1 : (0 : Int) ≤ (j : Int) + 1 := by omega
    have hp2 : (j : Int) ≤ (j : Int) + 1 := by omega
    have hlt3 := hC3.lt
    by_cases hcj : cap = j + 1
    · subst hcj
      have hcut0 : Byt w3 (.slice (some ⟨q, 0, none⟩) 0 0) [] := ⟨okB_nil, by simp [maxLen], .inr (.inl ⟨_, 0, rfl, by simp [maxLen], rfl⟩)⟩
      go_wp2
      go_region_law (first | (refine step_app rfl (.tmp 59) (.tmp 62) rfl w3.heap.size _ [] (by rfl) (own_none _) _ (m.take j) (by rfl) (hr1.alloc _) (by simp; omega) (by simp) ?_; intro v5 w5 ho5 hg5; have hB5 : Below w3.heap.size w3 w5 := bstepBy (((Below.refl _ _).alloc (Nat.le_refl _) _).drew) hg5 (fun r hr => by simp [Value.ownBlock] at hr; omega)) | (refine step_app rfl (.tmp 63) (.tmp 67) rfl w3.heap.size _ (m.take j) (by rfl) ho5 _ [] (by rfl) (hcut0.keep hB5) (by simp; omega) hB5.size ?_; intro v6 w6 ho6 hg6))
      have hC6 : Cur w0 w6 g code l := (hC3.keepAll hB5).keep hg6 (fun e => by have := ho5.base_le g e.symm; omega) (fun r hr => by have := ho5.base_le r hr; omega)
      have hG6 : w.grownBy w6 (some g) := grown_new (grown_below hG3' hB5) hg6 (fun r hr => by have := ho5.base_le r hr; omega)
      have HO := hide ho6.byt
      have HF := hide (ho6.far hlt3)
      have hl6 : (m.take j ++ []).length ≤ 1001 := by simp; omega
      clear ho6 hg6 hg5 ho5 hB5 hC3 hG3' hr1 hcut hcut0
      go_wp2
      go_ret
      exact ⟨_, rfl, _, unhide HO, unhide HF, hl6, hC6, hG6⟩
    · go_wp2
      go_region_law (first | (refine step_app rfl (.tmp 59) (.tmp 62) rfl w3.heap.size _ [] (by rfl) (own_none _) _ (m.take j) (by rfl) (hr1.alloc _) (by simp; omega) (by simp) ?_; intro v5 w5 ho5 hg5; have hB5 : Below w3.heap.size w3 w5 := bstepBy (((Below.refl _ _).alloc (Nat.le_refl _) _).drew) hg5 (fun r hr => by simp [Value.ownBlock] at hr; omega)) | (refine step_app rfl (.tmp 63) (.tmp 67) rfl w3.heap.size _ (m.take j) (by rfl) ho5 _ (m.drop (j + 1)) (by rfl) (hcut.keep hB5) (by simp; omega) hB5.size ?_; intro v6 w6 ho6 hg6))
      have hC6 : Cur w0 w6 g code l := (hC3.keepAll hB5).keep hg6 (fun e => by have := ho5.base_le g e.symm; omega) (fun r hr => by have := ho5.base_le r hr; omega)
      have hG6 : w.grownBy w6 (some g) := grown_new (grown_below hG3' hB5) hg6 (fun r hr => by have := ho5.base_le r hr; omega)
      have HO := hide ho6.byt
      have HF := hide (ho6.far hlt3)
      have hl6 : (m.take j ++ m.drop (j + 1)).length ≤ 1001 := by simp; omega
      clear ho6 hg6 hg5 ho5 hB5 hC3 hG3' hr1 hcut
      go_wp2
      go_ret
      exact ⟨_, rfl, _, unhide HO, unhide HF, hl6, hC6, hG6⟩
  · obtain rfl : k = 4 := by omega
    clear k0 k1 k2 k3
    obtain ⟨q', cap', e, _, hq3, _, _, hcell, hfr⟩ := ho3.form h0
    simp only [Value.slice.injEq, Option.some.injEq, Addr.mk.injEq, true_and, and_true] at e
    obtain ⟨rfl, rfl⟩ := e
    obtain ⟨z, hz⟩ : ∃ z, z = m.getD j 0 := ⟨_, rfl⟩
    have c1 : w3.cell? ⟨q, j, none⟩ = some (.int .u8 z) := by rw [hz]; exact hcell j hj
    have f1 := hfr j
    have hj' : (j : Int) < (m.length : Int) := by omega
    have hj0 : (0 : Int) ≤ (j : Int) := by omega
    have hqg : q ≠ g := by omega
    clear hcell hfr hz
    go_wp2
    go_region_with ((go_at_call 65; refine (l1Below_any w0 _ g code l 8 (hC3.keepAll ((Below.refl _ _).drew)) (by omega) (by omega)).mono ?_; rintro e w4 ⟨y, hy0, hy1, rfl, hC4, hG4⟩; have c4 : w4.cell? ⟨q, j, none⟩ = some (.int .u8 z) := hG4.cell (a := ⟨q, j, none⟩) c1 (by simp; omega); have f4 : w4.frozen? ⟨q, j, none⟩ = false := (World.frozen?_of_block (w := w3) (hG4.block q hq3 (by simp; omega))).trans f1))
    all_goals
      have hb := bounds_u8 (wf_bits (k := .u8) .xor z (IntKind.u8.wrap (2 ^ y.toNat)))
      generalize bits BinOp.xor IntKind.u8 z (IntKind.u8.wrap (2 ^ y.toNat)) = x at *
      have hG4' : w3.grownBy w4 (some g) := ⟨hG4.os, hG4.tape, hG4.output, hG4.size, hG4.block⟩
      have ho4 := ho3.past hG4' hlt
      have hst := ho4.store j x hb.1 hb.2
      have hgs := set_grown w4 q j (.int .u8 x)
      have hC5 := hC4.keep hgs (by simp; omega) (fun r hr => by simp at hr; omega)
      have hG5 : w.grownBy (w4.setCell ⟨q, j, none⟩ (.int .u8 x)) (some g) := grown_new (grown_trans hG3' hG4') hgs (fun r hr => by simp at hr; omega)
      have HO := hide hst
      have HC := hide hC5
      have HG := hide hG5
      clear hst hgs hC5 hG5 hG3' hC4 hG4 hG4' c1 c4 f1 f4 ho3 ho4 hC3
      go_wp2
      go_ret
      exact ⟨_, rfl, _, (unhide HO).byt, (unhide HO).far hlt, by simp; omega, unhide HC, unhide HG⟩
end Go.Proofs.Ytcabolcfoijglaa

/- impl.putNums, impl.putIds, impl.putKey and impl.putValue, by their contracts. -/
namespace Go.Proofs.Ytcabolcfoijglaa
open Go.RowKit
set_option linter.unusedVariables false
set_option maxRecDepth 100000

theorem own_nil' (w : World) (base : Nat) : Own w base (.slice none 0 0) [] := ⟨okB_nil, rfl, .inl ⟨rfl, rfl⟩⟩
theorem putI_own (w : World) (v : Value) (l : List Int) (n : Int) (h : Byt w v l) (hl : l.length ≤ 60000000) :
    Calls Try.prog 67 #[v, .int .i64 n] w fun e w' => ∃ a c, e = .returned (.slice a (putAll l n).length c) ∧ Own w' w.heap.size (.slice a (putAll l n).length c) (putAll l n) ∧ Below w.heap.size w w' := by
  refine (putI_any w v l n h (by omega)).mono ?_
  rintro e w' ⟨v', rfl, ho, hB⟩
  obtain ⟨a, c, rfl, _, _⟩ := ho.byt.shape
  exact ⟨a, c, rfl, ho, hB⟩

set_option maxHeartbeats 3200000 in
theorem putNums_any (w : World) (base : Nat) (v u : Value) (l k : List Int) (h : Own w base v l) (hb : base ≤ w.heap.size) (hu : Ints w u k) (hl : l.length ≤ 20000000) (hk : k.length ≤ 2097152) :
    Calls Try.prog 29 #[v, u] w fun e w' => ∃ a c, e = .returned (.slice a (putNs l k).length c) ∧ Own w' base (.slice a (putNs l k).length c) (putNs l k) ∧ Below w.heap.size w w' := by
  have HU := hide hu
  obtain ⟨a1, c1, rfl, _, _⟩ := h.byt.shape
  obtain ⟨a', c', rfl, _, _⟩ := hu.shape
  clear hu
  go_enter Try.func29, Try.ntmps29
  go_wp2_with fail
  go_loopw [0, 9] (fun b i wr => ∃ (j : Nat) (a2 : Option Addr) (c2 : Nat), j ≤ k.length ∧ i = .int .i64 j ∧ b = .slice a2 (putNs l (k.take j)).length c2 ∧ Own wr base (.slice a2 (putNs l (k.take j)).length c2) (putNs l (k.take j)) ∧ Below w.heap.size w wr) (fun _ i _ => k.length - (intOf i).toNat)
  case atStart => exact ⟨0, a1, c1, Nat.zero_le _, rfl, rfl, h, Below.refl _ _⟩
  case round =>
    obtain ⟨j, a2, c2, hj, rfl, rfl, ho, hB⟩ := hrel
    clear h
    by_cases hlt : j < k.length
    · have HS := hide (putNs_step l k j hlt)
      have hq := putNs_len l (k.take j)
      rw [List.length_take, Nat.min_eq_left hj] at hq
      generalize hpt : putNs l (k.take j) = lj at *
      clear hpt
      have hlt' : (j : Int) < (k.length : Int) := by omega
      obtain ⟨x, hx⟩ : ∃ x, x = k.getD j 0 := ⟨_, rfl⟩
      rw [← hx] at HS
      obtain ⟨hok, hm, ⟨_, e⟩ | ⟨_, _, _, _, e⟩ | ⟨b, off, cap, e, h1, h2, h3, h4, h5⟩⟩ := (unhide HU).keep hB
      · rw [e] at hlt; simp at hlt
      · rw [e] at hlt; simp at hlt
      have e1 : a' = some ⟨b, off, none⟩ := by injection e
      have hcx := h5 j hlt
      rw [← hx] at hcx
      clear hx h5 e HU
      subst e1
      go_wp2_with fail
      refine (putI_own wr _ lj x ho.byt (by omega)).mono ?_
      rintro e w2 ⟨a3, c3, rfl, ho3, hB3⟩
      rw [← unhide HS] at ho3 ⊢
      go_wp2_with fail
      go_roundw
      case rel => exact ⟨j + 1, a3, c3, by omega, by go_num, rfl, ho3.mono (by have := hB.size; omega), bstep hB hB3⟩
      case measure => simp [intOf]; omega
    · obtain rfl : j = k.length := by omega
      have HE := hide (show putNs l (k.take k.length) = putNs l k by rw [List.take_of_length_le (Nat.le_refl _)])
      rw [unhide HE] at ho ⊢
      clear HE
      go_wp2_with fail
      go_ret
      exact ⟨a2, c2, rfl, ho, hB⟩

/-- Ids, one behind the other. -/
def putIdL (l : List Int) : List (Int × Int) → List Int
  | [] => l
  | x :: t => putIdL (putId l x.1 x.2) t
theorem putIdL_step (l : List Int) (t : List (Int × Int)) (j : Nat) (h : j < t.length) : putIdL l (t.take (j + 1)) = putId (putIdL l (t.take j)) (t[j]).1 (t[j]).2 := by
  induction t generalizing l j with
  | nil => simp at h
  | cons x t ih =>
    cases j with
    | zero => simp [putIdL]
    | succ j =>
      rw [List.take_succ_cons, List.take_succ_cons, putIdL, putIdL, ih _ j (by simpa using h)]
      simp
theorem putIdL_len (l : List Int) (t : List (Int × Int)) : (putIdL l t).length ≤ l.length + 10 * t.length := by
  induction t generalizing l with
  | nil => simp [putIdL]
  | cons x t ih =>
    rw [putIdL, List.length_cons]
    have := ih (putId l x.1 x.2)
    have := putId_len l x.1 x.2
    omega
theorem putId_two (l : List Int) (n r : Int) : putNs l [n, r] = putId l n r := rfl
theorem ints_two (w : World) (n r : Int) (h : okZ [n, r]) : Ints (w.alloc (.cells #[.int .i64 n, .int .i64 r] 3)) (.slice (some ⟨w.heap.size, 0, none⟩) 2 2) [n, r] := by
  refine ⟨h, by simp [maxLen], .inr (.inr ⟨w.heap.size, 0, 2, rfl, by simp, by simp [maxLen], by simp, by simp, fun i hi => ?_⟩)⟩
  have : i = 0 ∨ i = 1 := by simp at hi; omega
  rcases this with rfl | rfl <;> simp

set_option maxHeartbeats 3200000 in
theorem putIds_any (w : World) (base : Nat) (v : Value) (l : List Int) (t : List (Int × Int)) (b off cap : Nat) (h : Own w base v l) (hb : base ≤ w.heap.size) (hl : l.length ≤ 10000000) (hk : t.length ≤ 1000)
    (hw : b < w.heap.size) (hz : ∀ x ∈ t, okZ [x.1, x.2]) (h0 : ∀ j (hj : j < t.length), w.cell? ⟨b, off + j * 2, none⟩ = some (.int .i64 (t[j]).1)) (h1 : ∀ j (hj : j < t.length), w.cell? ⟨b, off + j * 2 + 1, none⟩ = some (.int .i64 (t[j]).2)) :
    Calls Try.prog 28 #[v, .slice (some ⟨b, off, none⟩) t.length cap] w fun e w' => ∃ a c, e = .returned (.slice a (putIdL l t).length c) ∧ Own w' base (.slice a (putIdL l t).length c) (putIdL l t) ∧ Below w.heap.size w w' := by
  obtain ⟨a1, c1, rfl, _, _⟩ := h.byt.shape
  go_enter Try.func28, Try.ntmps28
  go_wp2_with fail
  go_loopw [0, 9] (fun b i wr => ∃ (j : Nat) (a2 : Option Addr) (c2 : Nat), j ≤ t.length ∧ i = .int .i64 j ∧ b = .slice a2 (putIdL l (t.take j)).length c2 ∧ Own wr base (.slice a2 (putIdL l (t.take j)).length c2) (putIdL l (t.take j)) ∧ Below w.heap.size w wr) (fun _ i _ => t.length - (intOf i).toNat)
  case atStart => exact ⟨0, a1, c1, Nat.zero_le _, rfl, rfl, h, Below.refl _ _⟩
  case round =>
    obtain ⟨j, a2, c2, hj, rfl, rfl, ho, hB⟩ := hrel
    clear h
    by_cases hlt : j < t.length
    · have HS := hide (putIdL_step l t j hlt)
      have hq := putIdL_len l (t.take j)
      rw [List.length_take, Nat.min_eq_left hj] at hq
      generalize hpt : putIdL l (t.take j) = lj at *
      clear hpt
      have hlt' : (j : Int) < (t.length : Int) := by omega
      have hzj := hz _ (List.getElem_mem hlt)
      have x0 : wr.cell? ⟨b, off + j * 2, none⟩ = some (.int .i64 (t[j]).1) := (hB.cell (p := ⟨b, off + j * 2, none⟩) hw).trans (h0 j hlt)
      have x1 : wr.cell? ⟨b, off + j * 2 + 1, none⟩ = some (.int .i64 (t[j]).2) := (hB.cell (p := ⟨b, off + j * 2 + 1, none⟩) hw).trans (h1 j hlt)
      generalize (t[j]).1 = n at *
      generalize (t[j]).2 = r at *
      clear h0 h1 hz
      go_wp2_with fail
      have hi : Ints ((wr.alloc (.cells #[.int .i64 n, .int .i64 r] 24)).alloc (.cells #[.int .i64 n, .int .i64 r] 3)) (.slice (some ⟨wr.heap.size + 1, 0, none⟩) 2 2) [n, r] := by
        have h := ints_two (wr.alloc (.cells #[.int .i64 n, .int .i64 r] 24)) n r hzj
        rw [show (wr.alloc (.cells #[.int .i64 n, .int .i64 r] 24)).heap.size = wr.heap.size + 1 by simp] at h
        exact h
      have hB2 := ((Below.refl wr.heap.size wr).alloc (Nat.le_refl _) (.cells #[.int .i64 n, .int .i64 r] 24)).alloc (by simp) (.cells #[.int .i64 n, .int .i64 r] 3)
      refine (putNums_any _ base _ _ lj [n, r] (ho.keep hB2) (by have := hB.size; have := hB2.size; omega) hi (by omega) (by simp)).mono ?_
      rintro e w2 ⟨a3, c3, rfl, ho3, hB3⟩
      have hB4 := bstep hB2 hB3
      clear hB2 hB3 hi
      rw [putId_two, ← unhide HS] at ho3 ⊢
      go_wp2_with fail
      go_roundw
      case rel => exact ⟨j + 1, a3, c3, by omega, by go_num, rfl, ho3, bstep hB hB4⟩
      case measure => simp [intOf]; omega
    · obtain rfl : j = t.length := by omega
      have HE := hide (show putIdL l (t.take t.length) = putIdL l t by rw [List.take_of_length_le (Nat.le_refl _)])
      rw [unhide HE] at ho ⊢
      clear HE
      go_wp2_with fail
      go_ret
      exact ⟨a2, c2, rfl, ho, hB⟩

theorem ints_one (w : World) (n : Int) (h : okZ [n]) : Ints (w.alloc (.cells #[.int .i64 n] 3)) (.slice (some ⟨w.heap.size, 0, none⟩) 1 1) [n] := by
  refine ⟨h, by simp [maxLen], .inr (.inr ⟨w.heap.size, 0, 1, rfl, by simp, by simp [maxLen], by simp, by simp, fun i hi => ?_⟩)⟩
  have : i = 0 := by simpa using hi
  subst this
  simp
theorem okZ_in {n : Int} (h : inR n) : okZ [n] := okZ.one (by have := h.1; omega) (by have := h.2; omega)
theorem okZ_in2 {n r : Int} (h : inR n) (k : inR r) : okZ [n, r] := (okZ_in h).app (okZ_in k)

/-- One number more. -/
theorem putNum1 (w : World) (base : Nat) (v : Value) (l : List Int) (n : Int) (h : Own w base v l) (hb : base ≤ w.heap.size) (hn : inR n) (hl : l.length ≤ 20000000) :
    Calls Try.prog 29 #[v, .slice (some ⟨w.heap.size, 0, none⟩) 1 1] (w.alloc (.cells #[.int .i64 n] 3)) fun e w' => ∃ a c, e = .returned (.slice a (putAll l n).length c) ∧ Own w' base (.slice a (putAll l n).length c) (putAll l n) ∧ Below w.heap.size w w' := by
  have hB2 := (Below.refl w.heap.size w).alloc (Nat.le_refl _) (.cells #[.int .i64 n] 3)
  refine (putNums_any _ base _ _ l [n] (h.keep hB2) (by have := hB2.size; omega) (ints_one w n (okZ_in hn)) hl (by simp)).mono ?_
  rintro e w' ⟨a, c, rfl, ho, hB⟩
  exact ⟨a, c, rfl, ho, bstep hB2 hB⟩

set_option maxHeartbeats 3200000 in
theorem putKey_any (w : World) (base : Nat) (v u : Value) (l k : List Int) (h : Own w base v l) (hb : base ≤ w.heap.size) (hu : Ints w u k) (hl : l.length ≤ 10000000) (hk : k.length ≤ 2097152) :
    Calls Try.prog 30 #[v, u] w fun e w' => ∃ a c, e = .returned (.slice a (putKey l k).length c) ∧ Own w' base (.slice a (putKey l k).length c) (putKey l k) ∧ Below w.heap.size w w' := by
  have hp := putAll_len l (k.length : Int)
  have H1 := hide (putNum1 w base v l (k.length : Int) h hb ⟨by omega, by omega⟩ (by omega))
  have HU := hide hu
  obtain ⟨a1, c1, rfl, _, _⟩ := h.byt.shape
  obtain ⟨a', c', rfl, _, _⟩ := hu.shape
  clear h hu
  unfold putKey
  generalize putAll l (k.length : Int) = lp at *
  go_enter Try.func30, Try.ntmps30
  go_wp2_with fail
  refine (unhide H1).mono ?_
  clear H1
  rintro e w1 ⟨a2, c2, rfl, ho, hB⟩
  go_wp2_with fail
  refine (putNums_any w1 base _ _ lp k ho (by have := hB.size; omega) ((unhide HU).keep hB) (by omega) hk).mono ?_
  rintro e w2 ⟨a3, c3, rfl, ho3, hB3⟩
  have hB4 := bstep hB hB3
  clear ho hB hB3
  go_wp2_with fail
  go_ret
  exact ⟨a3, c3, rfl, ho3, hB4⟩

theorem putTI_own (w : World) (v u : Value) (l t : List Int) (h : Byt w v l) (hu : Byt w u t) (hl : l.length ≤ 60000000) :
    Calls Try.prog 31 #[v, u] w fun e w' => ∃ a c, e = .returned (.slice a (putT l t).length c) ∧ Own w' w.heap.size (.slice a (putT l t).length c) (putT l t) ∧ Below w.heap.size w w' := by
  refine (putTI_any w v u l t h hu hl).mono ?_
  rintro e w' ⟨v', rfl, ho, hB⟩
  obtain ⟨a, c, rfl, _, _⟩ := ho.byt.shape
  exact ⟨a, c, rfl, ho, hB⟩
theorem putTS_own (w : World) (v u : Value) (l t : List Int) (h : Byt w v l) (hu : Byt w u t) (hl : l.length ≤ 60000000) :
    Calls Try.prog 81 #[v, u] w fun e w' => ∃ a c, e = .returned (.slice a (putT l t).length c) ∧ Own w' w.heap.size (.slice a (putT l t).length c) (putT l t) ∧ Below w.heap.size w w' := by
  refine (putTS_any w v u l t h hu hl).mono ?_
  rintro e w' ⟨v', rfl, ho, hB⟩
  obtain ⟨a, c, rfl, _, _⟩ := ho.byt.shape
  exact ⟨a, c, rfl, ho, hB⟩

def putVal (l t : List Int) (gone : Bool) : List Int := if gone then putAll l 1 else putT (putAll l 0) t
set_option maxHeartbeats 3200000 in
theorem putVal_any (w : World) (base : Nat) (v u : Value) (l t : List Int) (gone : Bool) (h : Own w base v l) (hb : base ≤ w.heap.size) (hu : Byt w u t) (hl : l.length ≤ 10000000) :
    Calls Try.prog 32 #[v, u, .bool gone] w fun e w' => ∃ a c, e = .returned (.slice a (putVal l t gone).length c) ∧ Own w' base (.slice a (putVal l t gone).length c) (putVal l t gone) ∧ Below w.heap.size w w' := by
  have H1 := hide (fun n hn => putNum1 w base v l n h hb hn (by omega))
  have HU := hide hu
  obtain ⟨a1, c1, rfl, _, _⟩ := h.byt.shape
  obtain ⟨a', c', rfl, _, _⟩ := hu.shape
  clear h hu
  cases gone
  · have hp := putAll_len l 0
    unfold putVal
    rw [if_neg (by decide)]
    have H2 := hide (unhide H1 0 ⟨by decide, by decide⟩)
    clear H1
    generalize putAll l 0 = lp at *
    go_enter Try.func32, Try.ntmps32
    go_wp2_with fail
    refine (unhide H2).mono ?_
    clear H2
    rintro e w1 ⟨a2, c2, rfl, ho, hB⟩
    go_wp2_with fail
    refine (putTI_own w1 _ _ lp t ho.byt ((unhide HU).keep hB) (by omega)).mono ?_
    rintro e w2 ⟨a3, c3, rfl, ho3, hB3⟩
    have hB4 := bstep hB hB3
    have ho4 := ho3.mono (base' := base) (by have := hB.size; omega)
    clear ho hB hB3 ho3
    go_wp2_with fail
    go_ret
    exact ⟨a3, c3, rfl, ho4, hB4⟩
  · unfold putVal
    rw [if_pos rfl]
    have H2 := hide (unhide H1 1 ⟨by decide, by decide⟩)
    clear H1
    generalize putAll l 1 = lp at *
    go_enter Try.func32, Try.ntmps32
    go_wp2_with fail
    refine (unhide H2).mono ?_
    clear H2
    rintro e w1 ⟨a2, c2, rfl, ho, hB⟩
    go_wp2_with fail
    go_ret
    exact ⟨a2, c2, rfl, ho, hB⟩
end Go.Proofs.Ytcabolcfoijglaa

/- impl.isSmall, impl.isDigit, impl.NameOk and impl.textOk answer what the plain tests say. -/
namespace Go.Proofs.Ytcabolcfoijglaa
open Go.RowKit
set_option linter.unusedVariables false

def smallB (x : Int) : Bool := decide (97 ≤ x ∧ x ≤ 122)
def digB (x : Int) : Bool := decide (48 ≤ x ∧ x ≤ 57)
theorem smallB_yes {x : Int} (h : 97 ≤ x ∧ x ≤ 122) : smallB x = true := by unfold smallB; simpa using h
theorem smallB_no {x : Int} (h : ¬ (97 ≤ x ∧ x ≤ 122)) : smallB x = false := by unfold smallB; simpa using h
theorem digB_yes {x : Int} (h : 48 ≤ x ∧ x ≤ 57) : digB x = true := by unfold digB; simpa using h
theorem digB_no {x : Int} (h : ¬ (48 ≤ x ∧ x ≤ 57)) : digB x = false := by unfold digB; simpa using h

theorem small_any (x : Int) (w : World) : Calls Try.prog 72 #[.int .u8 x] w fun e w' => e = .returned (.bool (smallB x)) ∧ w' = w := by
  by_cases h1 : 97 ≤ x
  · by_cases h2 : x ≤ 122
    · have HD := hide (smallB_yes ⟨h1, h2⟩)
      go_enter Try.func72, Try.ntmps72
      go_wp2
      go_ret
      exact ⟨by rw [unhide HD]; rfl, rfl⟩
    · have HD := hide (smallB_no (x := x) (by omega))
      go_enter Try.func72, Try.ntmps72
      go_wp2
      go_ret
      exact ⟨by rw [unhide HD]; rfl, rfl⟩
  · have HD := hide (smallB_no (x := x) (by omega))
    have d1 : decide (97 ≤ x) = false := by simpa using h1
    go_enter Try.func72, Try.ntmps72
    go_wp2
    go_ret
    exact ⟨by rw [unhide HD]; rfl, rfl⟩
theorem dig_any (x : Int) (w : World) : Calls Try.prog 73 #[.int .u8 x] w fun e w' => e = .returned (.bool (digB x)) ∧ w' = w := by
  by_cases h1 : 48 ≤ x
  · by_cases h2 : x ≤ 57
    · have HD := hide (digB_yes ⟨h1, h2⟩)
      go_enter Try.func73, Try.ntmps73
      go_wp2
      go_ret
      exact ⟨by rw [unhide HD]; rfl, rfl⟩
    · have HD := hide (digB_no (x := x) (by omega))
      go_enter Try.func73, Try.ntmps73
      go_wp2
      go_ret
      exact ⟨by rw [unhide HD]; rfl, rfl⟩
  · have HD := hide (digB_no (x := x) (by omega))
    have d1 : decide (48 ≤ x) = false := by simpa using h1
    go_enter Try.func73, Try.ntmps73
    go_wp2
    go_ret
    exact ⟨by rw [unhide HD]; rfl, rfl⟩

def standB (x : Int) : Bool := decide (32 ≤ x ∧ x ≤ 126)
theorem standB_yes {x : Int} (h : 32 ≤ x ∧ x ≤ 126) : standB x = true := by unfold standB; simpa using h
theorem standB_no {x : Int} (h : ¬ (32 ≤ x ∧ x ≤ 126)) : standB x = false := by unfold standB; simpa using h
theorem stand_any (x : Int) (w : World) : Calls Try.prog 71 #[.int .u8 x] w fun e w' => e = .returned (.bool (standB x)) ∧ w' = w := by
  by_cases h1 : 32 ≤ x
  · by_cases h2 : x ≤ 126
    · have HD := hide (standB_yes ⟨h1, h2⟩)
      go_enter Try.func71, Try.ntmps71
      go_wp2
      go_ret
      exact ⟨by rw [unhide HD]; rfl, rfl⟩
    · have HD := hide (standB_no (x := x) (by omega))
      go_enter Try.func71, Try.ntmps71
      go_wp2
      go_ret
      exact ⟨by rw [unhide HD]; rfl, rfl⟩
  · have HD := hide (standB_no (x := x) (by omega))
    have d1 : decide (32 ≤ x) = false := by simpa using h1
    go_enter Try.func71, Try.ntmps71
    go_wp2
    go_ret
    exact ⟨by rw [unhide HD]; rfl, rfl⟩

theorem nameI_short (w : World) (a : Option Addr) (n cap : Nat) (h : n < 1 ∨ 8 < n) :
    Calls Try.prog 42 #[.slice a n cap] w fun e w' => e = .returned (.bool false) ∧ w' = w := by
  by_cases h1 : n < 1
  · have h1' : (n : Int) < 1 := by omega
    go_enter Try.func42, Try.ntmps42
    go_wp2_with fail
    go_ret
    exact ⟨rfl, rfl⟩
  · have h1' : decide ((n : Int) < 1) = false := by simp; omega
    have h2 : (8 : Int) < (n : Int) := by omega
    go_enter Try.func42, Try.ntmps42
    go_wp2_with fail
    go_ret
    exact ⟨rfl, rfl⟩

open Classical in
set_option maxHeartbeats 1600000 in
theorem nameI_row (w : World) (b off cap : Nat) (l : List Int) (hok : okB l) (h1 : 1 ≤ l.length) (h8 : l.length ≤ 8)
    (hc : ∀ i, i < l.length → w.cell? ⟨b, off + i, none⟩ = some (.int .u8 (l.getD i 0))) :
    Calls Try.prog 42 #[.slice (some ⟨b, off, none⟩) l.length cap] w fun e w' => e = .returned (.bool (decide (NameOk l))) ∧ w' = w := by
  have d1 : decide ((l.length : Int) < 1) = false := by simp; omega
  have d2 : decide ((8 : Int) < (l.length : Int)) = false := by simp; omega
  have hl0 : (0 : Int) < (l.length : Int) := by omega
  obtain ⟨y, hy⟩ : ∃ y, y = l.getD 0 0 := ⟨_, rfl⟩
  have hcy : w.cell? ⟨b, off, none⟩ = some (.int .u8 y) := by rw [hy]; exact hc 0 (by omega)
  have HY := hide hy
  clear hy
  by_cases hs : 97 ≤ y ∧ y ≤ 122
  · have sy := smallB_yes hs
    go_enter Try.func42, Try.ntmps42
    go_wp2_with (go_at_call 72; refine (small_any y w).mono ?_; rintro e w' ⟨rfl, rfl⟩)
    go_loop [22] (fun i => ∃ k : Nat, k ≤ l.length ∧ i = .int .i64 k ∧ allTo nameCh l k) (fun i => l.length - (intOf i).toNat)
    case atStart => exact ⟨0, Nat.zero_le _, rfl, fun i hi => by omega⟩
    case round =>
      obtain ⟨k, hk, rfl, ha⟩ := hrel
      have HA := hide ha
      clear ha
      by_cases hlt : k < l.length
      · obtain ⟨x, hx⟩ : ∃ x, x = l.getD k 0 := ⟨_, rfl⟩
        have hcx : w'.cell? ⟨b, off + k, none⟩ = some (.int .u8 x) := by rw [hx]; exact hc _ hlt
        have HX := hide hx
        have hlt' : (k : Int) < (l.length : Int) := by omega
        clear hc hcy sy hx
        by_cases hn : 97 ≤ x ∧ x ≤ 122
        · have HN := hide (show nameCh k x from .inl hn)
          have sx := smallB_yes hn
          clear hn
          go_wp2_with (go_at_call 72; refine (small_any x _).mono ?_; rintro e w' ⟨rfl, rfl⟩)
          go_round
          case rel => exact ⟨k + 1, by omega, by go_num, allTo_step (unhide HA) (by rw [← unhide HX]; exact unhide HN)⟩
          case measure => simp [intOf]; omega
        · have sx := smallB_no hn
          by_cases hd : 48 ≤ x ∧ x ≤ 57
          · have hk0 : 0 < k := by
              by_cases e : k = 0
              · subst e; exact absurd hs (by rw [unhide HY, ← unhide HX]; exact hn)
              · omega
            have HN := hide (show nameCh k x from .inr ⟨hk0, hd⟩)
            have sd := digB_yes hd
            clear hn hd
            go_wp2_with (first | (go_at_call 72; refine (small_any x _).mono ?_; rintro e w' ⟨rfl, rfl⟩) | (go_at_call 73; refine (dig_any x _).mono ?_; rintro e w' ⟨rfl, rfl⟩))
            go_round
            case rel => exact ⟨k + 1, by omega, by go_num, allTo_step (unhide HA) (by rw [← unhide HX]; exact unhide HN)⟩
            case measure => simp [intOf]; omega
          · have sd := digB_no hd
            have HF := hide (show decide (NameOk l) = false by
              simp only [decide_eq_false_iff_not]
              rintro ⟨_, _, h⟩
              have := h k hlt
              rw [← unhide HX] at this
              rcases this with h | ⟨_, h⟩
              · exact hn h
              · exact hd h)
            clear hn hd
            go_wp2_with (first | (go_at_call 72; refine (small_any x _).mono ?_; rintro e w' ⟨rfl, rfl⟩) | (go_at_call 73; refine (dig_any x _).mono ?_; rintro e w' ⟨rfl, rfl⟩))
            go_ret
            exact ⟨by rw [unhide HF]; rfl, rfl⟩
      · have e : k = l.length := by omega
        subst e
        have HF := hide (show decide (NameOk l) = true by simp only [decide_eq_true_eq]; exact ⟨h1, h8, unhide HA⟩)
        clear hc
        go_wp2_with fail
        go_ret
        exact ⟨by rw [unhide HF]; rfl, rfl⟩
  · have sy := smallB_no hs
    have HF := hide (show decide (NameOk l) = false by
      simp only [decide_eq_false_iff_not]
      rintro ⟨_, _, h⟩
      have := h 0 (by omega)
      rw [← unhide HY] at this
      rcases this with h | ⟨h, _⟩
      · exact hs h
      · omega)
    clear hc hs
    go_enter Try.func42, Try.ntmps42
    go_wp2_with (go_at_call 72; refine (small_any y w).mono ?_; rintro e w' ⟨rfl, rfl⟩)
    go_ret
    exact ⟨by rw [unhide HF]; rfl, rfl⟩

open Classical in
theorem nameI_any (w : World) (v : Value) (l : List Int) (h : Byt w v l) :
    Calls Try.prog 42 #[v] w fun e w' => e = .returned (.bool (decide (NameOk l))) ∧ w' = w := by
  by_cases hl : l.length < 1 ∨ 8 < l.length
  · obtain ⟨a, cap, rfl, _⟩ := h.shape
    have hd : decide (NameOk l) = false := by simp only [decide_eq_false_iff_not]; rintro ⟨_, _, _⟩; omega
    rw [hd]
    exact nameI_short w a _ cap hl
  · obtain ⟨hok, hm, ⟨rfl, rfl⟩ | ⟨x, cap, rfl, hc, rfl⟩ | ⟨b, off, cap, rfl, _, _, _, _, h5⟩⟩ := h
    · simp at hl
    · simp at hl
    · exact nameI_row w b off cap l hok (by omega) (by omega) h5

theorem nameI_yes (w : World) (v : Value) (l : List Int) (h : Byt w v l) (hn : NameOk l) : Calls Try.prog 42 #[v] w fun e w' => e = .returned (.bool true) ∧ w' = w := by
  refine (nameI_any w v l h).mono ?_
  rintro e w' ⟨rfl, h⟩
  exact ⟨by simp [hn], h⟩
theorem nameI_no (w : World) (v : Value) (l : List Int) (h : Byt w v l) (hn : ¬ NameOk l) : Calls Try.prog 42 #[v] w fun e w' => e = .returned (.bool false) ∧ w' = w := by
  refine (nameI_any w v l h).mono ?_
  rintro e w' ⟨rfl, h⟩
  exact ⟨by simp [hn], h⟩
open Classical in
set_option maxHeartbeats 1600000 in
theorem textI_any (w : World) (v : Value) (l : List Int) (h : Byt w v l) :
    Calls Try.prog 41 #[v] w fun e w' => e = .returned (.bool (decide (TextOk l))) ∧ w' = w := by
  by_cases hl : 30 < l.length
  · obtain ⟨a, cap, rfl, _⟩ := h.shape
    have HD := hide (show decide (TextOk l) = false by simp only [decide_eq_false_iff_not]; rintro ⟨_, _⟩; omega)
    have d2 : (30 : Int) < (l.length : Int) := by omega
    go_enter Try.func41, Try.ntmps41
    go_wp2
    go_ret
    exact ⟨by rw [unhide HD]; rfl, rfl⟩
  have d2 : ¬ (30 : Int) < (l.length : Int) := by omega
  by_cases h0 : l = []
  · obtain ⟨a, cap, rfl, _⟩ := h.shape
    subst h0
    have HD := hide (show decide (TextOk []) = true by simp only [decide_eq_true_eq]; exact ⟨by simp, fun i hi => by simp at hi⟩)
    go_enter Try.func41, Try.ntmps41
    go_wp2
    refine wp_loop_rounds 1 ?_
    rw [rounds_succ]
    go_wp2
    go_ret
    exact ⟨by rw [unhide HD]; rfl, rfl⟩
  obtain ⟨hok, hm, ⟨_, e⟩ | ⟨_, _, _, _, e⟩ | ⟨b, off, cap, rfl, _, _, _, _, hc⟩⟩ := h
  · exact absurd e h0
  · exact absurd e h0
  go_enter Try.func41, Try.ntmps41
  go_wp2
  go_loop [10] (fun i => ∃ k : Nat, k ≤ l.length ∧ i = .int .i64 k ∧ allTo textCh l k) (fun i => l.length - (intOf i).toNat)
  case atStart => exact ⟨0, Nat.zero_le _, rfl, fun i hi => by omega⟩
  case round =>
    obtain ⟨k, hk, rfl, ha⟩ := hrel
    have HA := hide ha
    clear ha
    by_cases hlt : k < l.length
    · obtain ⟨x, hx⟩ : ∃ x, x = l.getD k 0 := ⟨_, rfl⟩
      have hcx : w.cell? ⟨b, off + k, none⟩ = some (.int .u8 x) := by rw [hx]; exact hc _ hlt
      have HX := hide hx
      have hlt' : (k : Int) < (l.length : Int) := by omega
      clear hc hx
      by_cases hn : textCh k x
      · have HN := hide hn
        have sx := standB_yes (x := x) (by unfold textCh at hn; omega)
        clear hn
        go_wp2_with (go_at_call 71; refine (stand_any x _).mono ?_; rintro e w' ⟨rfl, rfl⟩)
        go_round
        case rel => exact ⟨k + 1, by omega, by go_num, allTo_step (unhide HA) (by rw [← unhide HX]; exact unhide HN)⟩
        case measure => simp [intOf]; omega
      · have HF := hide (show decide (TextOk l) = false by
          simp only [decide_eq_false_iff_not]
          rintro ⟨_, h⟩
          exact hn (by rw [unhide HX]; exact h k hlt))
        have sx := standB_no (x := x) (by unfold textCh at hn; omega)
        clear hn
        go_wp2_with (go_at_call 71; refine (stand_any x _).mono ?_; rintro e w' ⟨rfl, rfl⟩)
        go_ret
        exact ⟨by rw [unhide HF]; rfl, rfl⟩
    · have e : k = l.length := by omega
      subst e
      have HF := hide (show decide (TextOk l) = true by simp only [decide_eq_true_eq]; exact ⟨by omega, unhide HA⟩)
      clear hc
      go_wp2
      go_ret
      exact ⟨by rw [unhide HF]; rfl, rfl⟩

theorem textI_yes (w : World) (v : Value) (l : List Int) (h : Byt w v l) (hn : TextOk l) : Calls Try.prog 41 #[v] w fun e w' => e = .returned (.bool true) ∧ w' = w := by
  refine (textI_any w v l h).mono ?_
  rintro e w' ⟨rfl, h⟩
  exact ⟨by simp [hn], h⟩
theorem textI_no (w : World) (v : Value) (l : List Int) (h : Byt w v l) (hn : ¬ TextOk l) : Calls Try.prog 41 #[v] w fun e w' => e = .returned (.bool false) ∧ w' = w := by
  refine (textI_any w v l h).mono ?_
  rintro e w' ⟨rfl, h⟩
  exact ⟨by simp [hn], h⟩

end Go.Proofs.Ytcabolcfoijglaa

/- impl.stampOk, impl.idOk, impl.valueOk, impl.isZeroOp answer what the plain tests say. -/
namespace Go.Proofs.Ytcabolcfoijglaa
open Go.RowKit
set_option linter.unusedVariables false
set_option maxRecDepth 100000

def stampB (n r : Int) : Bool := decide (1 ≤ n) && (decide (n ≤ 1000000) && (decide (0 ≤ r) && decide (r < 8)))
theorem stampB_cases (n r : Int) :
    (stampB n r = false ∧ decide (1 ≤ n) = false) ∨
    (stampB n r = false ∧ decide (1 ≤ n) = true ∧ decide (n ≤ 1000000) = false) ∨
    (stampB n r = false ∧ decide (1 ≤ n) = true ∧ decide (n ≤ 1000000) = true ∧ decide (0 ≤ r) = false) ∨
    (stampB n r = true ∧ decide (1 ≤ n) = true ∧ decide (n ≤ 1000000) = true ∧ decide (0 ≤ r) = true ∧ decide (r < 8) = true) ∨
    (stampB n r = false ∧ decide (1 ≤ n) = true ∧ decide (n ≤ 1000000) = true ∧ decide (0 ≤ r) = true ∧ decide (r < 8) = false) := by
  unfold stampB
  cases decide (1 ≤ n) <;> cases decide (n ≤ 1000000) <;> cases decide (0 ≤ r) <;> cases decide (r < 8) <;> simp

set_option maxHeartbeats 1600000 in
theorem stampI_any (w : World) (n r : Int) :
    Calls Try.prog 44 #[.agg #[.int .i64 n, .int .i64 r]] w fun e w' => e = .returned (.bool (stampB n r)) ∧ w' = w.alloc (.cells #[.int .i64 n, .int .i64 r] 24) := by
  rcases stampB_cases n r with ⟨h, q1⟩ | ⟨h, q1, q2⟩ | ⟨h, q1, q2, q3⟩ | ⟨h, q1, q2, q3, q4⟩ | ⟨h, q1, q2, q3, q4⟩
  all_goals
    have HE := hide h
    clear h
    go_enter Try.func44, Try.ntmps44
    go_wp2
    go_ret
    exact ⟨by rw [unhide HE]; rfl, rfl⟩

theorem idB_stamp (n r : Int) :
    (stampB n r = true ∧ idB n r = true) ∨
    (stampB n r = false ∧ idB n r = false ∧ (n == 0) = false) ∨
    (stampB n r = false ∧ idB n r = false ∧ n = 0 ∧ (n == 0) = true ∧ decide (0 ≤ r) = false) ∨
    (stampB n r = false ∧ idB n r = decide (r ≤ 121) ∧ n = 0 ∧ (n == 0) = true ∧ decide (0 ≤ r) = true) := by
  unfold stampB idB
  by_cases a : n = 0
  · subst a
    by_cases b : 0 ≤ r
    · right; right; right
      refine ⟨by simp, ?_, rfl, rfl, by simpa using b⟩
      rw [Bool.eq_iff_iff]
      simp
      omega
    · right; right; left
      refine ⟨by simp, ?_, rfl, rfl, by simpa using b⟩
      rw [Bool.eq_false_iff]
      simp only [ne_eq, Bool.and_eq_true, Bool.or_eq_true, decide_eq_true_eq]
      omega
  · by_cases c : 1 ≤ n ∧ n ≤ 1000000 ∧ 0 ≤ r ∧ r < 8
    · left
      simp only [Bool.and_eq_true, Bool.or_eq_true, decide_eq_true_eq]
      omega
    · right; left
      refine ⟨?_, ?_, by simpa using a⟩
      · rw [Bool.eq_false_iff]
        simp only [ne_eq, Bool.and_eq_true, decide_eq_true_eq]
        omega
      · rw [Bool.eq_false_iff]
        simp only [ne_eq, Bool.and_eq_true, Bool.or_eq_true, decide_eq_true_eq]
        omega

set_option maxHeartbeats 1600000 in
theorem idI_any (w : World) (n r : Int) :
    Calls Try.prog 38 #[.agg #[.int .i64 n, .int .i64 r]] w fun e w' => e = .returned (.bool (idB n r)) ∧ w' = (w.alloc (.cells #[.int .i64 n, .int .i64 r] 24)).alloc (.cells #[.int .i64 n, .int .i64 r] 24) := by
  have HS := hide (stampI_any (w.alloc (.cells #[.int .i64 n, .int .i64 r] 24)) n r)
  rcases idB_stamp n r with ⟨h, k⟩ | ⟨h, k, q1⟩ | ⟨h, k, rfl, q1, q2⟩ | ⟨h, k, rfl, q1, q2⟩
  all_goals
    rw [h] at HS
    have HE := hide k
    clear h k
    go_enter Try.func38, Try.ntmps38
    go_wp2_with fail
    refine (unhide HS).mono ?_
    rintro e w1 ⟨rfl, rfl⟩
    go_wp2
    go_ret
    exact ⟨by rw [unhide HE]; rfl, rfl⟩

theorem nameI_b (w : World) (v : Value) (l : List Int) (h : Byt w v l) : Calls Try.prog 42 #[v] w fun e w' => e = .returned (.bool (nameB l)) ∧ w' = w := by
  by_cases hn : NameOk l
  · rw [(nameB_iff l).2 hn]; exact nameI_yes w v l h hn
  · rw [Bool.eq_false_iff.2 (fun k => hn ((nameB_iff l).1 k))]; exact nameI_no w v l h hn
theorem textI_b (w : World) (v : Value) (l : List Int) (h : Byt w v l) : Calls Try.prog 41 #[v] w fun e w' => e = .returned (.bool (textB l)) ∧ w' = w := by
  by_cases hn : TextOk l
  · rw [(textB_iff l).2 hn]; exact textI_yes w v l h hn
  · rw [Bool.eq_false_iff.2 (fun k => hn ((textB_iff l).1 k))]; exact textI_no w v l h hn

def valB (t : List Int) (gone : Bool) : Bool := if gone then (t.length : Int) == 0 else textB t
set_option maxHeartbeats 1600000 in
theorem valI_any (w : World) (v : Value) (t : List Int) (gone : Bool) (h : Byt w v t) :
    Calls Try.prog 43 #[v, .bool gone] w fun e w' => e = .returned (.bool (valB t gone)) ∧ w' = w := by
  have HT := hide (textI_b w v t h)
  obtain ⟨a, c, rfl, _, _⟩ := h.shape
  clear h
  cases gone
  · go_enter Try.func43, Try.ntmps43
    go_wp2_with fail
    refine (unhide HT).mono ?_
    rintro e w1 ⟨rfl, rfl⟩
    go_wp2
    go_ret
    exact ⟨rfl, rfl⟩
  · go_enter Try.func43, Try.ntmps43
    go_wp2_with fail
    go_ret
    exact ⟨rfl, rfl⟩

/-- Elem, Name and Text of a node without Kids. -/
def loneB (k : Int) (n t : List Int) : Bool := if k = 0 then nameB n && (t.length : Int) == 0 else if k = 1 then (n.length : Int) == 0 && textB t else false

theorem attrsI_none (w : World) : Calls Try.prog 95 #[.slice none 0 0] w fun e w' => e = .returned (.bool true) ∧ w' = w := by
  go_enter Try.func95, Try.ntmps95
  go_wp2
  refine wp_loop_rounds 1 ?_
  rw [rounds_succ]
  go_wp2
  go_ret
  exact ⟨rfl, rfl⟩

set_option maxHeartbeats 3200000 in
theorem partI_lone (w : World) (k : Int) (vn vt : Value) (n t : List Int) (g : Nat) (hn : Byt w vn n) (ht : Byt w vt t) :
    Calls Try.prog 70 #[.agg #[.int .i64 k, vn, vt, .slice none 0 0, .slice none 0 0], .pointer (some ⟨g, 0, none⟩)] w fun e w' => e = .returned (.bool (loneB k n t)) ∧ w' = w.alloc (.cells #[.int .i64 k, vn, vt, .slice none 0 0, .slice none 0 0] 62) := by
  have HA := hide ((Below.refl w.heap.size w).alloc (Nat.le_refl _) (.cells #[.int .i64 k, vn, vt, .slice none 0 0, .slice none 0 0] 62))
  have HN := hide (nameI_b _ vn n (hn.keep (unhide HA)))
  have HT := hide (textI_b _ vt t (ht.keep (unhide HA)))
  obtain ⟨a1, c1, rfl, _, _⟩ := hn.shape
  obtain ⟨a2, c2, rfl, _, _⟩ := ht.shape
  clear hn ht
  by_cases k0 : k = 0
  · subst k0
    have HE := hide (show loneB 0 n t = (nameB n && (t.length : Int) == 0) from rfl)
    generalize nameB n = x at *
    generalize n.length = ln at *
    generalize t.length = lt at *
    cases x
    · go_enter Try.func70, Try.ntmps70
      go_wp2_with fail
      refine (unhide HN).mono ?_
      rintro e w1 ⟨rfl, rfl⟩
      go_wp2_with fail
      go_ret
      exact ⟨by rw [unhide HE]; rfl, rfl⟩
    · by_cases h0 : lt = 0
      · subst h0
        go_enter Try.func70, Try.ntmps70
        go_wp2_with fail
        refine (unhide HN).mono ?_
        rintro e w1 ⟨rfl, rfl⟩
        go_wp2_with fail
        refine (attrsI_none _).mono ?_
        rintro e w1 ⟨rfl, rfl⟩
        go_wp2_with fail
        go_ret
        exact ⟨by rw [unhide HE]; rfl, rfl⟩
      · have h0' : ((lt : Int) == 0) = false := by simpa using h0
        go_enter Try.func70, Try.ntmps70
        go_wp2_with fail
        refine (unhide HN).mono ?_
        rintro e w1 ⟨rfl, rfl⟩
        go_wp2_with fail
        go_ret
        exact ⟨by rw [unhide HE, h0']; rfl, rfl⟩
  · by_cases k1 : k = 1
    · subst k1
      have HE := hide (show loneB 1 n t = ((n.length : Int) == 0 && textB t) from rfl)
      generalize textB t = x at *
      generalize n.length = ln at *
      generalize t.length = lt at *
      by_cases h0 : ln = 0
      · subst h0
        cases x
        · go_enter Try.func70, Try.ntmps70
          go_wp2_with fail
          refine (unhide HT).mono ?_
          rintro e w1 ⟨rfl, rfl⟩
          go_wp2_with fail
          go_ret
          exact ⟨by rw [unhide HE]; rfl, rfl⟩
        · go_enter Try.func70, Try.ntmps70
          go_wp2_with fail
          refine (unhide HT).mono ?_
          rintro e w1 ⟨rfl, rfl⟩
          go_wp2_with fail
          go_ret
          exact ⟨by rw [unhide HE]; rfl, rfl⟩
      · have h0' : ((ln : Int) == 0) = false := by simpa using h0
        go_enter Try.func70, Try.ntmps70
        go_wp2_with fail
        go_ret
        exact ⟨by rw [unhide HE, h0']; rfl, rfl⟩
    · have HE := hide (show loneB k n t = false by unfold loneB; rw [if_neg k0, if_neg k1])
      have q0 : (k == 0) = false := by simpa using k0
      have q1 : (k == 1) = false := by simpa using k1
      go_enter Try.func70, Try.ntmps70
      go_wp2_with fail
      go_ret
      exact ⟨by rw [unhide HE]; rfl, rfl⟩

set_option maxHeartbeats 3200000 in
theorem loneI_any (w : World) (k : Int) (vn vt : Value) (n t : List Int) (hn : Byt w vn n) (ht : Byt w vt t) :
    Calls Try.prog 40 #[.agg #[.int .i64 k, vn, vt, .slice none 0 0, .slice none 0 0]] w fun e w' => e = .returned (.bool (loneB k n t)) ∧ w' = ((w.alloc (.cells #[.int .i64 k, vn, vt, .slice none 0 0, .slice none 0 0] 62)).alloc (.cells #[.int .u32 0, .int .i32 0, .int .u32 0, .map none] 108)).alloc (.cells #[.int .i64 k, vn, vt, .slice none 0 0, .slice none 0 0] 62) := by
  have HN := hide (fun W (h : Below w.heap.size w W) => hn.keep h)
  have HT := hide (fun W (h : Below w.heap.size w W) => ht.keep h)
  obtain ⟨a1, c1, rfl, _, _⟩ := hn.shape
  obtain ⟨a2, c2, rfl, _, _⟩ := ht.shape
  clear hn ht
  go_enter Try.func40, Try.ntmps40
  go_wp2_with fail
  have HB := hide (((Below.refl w.heap.size w).alloc (Nat.le_refl _) (.cells #[.int .i64 k, .slice a1 n.length c1, .slice a2 t.length c2, .slice none 0 0, .slice none 0 0] 62)).alloc (by simp) (.cells #[.int .u32 0, .int .i32 0, .int .u32 0, .map none] 108))
  refine (partI_lone _ k _ _ n t _ (unhide HN _ (unhide HB)) (unhide HT _ (unhide HB))).mono ?_
  rintro e w1 ⟨rfl, rfl⟩
  go_wp2
  go_ret
  exact ⟨rfl, rfl⟩

def zeroOpB (o : OpV) : Bool := (o.kind == 0) && (zeroB o.atN o.atR && (zeroB o.nodeN o.nodeR && (zeroB o.parN o.parR && ((o.key.length : Int) == 0 && ((o.elem == 0) && ((o.name.length : Int) == 0 && ((o.text.length : Int) == 0 && !o.gone)))))))

set_option maxHeartbeats 3200000 in
theorem zeroI_any (w : World) (o : OpV) (a1 a2 a3 : Option Addr) (c1 c2 c3 : Nat) :
    Calls Try.prog 45 #[opVal o (.slice a1 o.key.length c1) (.slice a2 o.name.length c2) (.slice a3 o.text.length c3)] w fun e w' => e = .returned (.bool (zeroOpB o)) ∧ Below w.heap.size w w' := by
  unfold opVal
  go_enter Try.func45, Try.ntmps45
  go_wp2_with fail
  all_goals
    go_ret
    exact ⟨by simp [zeroOpB, zeroB, *], (Below.refl w.heap.size w).alloc (Nat.le_refl _) _⟩
end Go.Proofs.Ytcabolcfoijglaa

/- The test of an operation, the two ways round, in plain mathematics. -/
namespace Go.Proofs.Ytcabolcfoijglaa
set_option linter.unusedVariables false

theorem headB_eq (o : OpV) : opHeadB o = (decide (o.kind < 0) || (decide (3 < o.kind) || (!stampB o.atN o.atR || !textB o.text))) := by
  unfold opHeadB stampB
  have e1 : decide (1 ≤ o.atN) = !decide (o.atN < 1) := by rw [Bool.eq_iff_iff]; simp
  have e2 : decide (o.atN ≤ 1000000) = !decide (1000000 < o.atN) := by rw [Bool.eq_iff_iff]; simp
  have e3 : decide (0 ≤ o.atR) = !decide (o.atR < 0) := by rw [Bool.eq_iff_iff]; simp
  have e4 : decide (o.atR < 8) = !decide (8 ≤ o.atR) := by rw [Bool.eq_iff_iff]; simp
  rw [e1, e2, e3, e4]
  cases decide (o.kind < 0) <;> cases decide (3 < o.kind) <;> cases decide (o.atN < 1) <;> cases decide (1000000 < o.atN) <;> cases decide (o.atR < 0) <;> cases decide (8 ≤ o.atR) <;> rfl
theorem text_none {t : List Int} (h : ((t.length : Int) == 0) = true) : textB t = true := by
  have : t = [] := by simpa using h
  subst this
  rfl
theorem len_nil : ((([] : List Int).length : Int) == 0) = true := rfl
theorem zero_zero : zeroB 0 0 = true := rfl

def rest0 (o : OpV) : OpV := ⟨0, 0, 0, o.nodeN, o.nodeR, 0, 0, [], 0, [], [], o.gone⟩
def rest1 (o : OpV) : OpV := ⟨0, 0, 0, 0, 0, 0, 0, [], o.elem, o.name, o.text, o.gone⟩
def rest2 (o : OpV) : OpV := ⟨0, 0, 0, 0, 0, o.parN, o.parR, o.key, o.elem, o.name, [], o.gone⟩
def rest3 (o : OpV) : OpV := ⟨0, 0, 0, 0, 0, o.parN, o.parR, o.key, o.elem, [], [], false⟩

theorem opB_0 {o : OpV} (h : o.kind = 0) : opB o = (stampB o.atN o.atR && ((idB o.parN o.parR && (keyB o.key && loneB o.elem o.name o.text)) && zeroOpB (rest0 o))) := by
  unfold opB
  rw [headB_eq, h]
  simp only [Int.lt_irrefl, decide_false, Bool.false_or, beq_self_eq_true, if_true, show decide ((3 : Int) < 0) = false from rfl]
  unfold opNewB zeroOpB rest0
  simp only [zero_zero, len_nil, beq_self_eq_true, Bool.true_and]
  unfold loneB
  cases hs : stampB o.atN o.atR
  · simp
  cases idB o.parN o.parR
  · simp
  cases keyB o.key
  · simp
  cases zeroB o.nodeN o.nodeR
  · simp
  cases o.gone
  · by_cases e1 : o.elem = 1
    · rw [e1]
      cases textB o.text <;> simp
    · by_cases e0 : o.elem = 0
      · rw [e0]
        cases ht : textB o.text
        · cases hl : ((o.text.length : Int) == 0)
          · simp
          · rw [text_none hl] at ht; cases ht
        · simp
      · simp [e0, e1]
  · simp

theorem opB_1 {o : OpV} (h : o.kind = 1) : opB o = (stampB o.atN o.atR && ((idB o.nodeN o.nodeR && (idB o.parN o.parR && keyB o.key)) && zeroOpB (rest1 o))) := by
  unfold opB
  rw [headB_eq, h]
  simp only [show decide ((1 : Int) < 0) = false from rfl, Bool.false_or, show ((1 : Int) == 0) = false from rfl, show ((1 : Int) == 1) = true from rfl, show decide ((3 : Int) < 1) = false from rfl, if_true]
  unfold opMoveB zeroOpB rest1
  simp only [zero_zero, len_nil, beq_self_eq_true, Bool.true_and]
  cases hs : stampB o.atN o.atR
  · simp
  cases idB o.nodeN o.nodeR
  · simp
  cases idB o.parN o.parR
  · simp
  cases keyB o.key
  · simp
  cases hl : ((o.text.length : Int) == 0)
  · simp
  · rw [text_none hl]; simp

theorem opB_2 {o : OpV} (h : o.kind = 2) : opB o = (stampB o.atN o.atR && ((idB o.nodeN o.nodeR && textB o.text) && zeroOpB (rest2 o))) := by
  unfold opB
  rw [headB_eq, h]
  simp only [show decide ((2 : Int) < 0) = false from rfl, Bool.false_or, show ((2 : Int) == 0) = false from rfl, show ((2 : Int) == 1) = false from rfl, show decide ((3 : Int) < 2) = false from rfl]
  unfold opRestB zeroOpB rest2
  rw [h]
  simp only [zero_zero, len_nil, beq_self_eq_true, Bool.true_and, if_true]
  have ek : decide (0 < (o.key.length : Int)) = !((o.key.length : Int) == 0) := by rw [Bool.eq_iff_iff]; simp [Nat.pos_iff_ne_zero]
  rw [ek]
  cases hs : stampB o.atN o.atR
  · simp
  cases idB o.nodeN o.nodeR
  · simp
  cases textB o.text
  · simp
  cases zeroB o.parN o.parR
  · simp
  cases ((o.key.length : Int) == 0)
  · simp
  cases (o.elem == 0)
  · simp
  simp

theorem opB_3 {o : OpV} (h : o.kind = 3) : opB o = (stampB o.atN o.atR && ((idB o.nodeN o.nodeR && (nameB o.name && valB o.text o.gone)) && zeroOpB (rest3 o))) := by
  unfold opB
  rw [headB_eq, h]
  simp only [show decide ((3 : Int) < 0) = false from rfl, Bool.false_or, show ((3 : Int) == 0) = false from rfl, show ((3 : Int) == 1) = false from rfl, show decide ((3 : Int) < 3) = false from rfl]
  unfold opRestB zeroOpB rest3 valB
  rw [h]
  simp only [zero_zero, len_nil, beq_self_eq_true, Bool.true_and, show ((3 : Int) == 2) = false from rfl]
  have ek : decide (0 < (o.key.length : Int)) = !((o.key.length : Int) == 0) := by rw [Bool.eq_iff_iff]; simp [Nat.pos_iff_ne_zero]
  rw [ek]
  cases hs : stampB o.atN o.atR
  · simp
  cases idB o.nodeN o.nodeR
  · simp
  cases zeroB o.parN o.parR
  · simp
  cases ((o.key.length : Int) == 0)
  · simp
  cases (o.elem == 0)
  · simp
  cases nameB o.name
  · simp
  cases o.gone
  · cases textB o.text <;> simp
  · cases hl : ((o.text.length : Int) == 0)
    · simp
    · rw [text_none hl]; simp

theorem opB_4 {o : OpV} (h0 : o.kind ≠ 0) (h1 : o.kind ≠ 1) (h2 : o.kind ≠ 2) (h3 : o.kind ≠ 3) : opB o = false := by
  have : (decide (o.kind < 0) || decide (3 < o.kind)) = true := by
    simp only [Bool.or_eq_true, decide_eq_true_eq]
    omega
  unfold opB
  rw [headB_eq, ← Bool.or_assoc, this]
  rfl
end Go.Proofs.Ytcabolcfoijglaa

/- impl.keyOk answers what the plain test says. -/
namespace Go.Proofs.Ytcabolcfoijglaa
open Go.RowKit
set_option linter.unusedVariables false
set_option maxRecDepth 100000

theorem keyI_short (w : World) (a : Option Addr) (n cap : Nat) (h : n < 1 ∨ 12 < n) :
    Calls Try.prog 39 #[.slice a n cap] w fun e w' => e = .returned (.bool false) ∧ w' = w := by
  by_cases h1 : n < 1
  · have h1' : (n : Int) < 1 := by omega
    go_enter Try.func39, Try.ntmps39
    go_wp2
    go_ret
    exact ⟨rfl, rfl⟩
  · have h1' : decide ((n : Int) < 1) = false := by simp; omega
    have h2 : (12 : Int) < (n : Int) := by omega
    go_enter Try.func39, Try.ntmps39
    go_wp2
    go_ret
    exact ⟨rfl, rfl⟩

open Classical in
set_option maxHeartbeats 1600000 in
theorem keyI_row (w : World) (b off cap : Nat) (l : List Int) (hok : okZ l) (h1 : 1 ≤ l.length) (h8 : l.length ≤ 12)
    (hc : ∀ i, i < l.length → w.cell? ⟨b, off + i, none⟩ = some (.int .i64 (l.getD i 0))) :
    Calls Try.prog 39 #[.slice (some ⟨b, off, none⟩) l.length cap] w fun e w' => e = .returned (.bool (decide (KeyOk l))) ∧ w' = w := by
  have d1 : decide ((l.length : Int) < 1) = false := by simp; omega
  have d2 : decide ((12 : Int) < (l.length : Int)) = false := by simp; omega
  obtain ⟨n, hn⟩ : ∃ n, l.length = n + 1 := ⟨l.length - 1, by omega⟩
  obtain ⟨z, hz⟩ : ∃ z, z = l.getD n 0 := ⟨_, rfl⟩
  have hcz : w.cell? ⟨b, off + n, none⟩ = some (.int .i64 z) := by rw [hz]; exact hc _ (by omega)
  have HZ := hide hz
  have HC := hide hc
  have HN := hide hn
  have e1 : (l.length : Int) - 1 = (n : Int) := by omega
  have hlt0 : n < l.length := by omega
  clear hc hz hn
  go_enter Try.func39, Try.ntmps39
  go_wp2
  go_loop [15] (fun i => ∃ k : Nat, k ≤ l.length ∧ i = .int .i64 k ∧ allTo keyCh l k) (fun i => l.length - (intOf i).toNat)
  case atStart => exact ⟨0, Nat.zero_le _, rfl, fun i hi => by omega⟩
  case round =>
    obtain ⟨k, hk, rfl, ha⟩ := hrel
    have HA := hide ha
    clear ha
    by_cases hlt : k < l.length
    · obtain ⟨x, hx⟩ : ∃ x, x = l.getD k 0 := ⟨_, rfl⟩
      have hcx : w.cell? ⟨b, off + k, none⟩ = some (.int .i64 x) := by rw [hx]; exact unhide HC _ hlt
      have HX := hide hx
      have hlt' : (k : Int) < (l.length : Int) := by omega
      clear hx hcz
      by_cases hn : keyCh k x
      · have HN := hide hn
        have q1 : decide (x < 0) = false := by unfold keyCh at hn; simp; omega
        have q2 : decide (999 < x) = false := by unfold keyCh at hn; simp; omega
        clear hn
        go_wp2
        go_round
        case rel => exact ⟨k + 1, by omega, by go_num, allTo_step (unhide HA) (by rw [← unhide HX]; exact unhide HN)⟩
        case measure => simp [intOf]; omega
      · have HF := hide (show decide (KeyOk l) = false by
          simp only [decide_eq_false_iff_not]
          rintro ⟨_, _, _, h⟩
          exact hn (by rw [unhide HX]; exact h k hlt))
        have hcase : decide (x < 0) = true ∨ (decide (x < 0) = false ∧ decide (999 < x) = true) := by
          unfold keyCh at hn; simp; omega
        clear hn
        rcases hcase with q1 | ⟨q1, q2⟩
        all_goals
          go_wp2
          go_ret
          exact ⟨by rw [unhide HF]; rfl, rfl⟩
    · have e : k = l.length := by omega
      subst e
      by_cases hz0 : z = 0
      · have HF := hide (show decide (KeyOk l) = false by
          simp only [decide_eq_false_iff_not]
          rintro ⟨_, _, h, _⟩
          rw [unhide HN, Nat.add_sub_cancel, ← unhide HZ] at h
          exact h hz0)
        have dz : (z != 0) = false := by simp [hz0]
        clear hz0
        go_wp2
        go_ret
        exact ⟨by rw [unhide HF]; rfl, rfl⟩
      · have HF := hide (show decide (KeyOk l) = true by
          simp only [decide_eq_true_eq]
          exact ⟨h1, h8, by rw [unhide HN, Nat.add_sub_cancel, ← unhide HZ]; exact hz0, unhide HA⟩)
        have dz : (z != 0) = true := by simp [hz0]
        clear hz0
        go_wp2
        go_ret
        exact ⟨by rw [unhide HF]; rfl, rfl⟩

open Classical in
theorem keyI_any (w : World) (v : Value) (l : List Int) (h : Ints w v l) :
    Calls Try.prog 39 #[v] w fun e w' => e = .returned (.bool (decide (KeyOk l))) ∧ w' = w := by
  by_cases hl : l.length < 1 ∨ 12 < l.length
  · obtain ⟨a, cap, rfl, _⟩ := h.shape
    have hd : decide (KeyOk l) = false := by simp only [decide_eq_false_iff_not]; rintro ⟨_, _, _⟩; omega
    rw [hd]
    exact keyI_short w a _ cap hl
  · obtain ⟨hok, hm, ⟨rfl, rfl⟩ | ⟨x, cap, rfl, hc, rfl⟩ | ⟨b, off, cap, rfl, _, _, _, _, h5⟩⟩ := h
    · simp at hl
    · simp at hl
    · exact keyI_row w b off cap l hok (by omega) (by omega) h5
theorem keyI_b (w : World) (v : Value) (l : List Int) (h : Ints w v l) : Calls Try.prog 39 #[v] w fun e w' => e = .returned (.bool (keyB l)) ∧ w' = w := by
  refine (keyI_any w v l h).mono ?_
  rintro e w' ⟨rfl, h⟩
  refine ⟨?_, h⟩
  by_cases hn : KeyOk l
  · rw [(keyB_iff l).2 hn]; simp [hn]
  · rw [Bool.eq_false_iff.2 (fun k => hn ((keyB_iff l).1 k))]; simp [hn]
end Go.Proofs.Ytcabolcfoijglaa

/- impl.OpOk answers what the plain test says. -/
namespace Go.Proofs.Ytcabolcfoijglaa
open Go.RowKit
set_option linter.unusedVariables false
set_option maxRecDepth 100000

theorem balloc {w w' : World} {o : Obj} (h : Below w.heap.size w w') : Below w.heap.size w (w'.alloc o) := h.alloc h.size o

set_option maxHeartbeats 6400000 in
theorem opI_0 (w : World) (o : OpV) (a1 a2 a3 : Option Addr) (c1 c2 c3 : Nat) (hk : Ints w (.slice a1 o.key.length c1) o.key) (hn : Byt w (.slice a2 o.name.length c2) o.name) (ht : Byt w (.slice a3 o.text.length c3) o.text) (k0 : o.kind = 0) :
    Calls Try.prog 9 #[opVal o (.slice a1 o.key.length c1) (.slice a2 o.name.length c2) (.slice a3 o.text.length c3)] w fun e w' => e = .returned (.bool (opB o)) ∧ Below w.heap.size w w' := by
  have hE := opB_0 k0
  have HK := hide hk
  have HM := hide hn
  have HX := hide ht
  clear hk hn ht
  unfold opVal
  rw [k0]
  go_enter Try.func9, Try.ntmps9
  go_wp2_with fail
  refine (idI_any _ o.parN o.parR).mono ?_
  rintro e w1 ⟨rfl, ew⟩
  obtain rfl := ew
  cases hx : idB o.parN o.parR
  · rw [hx] at hE
    clear hx
    go_wp2_with fail
    refine (stampI_any _ o.atN o.atR).mono ?_
    rintro e w1 ⟨rfl, rfl⟩
    cases hs : stampB o.atN o.atR
    · have HF := hide (show opB o = false by rw [hE, hs]; rfl)
      clear hE hs
      go_wp2_with fail
      go_ret
      exact ⟨by rw [unhide HF]; rfl, (by repeat (first | exact Below.refl _ _ | refine balloc ?_))⟩
    · have HF := hide (show opB o = false by rw [hE, hs]; rfl)
      clear hE hs
      go_wp2_with fail
      go_ret
      exact ⟨by rw [unhide HF]; rfl, (by repeat (first | exact Below.refl _ _ | refine balloc ?_))⟩
  rw [hx] at hE
  clear hx
  go_wp2_with fail
  refine (keyI_b _ _ o.key ((unhide HK).keep (by repeat (first | exact Below.refl _ _ | refine balloc ?_)))).mono ?_
  rintro e w1 ⟨rfl, ew⟩
  obtain rfl := ew
  cases hx : keyB o.key
  · rw [hx] at hE
    clear hx
    go_wp2_with fail
    refine (stampI_any _ o.atN o.atR).mono ?_
    rintro e w1 ⟨rfl, rfl⟩
    cases hs : stampB o.atN o.atR
    · have HF := hide (show opB o = false by rw [hE, hs]; rfl)
      clear hE hs
      go_wp2_with fail
      go_ret
      exact ⟨by rw [unhide HF]; rfl, (by repeat (first | exact Below.refl _ _ | refine balloc ?_))⟩
    · have HF := hide (show opB o = false by rw [hE, hs]; rfl)
      clear hE hs
      go_wp2_with fail
      go_ret
      exact ⟨by rw [unhide HF]; rfl, (by repeat (first | exact Below.refl _ _ | refine balloc ?_))⟩
  rw [hx] at hE
  clear hx
  go_wp2_with fail
  refine (loneI_any _ o.elem _ _ o.name o.text ((unhide HM).keep (by repeat (first | exact Below.refl _ _ | refine balloc ?_))) ((unhide HX).keep (by repeat (first | exact Below.refl _ _ | refine balloc ?_)))).mono ?_
  rintro e w1 ⟨rfl, ew⟩
  obtain rfl := ew
  cases hx : loneB o.elem o.name o.text
  · rw [hx] at hE
    clear hx
    go_wp2_with fail
    refine (stampI_any _ o.atN o.atR).mono ?_
    rintro e w1 ⟨rfl, rfl⟩
    cases hs : stampB o.atN o.atR
    · have HF := hide (show opB o = false by rw [hE, hs]; rfl)
      clear hE hs
      go_wp2_with fail
      go_ret
      exact ⟨by rw [unhide HF]; rfl, (by repeat (first | exact Below.refl _ _ | refine balloc ?_))⟩
    · have HF := hide (show opB o = false by rw [hE, hs]; rfl)
      clear hE hs
      go_wp2_with fail
      go_ret
      exact ⟨by rw [unhide HF]; rfl, (by repeat (first | exact Below.refl _ _ | refine balloc ?_))⟩
  rw [hx] at hE
  clear hx
  go_wp2_with fail
  refine (stampI_any _ o.atN o.atR).mono ?_
  rintro e w1 ⟨rfl, rfl⟩
  cases hs : stampB o.atN o.atR
  · have HF := hide (show opB o = false by rw [hE, hs]; rfl)
    clear hE hs
    go_wp2_with fail
    go_ret
    exact ⟨by rw [unhide HF]; rfl, (by repeat (first | exact Below.refl _ _ | refine balloc ?_))⟩
  · rw [hs] at hE
    have HF := hide (show opB o = zeroOpB (rest0 o) by rw [hE]; rfl)
    clear hE hs
    go_wp2_with fail
    refine (zeroI_any _ (rest0 o) none none none 0 0 0).mono ?_
    rintro e w1 ⟨rfl, hB1⟩
    have hA := bstep (a := w) (by repeat (first | exact Below.refl _ _ | refine balloc ?_)) hB1
    clear hB1
    go_wp2_with fail
    go_ret
    exact ⟨by rw [unhide HF]; rfl, hA⟩

set_option maxHeartbeats 6400000 in
theorem opI_1 (w : World) (o : OpV) (a1 a2 a3 : Option Addr) (c1 c2 c3 : Nat) (hk : Ints w (.slice a1 o.key.length c1) o.key) (hn : Byt w (.slice a2 o.name.length c2) o.name) (ht : Byt w (.slice a3 o.text.length c3) o.text) (k0 : o.kind = 1) :
    Calls Try.prog 9 #[opVal o (.slice a1 o.key.length c1) (.slice a2 o.name.length c2) (.slice a3 o.text.length c3)] w fun e w' => e = .returned (.bool (opB o)) ∧ Below w.heap.size w w' := by
  have hE := opB_1 k0
  have HK := hide hk
  have HM := hide hn
  have HX := hide ht
  clear hk hn ht
  unfold opVal
  rw [k0]
  go_enter Try.func9, Try.ntmps9
  go_wp2_with fail
  refine (idI_any _ o.nodeN o.nodeR).mono ?_
  rintro e w1 ⟨rfl, ew⟩
  obtain rfl := ew
  cases hx : idB o.nodeN o.nodeR
  · rw [hx] at hE
    clear hx
    go_wp2_with fail
    refine (stampI_any _ o.atN o.atR).mono ?_
    rintro e w1 ⟨rfl, rfl⟩
    cases hs : stampB o.atN o.atR
    · have HF := hide (show opB o = false by rw [hE, hs]; rfl)
      clear hE hs
      go_wp2_with fail
      go_ret
      exact ⟨by rw [unhide HF]; rfl, (by repeat (first | exact Below.refl _ _ | refine balloc ?_))⟩
    · have HF := hide (show opB o = false by rw [hE, hs]; rfl)
      clear hE hs
      go_wp2_with fail
      go_ret
      exact ⟨by rw [unhide HF]; rfl, (by repeat (first | exact Below.refl _ _ | refine balloc ?_))⟩
  rw [hx] at hE
  clear hx
  go_wp2_with fail
  refine (idI_any _ o.parN o.parR).mono ?_
  rintro e w1 ⟨rfl, ew⟩
  obtain rfl := ew
  cases hx : idB o.parN o.parR
  · rw [hx] at hE
    clear hx
    go_wp2_with fail
    refine (stampI_any _ o.atN o.atR).mono ?_
    rintro e w1 ⟨rfl, rfl⟩
    cases hs : stampB o.atN o.atR
    · have HF := hide (show opB o = false by rw [hE, hs]; rfl)
      clear hE hs
      go_wp2_with fail
      go_ret
      exact ⟨by rw [unhide HF]; rfl, (by repeat (first | exact Below.refl _ _ | refine balloc ?_))⟩
    · have HF := hide (show opB o = false by rw [hE, hs]; rfl)
      clear hE hs
      go_wp2_with fail
      go_ret
      exact ⟨by rw [unhide HF]; rfl, (by repeat (first | exact Below.refl _ _ | refine balloc ?_))⟩
  rw [hx] at hE
  clear hx
  go_wp2_with fail
  refine (keyI_b _ _ o.key ((unhide HK).keep (by repeat (first | exact Below.refl _ _ | refine balloc ?_)))).mono ?_
  rintro e w1 ⟨rfl, ew⟩
  obtain rfl := ew
  cases hx : keyB o.key
  · rw [hx] at hE
    clear hx
    go_wp2_with fail
    refine (stampI_any _ o.atN o.atR).mono ?_
    rintro e w1 ⟨rfl, rfl⟩
    cases hs : stampB o.atN o.atR
    · have HF := hide (show opB o = false by rw [hE, hs]; rfl)
      clear hE hs
      go_wp2_with fail
      go_ret
      exact ⟨by rw [unhide HF]; rfl, (by repeat (first | exact Below.refl _ _ | refine balloc ?_))⟩
    · have HF := hide (show opB o = false by rw [hE, hs]; rfl)
      clear hE hs
      go_wp2_with fail
      go_ret
      exact ⟨by rw [unhide HF]; rfl, (by repeat (first | exact Below.refl _ _ | refine balloc ?_))⟩
  rw [hx] at hE
  clear hx
  go_wp2_with fail
  refine (stampI_any _ o.atN o.atR).mono ?_
  rintro e w1 ⟨rfl, rfl⟩
  cases hs : stampB o.atN o.atR
  · have HF := hide (show opB o = false by rw [hE, hs]; rfl)
    clear hE hs
    go_wp2_with fail
    go_ret
    exact ⟨by rw [unhide HF]; rfl, (by repeat (first | exact Below.refl _ _ | refine balloc ?_))⟩
  · rw [hs] at hE
    have HF := hide (show opB o = zeroOpB (rest1 o) by rw [hE]; rfl)
    clear hE hs
    go_wp2_with fail
    refine (zeroI_any _ (rest1 o) none a2 a3 0 c2 c3).mono ?_
    rintro e w1 ⟨rfl, hB1⟩
    have hA := bstep (a := w) (by repeat (first | exact Below.refl _ _ | refine balloc ?_)) hB1
    clear hB1
    go_wp2_with fail
    go_ret
    exact ⟨by rw [unhide HF]; rfl, hA⟩

set_option maxHeartbeats 6400000 in
theorem opI_2 (w : World) (o : OpV) (a1 a2 a3 : Option Addr) (c1 c2 c3 : Nat) (hk : Ints w (.slice a1 o.key.length c1) o.key) (hn : Byt w (.slice a2 o.name.length c2) o.name) (ht : Byt w (.slice a3 o.text.length c3) o.text) (k0 : o.kind = 2) :
    Calls Try.prog 9 #[opVal o (.slice a1 o.key.length c1) (.slice a2 o.name.length c2) (.slice a3 o.text.length c3)] w fun e w' => e = .returned (.bool (opB o)) ∧ Below w.heap.size w w' := by
  have hE := opB_2 k0
  have HK := hide hk
  have HM := hide hn
  have HX := hide ht
  clear hk hn ht
  unfold opVal
  rw [k0]
  go_enter Try.func9, Try.ntmps9
  go_wp2_with fail
  refine (idI_any _ o.nodeN o.nodeR).mono ?_
  rintro e w1 ⟨rfl, ew⟩
  obtain rfl := ew
  cases hx : idB o.nodeN o.nodeR
  · rw [hx] at hE
    clear hx
    go_wp2_with fail
    refine (stampI_any _ o.atN o.atR).mono ?_
    rintro e w1 ⟨rfl, rfl⟩
    cases hs : stampB o.atN o.atR
    · have HF := hide (show opB o = false by rw [hE, hs]; rfl)
      clear hE hs
      go_wp2_with fail
      go_ret
      exact ⟨by rw [unhide HF]; rfl, (by repeat (first | exact Below.refl _ _ | refine balloc ?_))⟩
    · have HF := hide (show opB o = false by rw [hE, hs]; rfl)
      clear hE hs
      go_wp2_with fail
      go_ret
      exact ⟨by rw [unhide HF]; rfl, (by repeat (first | exact Below.refl _ _ | refine balloc ?_))⟩
  rw [hx] at hE
  clear hx
  go_wp2_with fail
  refine (textI_b _ _ o.text ((unhide HX).keep (by repeat (first | exact Below.refl _ _ | refine balloc ?_)))).mono ?_
  rintro e w1 ⟨rfl, ew⟩
  obtain rfl := ew
  cases hx : textB o.text
  · rw [hx] at hE
    clear hx
    go_wp2_with fail
    refine (stampI_any _ o.atN o.atR).mono ?_
    rintro e w1 ⟨rfl, rfl⟩
    cases hs : stampB o.atN o.atR
    · have HF := hide (show opB o = false by rw [hE, hs]; rfl)
      clear hE hs
      go_wp2_with fail
      go_ret
      exact ⟨by rw [unhide HF]; rfl, (by repeat (first | exact Below.refl _ _ | refine balloc ?_))⟩
    · have HF := hide (show opB o = false by rw [hE, hs]; rfl)
      clear hE hs
      go_wp2_with fail
      go_ret
      exact ⟨by rw [unhide HF]; rfl, (by repeat (first | exact Below.refl _ _ | refine balloc ?_))⟩
  rw [hx] at hE
  clear hx
  go_wp2_with fail
  refine (stampI_any _ o.atN o.atR).mono ?_
  rintro e w1 ⟨rfl, rfl⟩
  cases hs : stampB o.atN o.atR
  · have HF := hide (show opB o = false by rw [hE, hs]; rfl)
    clear hE hs
    go_wp2_with fail
    go_ret
    exact ⟨by rw [unhide HF]; rfl, (by repeat (first | exact Below.refl _ _ | refine balloc ?_))⟩
  · rw [hs] at hE
    have HF := hide (show opB o = zeroOpB (rest2 o) by rw [hE]; rfl)
    clear hE hs
    go_wp2_with fail
    refine (zeroI_any _ (rest2 o) a1 a2 none c1 c2 0).mono ?_
    rintro e w1 ⟨rfl, hB1⟩
    have hA := bstep (a := w) (by repeat (first | exact Below.refl _ _ | refine balloc ?_)) hB1
    clear hB1
    go_wp2_with fail
    go_ret
    exact ⟨by rw [unhide HF]; rfl, hA⟩

set_option maxHeartbeats 6400000 in
theorem opI_3 (w : World) (o : OpV) (a1 a2 a3 : Option Addr) (c1 c2 c3 : Nat) (hk : Ints w (.slice a1 o.key.length c1) o.key) (hn : Byt w (.slice a2 o.name.length c2) o.name) (ht : Byt w (.slice a3 o.text.length c3) o.text) (k0 : o.kind = 3) :
    Calls Try.prog 9 #[opVal o (.slice a1 o.key.length c1) (.slice a2 o.name.length c2) (.slice a3 o.text.length c3)] w fun e w' => e = .returned (.bool (opB o)) ∧ Below w.heap.size w w' := by
  have hE := opB_3 k0
  have HK := hide hk
  have HM := hide hn
  have HX := hide ht
  clear hk hn ht
  unfold opVal
  rw [k0]
  go_enter Try.func9, Try.ntmps9
  go_wp2_with fail
  refine (idI_any _ o.nodeN o.nodeR).mono ?_
  rintro e w1 ⟨rfl, ew⟩
  obtain rfl := ew
  cases hx : idB o.nodeN o.nodeR
  · rw [hx] at hE
    clear hx
    go_wp2_with fail
    refine (stampI_any _ o.atN o.atR).mono ?_
    rintro e w1 ⟨rfl, rfl⟩
    cases hs : stampB o.atN o.atR
    · have HF := hide (show opB o = false by rw [hE, hs]; rfl)
      clear hE hs
      go_wp2_with fail
      go_ret
      exact ⟨by rw [unhide HF]; rfl, (by repeat (first | exact Below.refl _ _ | refine balloc ?_))⟩
    · have HF := hide (show opB o = false by rw [hE, hs]; rfl)
      clear hE hs
      go_wp2_with fail
      go_ret
      exact ⟨by rw [unhide HF]; rfl, (by repeat (first | exact Below.refl _ _ | refine balloc ?_))⟩
  rw [hx] at hE
  clear hx
  go_wp2_with fail
  refine (nameI_b _ _ o.name ((unhide HM).keep (by repeat (first | exact Below.refl _ _ | refine balloc ?_)))).mono ?_
  rintro e w1 ⟨rfl, ew⟩
  obtain rfl := ew
  cases hx : nameB o.name
  · rw [hx] at hE
    clear hx
    go_wp2_with fail
    refine (stampI_any _ o.atN o.atR).mono ?_
    rintro e w1 ⟨rfl, rfl⟩
    cases hs : stampB o.atN o.atR
    · have HF := hide (show opB o = false by rw [hE, hs]; rfl)
      clear hE hs
      go_wp2_with fail
      go_ret
      exact ⟨by rw [unhide HF]; rfl, (by repeat (first | exact Below.refl _ _ | refine balloc ?_))⟩
    · have HF := hide (show opB o = false by rw [hE, hs]; rfl)
      clear hE hs
      go_wp2_with fail
      go_ret
      exact ⟨by rw [unhide HF]; rfl, (by repeat (first | exact Below.refl _ _ | refine balloc ?_))⟩
  rw [hx] at hE
  clear hx
  go_wp2_with fail
  refine (valI_any _ _ o.text o.gone ((unhide HX).keep (by repeat (first | exact Below.refl _ _ | refine balloc ?_)))).mono ?_
  rintro e w1 ⟨rfl, ew⟩
  obtain rfl := ew
  cases hx : valB o.text o.gone
  · rw [hx] at hE
    clear hx
    go_wp2_with fail
    refine (stampI_any _ o.atN o.atR).mono ?_
    rintro e w1 ⟨rfl, rfl⟩
    cases hs : stampB o.atN o.atR
    · have HF := hide (show opB o = false by rw [hE, hs]; rfl)
      clear hE hs
      go_wp2_with fail
      go_ret
      exact ⟨by rw [unhide HF]; rfl, (by repeat (first | exact Below.refl _ _ | refine balloc ?_))⟩
    · have HF := hide (show opB o = false by rw [hE, hs]; rfl)
      clear hE hs
      go_wp2_with fail
      go_ret
      exact ⟨by rw [unhide HF]; rfl, (by repeat (first | exact Below.refl _ _ | refine balloc ?_))⟩
  rw [hx] at hE
  clear hx
  go_wp2_with fail
  refine (stampI_any _ o.atN o.atR).mono ?_
  rintro e w1 ⟨rfl, rfl⟩
  cases hs : stampB o.atN o.atR
  · have HF := hide (show opB o = false by rw [hE, hs]; rfl)
    clear hE hs
    go_wp2_with fail
    go_ret
    exact ⟨by rw [unhide HF]; rfl, (by repeat (first | exact Below.refl _ _ | refine balloc ?_))⟩
  · rw [hs] at hE
    have HF := hide (show opB o = zeroOpB (rest3 o) by rw [hE]; rfl)
    clear hE hs
    go_wp2_with fail
    refine (zeroI_any _ (rest3 o) a1 none none c1 0 0).mono ?_
    rintro e w1 ⟨rfl, hB1⟩
    have hA := bstep (a := w) (by repeat (first | exact Below.refl _ _ | refine balloc ?_)) hB1
    clear hB1
    go_wp2_with fail
    go_ret
    exact ⟨by rw [unhide HF]; rfl, hA⟩

set_option maxHeartbeats 6400000 in
theorem opI_4 (w : World) (o : OpV) (a1 a2 a3 : Option Addr) (c1 c2 c3 : Nat) (h0 : o.kind ≠ 0) (h1 : o.kind ≠ 1) (h2 : o.kind ≠ 2) (h3 : o.kind ≠ 3) :
    Calls Try.prog 9 #[opVal o (.slice a1 o.key.length c1) (.slice a2 o.name.length c2) (.slice a3 o.text.length c3)] w fun e w' => e = .returned (.bool (opB o)) ∧ Below w.heap.size w w' := by
  have HF := hide (opB_4 h0 h1 h2 h3)
  have q0 : (o.kind == 0) = false := by simpa using h0
  have q1 : (o.kind == 1) = false := by simpa using h1
  have q2 : (o.kind == 2) = false := by simpa using h2
  have q3 : (o.kind == 3) = false := by simpa using h3
  clear h0 h1 h2 h3
  unfold opVal
  go_enter Try.func9, Try.ntmps9
  go_wp2_with fail
  refine (stampI_any _ o.atN o.atR).mono ?_
  rintro e w1 ⟨rfl, rfl⟩
  cases hs : stampB o.atN o.atR
  all_goals
    clear hs
    go_wp2_with fail
    go_ret
    exact ⟨by rw [unhide HF]; rfl, (by repeat (first | exact Below.refl _ _ | refine balloc ?_))⟩

/-- impl.OpOk, whatever it is asked. -/
theorem opI_any (w : World) (v : Value) (o : OpV) (h : RdOp w v o) :
    Calls Try.prog 9 #[v] w fun e w' => e = .returned (.bool (opB o)) ∧ Below w.heap.size w w' := by
  obtain ⟨k, n, t, rfl, hk, hn, ht⟩ := h
  obtain ⟨a1, c1, rfl, _, _⟩ := hk.shape
  obtain ⟨a2, c2, rfl, _, _⟩ := hn.shape
  obtain ⟨a3, c3, rfl, _, _⟩ := ht.shape
  by_cases k0 : o.kind = 0
  · exact opI_0 w o a1 a2 a3 c1 c2 c3 hk hn ht k0
  by_cases k1 : o.kind = 1
  · exact opI_1 w o a1 a2 a3 c1 c2 c3 hk hn ht k1
  by_cases k2 : o.kind = 2
  · exact opI_2 w o a1 a2 a3 c1 c2 c3 hk hn ht k2
  by_cases k3 : o.kind = 3
  · exact opI_3 w o a1 a2 a3 c1 c2 c3 hk hn ht k3
  exact opI_4 w o a1 a2 a3 c1 c2 c3 k0 k1 k2 k3
theorem opI_said : OpISaid := fun w o base k n t h _ => opI_any w _ o h.rd
end Go.Proofs.Ytcabolcfoijglaa
