/- The law on numbers and texts, walked by its callees' contracts: it returns true and writes nothing that was there. -/
import Derived.Test.YtfblgdhbkakhcaaBackM
import Derived.Test.YtfblgdhbkakhcaaDraw1
import Derived.Test.YtfblgdhbkakhcaaSame
import Derived.Test.YtfblgdhbkakhcaaTextP
import Derived.Test.YtfblgdhbkakhcaaTextG
import Derived.Deep.RegionWith
import Derived.Deep.QuietTactic
import Derived.BigQuiet
namespace Go.Proofs.Ytfblgdhbkakhcaa
open Go.RowKit
set_option linter.unusedVariables false

/-- The head of a readable row can be read. -/
theorem Byt.takes {w : World} {b off cap : Nat} {l : List Int} (h : Byt w (.slice (some ⟨b, off, none⟩) l.length cap) l) (h0 : l ≠ []) (j : Nat) (hj : j ≤ l.length) : Byt w (.slice (some ⟨b, off, none⟩) j cap) (l.take j) := by
  have hl : (l.take j).length = j := by simp; omega
  obtain ⟨hok, hm, ⟨e, _⟩ | ⟨x, c, e, hc, e2⟩ | ⟨b', off', cap', e, h1, h2, h3, h4, h5⟩⟩ := h
  · cases e
  · exact absurd e2 h0
  simp only [Value.slice.injEq, Option.some.injEq, Addr.mk.injEq, true_and, and_true] at e
  obtain ⟨⟨rfl, rfl⟩, rfl⟩ := e
  by_cases hz : j = 0
  · subst hz
    exact ⟨by simpa using okB_nil, by simp [maxLen], .inr (.inl ⟨_, cap, rfl, h2, by simp⟩)⟩
  · refine ⟨hok.take j, by omega, .inr (.inr ⟨b, off, cap, by rw [hl], by omega, h2, fun e => by rw [e] at hl; simp at hl; omega, h4, fun i hi => ?_⟩)⟩
    rw [h5 i (by omega), List.getD_eq_getElem?_getD, List.getD_eq_getElem?_getD, List.getElem?_take, if_pos (by omega)]

theorem num_case (lb : List Int) (n : Int) : ∃ m next, getN (putAll lb n ++ [7]) (lb.length : Int) = (m, next) ∧
      ((decide (0 ≤ n) = false) ∨ (decide (0 ≤ n) = true ∧ decide (n ≤ 2147483647) = false) ∨ (decide (0 ≤ n) = true ∧ decide (n ≤ 2147483647) = true ∧ (m != n) = false ∧ (next != ((putAll lb n).length : Int)) = false)) := by
  refine ⟨(getN (putAll lb n ++ [7]) (lb.length : Int)).1, (getN (putAll lb n ++ [7]) (lb.length : Int)).2, rfl, ?_⟩
  by_cases a1 : 0 ≤ n
  · by_cases a2 : n ≤ 2147483647
    · have hback : getN (putAll lb n ++ [7]) (lb.length : Int) = (n, ((putAll lb n).length : Int)) := by
        rw [putAll_in a1 a2, List.append_assoc, getN_some (n := n) (k := (putN n).length)]
        · simp
        · rw [List.drop_left]; exact num_back a1 a2 [7]
      rw [hback]
      right; right
      simp [a1, a2]
    · right; left; simp [a1]; omega
  · left; simp; omega

theorem just_case {l : List Int} (hok : okB l) (p : Int) : getN l p = (0, -1) ∨ ∃ q k cnt : Nat, p = (q : Int) ∧ getN l p = ((k : Int), ((q + cnt : Nat) : Int)) ∧ q + cnt ≤ l.length ∧ 1 ≤ cnt ∧ k ≤ 2147483647 ∧ putAll (l.take q) (k : Int) = l.take (q + cnt) := by
  by_cases h0 : p < 0
  · exact .inl (getN_neg h0)
  · obtain ⟨q, rfl⟩ := Int.eq_ofNat_of_zero_le (show 0 ≤ p by omega)
    cases hq : num (l.drop q) with
    | none => exact .inl (getN_none hq)
    | some y =>
      obtain ⟨n, cnt⟩ := y
      obtain ⟨a1, a2, a3, a4, a5⟩ := num_some (hok.drop q) hq
      obtain ⟨k, rfl⟩ := Int.eq_ofNat_of_zero_le a1
      have hlen : (l.drop q).length = l.length - q := by simp
      have hj := num_just (hok.drop q) hq
      refine .inr ⟨q, k, cnt, rfl, ?_, by omega, by omega, by omega, ?_⟩
      · rw [getN_some hq]; simp
      · rw [putAll_in (by omega) (by omega), ← hj, List.take_add]

set_option maxHeartbeats 3200000 in
theorem law_numbers (w : World) (v : Value) (l : List Int) (h : Byt w v l) :
    Calls Try.prog 3 #[v] w fun e w' => e = .returned (.bool true) ∧ Below w.heap.size w w' := by
  obtain ⟨a, cap, rfl, hlc, hcm⟩ := h.shape
  go_enter Try.func3, Try.ntmps3
  -- numbers: what was put is got
  go_wp2_with fail
  refine (drawPutNum_any w _ l h).mono ?_
  rintro e w1 ⟨b, n, rfl, hn0, hn9, lb, hob, hlb, hB1⟩
  obtain ⟨ab, cb, hvb, _, _⟩ := hob.byt.shape
  subst hvb
  go_wp2_with fail
  refine (putI_any w1 _ lb n hob.byt (by omega)).mono ?_
  rintro e w2 ⟨x, rfl, hx, hB2⟩
  have hA2 := bstep hB1 hB2
  have hxl := putAll_len lb n
  obtain ⟨ax, cx, hvx, _, _⟩ := hx.byt.shape
  subst hvx
  have hx3 := hx.alloc (.cells #[.int .u8 7] 5)
  go_wp2_with (at_builtin; refine wpList_app rfl _ _ rfl w1.heap.size _ (putAll lb n) rfl hx3 _ [7] rfl (byt_one w2 7 (by omega) (by omega)) ?c1 ?c2 ?_)
  case c1 => simp; omega
  case c2 => have := hB2.size; simp; omega
  intro y w3 hy hg3
  have hA3 : Below w.heap.size w w3 := bstepBy (bstep hA2 ((Below.refl _ _).alloc (Nat.le_refl _) _)) hg3 (fun g hg => by have := hx.base_le g hg; have := hB1.size; omega)
  clear hg3 hx3
  go_wp2_with fail
  refine (getI_any w3 y (putAll lb n ++ [7]) (lb.length : Int) hy.byt).mono ?_
  rintro e w4 ⟨rfl, rfl⟩
  obtain ⟨m, next, hgm, hcase⟩ := num_case lb n
  rw [hgm]
  generalize putAll lb n = px at *
  have hA4 := hA3
  clear hgm hx hy hob hA3 hA2 hB1 hB2 hn0 hn9
  rcases hcase with d1 | ⟨d1, d2⟩ | ⟨d1, d2, d3, d4⟩
  all_goals
    go_wp2_with fail
    refine (drawPutText_any w4 _ l (h.keep hA4)).mono ?_
    rintro e w5 ⟨c, tv, rfl, lc, lt, hc, hlc3, htv, hlt, hB5⟩
    have hA5 := bstep hA4 hB5
    obtain ⟨ac, cc, hvc, _, _⟩ := hc.shape
    obtain ⟨at', ct, hvt, _, _⟩ := htv.shape
    subst hvc hvt
    go_wp2_with fail
    refine (putTI_any w5 _ _ lc lt hc htv (by omega)).mono ?_
    rintro e w6 ⟨yv, rfl, hyo, hB6⟩
    have hA6 := bstep hA5 hB6
    obtain ⟨ay, cy, hvy, _, _⟩ := hyo.byt.shape
    subst hvy
    go_wp2_with fail
    refine (getTI_any w6 _ (putT lc lt) (lc.length : Int) hyo.byt).mono ?_
    rintro e w7 ⟨uv, rfl, huo, hB7⟩
    have hA7 := bstep hA6 hB7
    have htv7 := (htv.keep hB6).keep hB7
    by_cases ht30 : lt.length ≤ 30
    · have ht30' : (lt.length : Int) ≤ 30 := by omega
      have hb := getT_back (l := lc) ht30
      rw [hb] at huo ⊢
      generalize putT lc lt = py at *
      clear hb
      go_wp2_with fail
      refine (same_any w7 _ _ lt lt huo.byt htv7).mono ?_
      rintro e w8 ⟨rfl, rfl⟩
      have hdd : decide (lt = lt) = true := by simp
      rw [hdd]
      clear hdd hyo huo htv htv7 hc
      go_wp2_with fail
      refine (drawGetNum_any w8 _ l (h.keep hA7)).mono ?_
      rintro e w9 ⟨av, from', rfl, hf0, hf9, la, hla, hla1, hB9⟩
      have hA9 := bstep hA7 hB9
      obtain ⟨aa, ca, hva, hca1, hca2⟩ := hla.shape
      subst hva
      go_wp2_with fail
      refine (getI_any w9 _ la from' hla).mono ?_
      rintro e w10 ⟨rfl, rfl⟩
      rcases just_case hla.1 from' with e0 | ⟨q, k, cnt, rfl, e0, hq, hc1, hk, hj⟩
      · rw [e0]
        clear hla
        go_wp2
        go_quiet (fail)
        go_wp2
        go_ret
        exact ⟨rfl, below_drewN hA9 _⟩
      · rw [e0]
        have hne : la ≠ [] := by intro e; subst e; simp at hq; omega
        have hla' := hla
        obtain ⟨_, _, ⟨e, _⟩ | ⟨x, c, e, hc, e2⟩ | ⟨b', off', cap', e, h1, h2, h3, h4, h5⟩⟩ := hla'
        · exact absurd (by assumption) hne
        · exact absurd e2 hne
        simp only [Value.slice.injEq, true_and] at e
        obtain ⟨rfl, rfl⟩ := e
        have ht1 := hla.takes hne q (by omega)
        have ht2 := hla.takes hne (q + cnt) (by omega)
        have hjd : decide (putAll (la.take q) (k : Int) = la.take (q + cnt)) = true := by simp [hj]
        have hl1 : (la.take q).length ≤ 60000000 := by simp; omega
        generalize hs : q + cnt = s at *
        have b0 : (0 : Int) ≤ (q : Int) := by omega
        have b1 : (q : Int) ≤ (ca : Int) := by omega
        have b2 : (0 : Int) ≤ (s : Int) := by omega
        have b3 : (s : Int) ≤ (ca : Int) := by omega
        have b4 : decide ((s : Int) < 0) = false := by simp
        have b5 : ¬ ca = 0 := by omega
        have HJ := hide hjd
        clear hs hj hjd h5 h3 hla e0
        generalize la.take q = lq at *
        generalize la.take s = ls at *
        go_wp2
        go_region_held3 (fun _ => True) (trivial) (first | (go_at_call 9; refine (putI_any _ _ lq (k : Int) (by exact ht1.keep ((Below.refl _ _).drew)) hl1).mono ?_; rintro e w11 ⟨pv, rfl, hp, hB11⟩) | (go_at_call 14; refine (same_any _ _ _ (putAll lq (k : Int)) ls (by exact hp.byt) (by exact (ht2.keep ((Below.refl _ _).drew)).keep hB11)).mono ?_; rintro e w12 ⟨rfl, rfl⟩; rw [unhide HJ]))
        all_goals
          go_wp2
          go_ret
          exact ⟨rfl, bstep (Below.drew hA9) hB11⟩
    · have ht30' : ¬ (lt.length : Int) ≤ 30 := by omega
      generalize (getT (putT lc lt) (lc.length : Int)).2 = gz at *
      generalize (getT (putT lc lt) (lc.length : Int)).1 = gy at *
      generalize putT lc lt = py at *
      clear hyo huo htv htv7 hc
      go_wp2_with fail
      refine (drawGetNum_any w7 _ l (h.keep hA7)).mono ?_
      rintro e w9 ⟨av, from', rfl, hf0, hf9, la, hla, hla1, hB9⟩
      have hA9 := bstep hA7 hB9
      obtain ⟨aa, ca, hva, hca1, hca2⟩ := hla.shape
      subst hva
      go_wp2_with fail
      refine (getI_any w9 _ la from' hla).mono ?_
      rintro e w10 ⟨rfl, rfl⟩
      rcases just_case hla.1 from' with e0 | ⟨q, k, cnt, rfl, e0, hq, hc1, hk, hj⟩
      · rw [e0]
        clear hla
        go_wp2
        go_quiet (fail)
        go_wp2
        go_ret
        exact ⟨rfl, below_drewN hA9 _⟩
      · rw [e0]
        have hne : la ≠ [] := by intro e; subst e; simp at hq; omega
        have hla' := hla
        obtain ⟨_, _, ⟨e, _⟩ | ⟨x, c, e, hc, e2⟩ | ⟨b', off', cap', e, h1, h2, h3, h4, h5⟩⟩ := hla'
        · exact absurd (by assumption) hne
        · exact absurd e2 hne
        simp only [Value.slice.injEq, true_and] at e
        obtain ⟨rfl, rfl⟩ := e
        have ht1 := hla.takes hne q (by omega)
        have ht2 := hla.takes hne (q + cnt) (by omega)
        have hjd : decide (putAll (la.take q) (k : Int) = la.take (q + cnt)) = true := by simp [hj]
        have hl1 : (la.take q).length ≤ 60000000 := by simp; omega
        generalize hs : q + cnt = s at *
        have b0 : (0 : Int) ≤ (q : Int) := by omega
        have b1 : (q : Int) ≤ (ca : Int) := by omega
        have b2 : (0 : Int) ≤ (s : Int) := by omega
        have b3 : (s : Int) ≤ (ca : Int) := by omega
        have b4 : decide ((s : Int) < 0) = false := by simp
        have b5 : ¬ ca = 0 := by omega
        have HJ := hide hjd
        clear hs hj hjd h5 h3 hla e0
        generalize la.take q = lq at *
        generalize la.take s = ls at *
        go_wp2
        go_region_held3 (fun _ => True) (trivial) (first | (go_at_call 9; refine (putI_any _ _ lq (k : Int) (by exact ht1.keep ((Below.refl _ _).drew)) hl1).mono ?_; rintro e w11 ⟨pv, rfl, hp, hB11⟩) | (go_at_call 14; refine (same_any _ _ _ (putAll lq (k : Int)) ls (by exact hp.byt) (by exact (ht2.keep ((Below.refl _ _).drew)).keep hB11)).mono ?_; rintro e w12 ⟨rfl, rfl⟩; rw [unhide HJ]))
        all_goals
          go_wp2
          go_ret
          exact ⟨rfl, bstep (Below.drew hA9) hB11⟩
end Go.Proofs.Ytfblgdhbkakhcaa
