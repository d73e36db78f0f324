/- spec.l4digit and spec.l4between, by their contracts. -/
import Derived.Test.YtjannojebngoeaaChecked
import Derived.Test.YtjannojebngoeaaBtM
import Derived.Test.YtjannojebngoeaaAppZ
namespace Go.Proofs.Ytjannojebngoeaa
open Go.RowKit
set_option linter.unusedVariables false
set_option maxRecDepth 100000

set_option maxHeartbeats 1600000 in
theorem digS_any (w : World) (v : Value) (l : List Int) (i : Nat) (h : Ints w v l) :
    Calls Try.prog 90 #[v, .int .i64 i] w fun e w' => e = .returned (.int .i64 (l.getD i 0)) ∧ w' = w := by
  have hm := h.2.1
  unfold maxLen at hm
  by_cases hi : i < l.length
  · obtain ⟨hok, _, ⟨rfl, rfl⟩ | ⟨x, cap, rfl, hc, rfl⟩ | ⟨b, off, cap, rfl, _, _, _, _, h5⟩⟩ := h
    · simp at hi
    · simp at hi
    have hcx := h5 i hi
    have hi' : (i : Int) < (l.length : Int) := by omega
    generalize l.getD i 0 = z at *
    clear h5
    go_enter Try.func90, Try.ntmps90
    go_wp2
    go_ret
    exact ⟨rfl, rfl⟩
  · obtain ⟨a, cap, rfl, _⟩ := h.shape
    have HZ := hide (show l.getD i 0 = 0 by simp [List.getD_eq_getElem?_getD, List.getElem?_eq_none (show l.length ≤ i by omega)])
    have hi' : ¬ (i : Int) < (l.length : Int) := by omega
    clear h
    rw [unhide HZ]
    go_enter Try.func90, Try.ntmps90
    go_wp2
    go_ret
    exact ⟨rfl, rfl⟩

/-- What is returned: the row and true, or nothing and false. -/
def BtAns (w w' : World) (e : Ending) (r : Option (List Int)) : Prop := ∃ v l, e = .returned (.tuple #[v, .bool r.isSome]) ∧ OwnZ w' w.heap.size v l ∧ Hid (r.getD [] = l) ∧ Below w.heap.size w w'

set_option maxHeartbeats 3200000 in
theorem btS_any (w : World) (u v : Value) (a b : List Int) (hu : Ints w u a) (hv : Ints w v b) (ra : ∀ i, 0 ≤ a.getD i 0 ∧ a.getD i 0 ≤ 999) (rb : ∀ i, 0 ≤ b.getD i 0 ∧ b.getD i 0 ≤ 999) :
    Calls Try.prog 63 #[u, v] w fun e w' => BtAns w w' e (bt a b) := by
  have HU := hide hu
  have HV := hide hv
  have HR := hide ra
  have HS := hide rb
  have hma := hu.2.1
  have hmb := hv.2.1
  unfold maxLen at hma hmb
  obtain ⟨a1, c1, rfl, _⟩ := hu.shape
  obtain ⟨a2, c2, rfl, _⟩ := hv.shape
  clear hu hv ra rb
  obtain ⟨z, hz⟩ : ∃ z, z = decide (b.length = 0) := ⟨_, rfl⟩
  have hz1 : ((b.length : Int) == 0) = z := by rw [hz]; by_cases h : b.length = 0 <;> simp [h]
  have HQ := hide (show bt a b = btGo a b 12 0 z [] by rw [hz]; rfl)
  clear hz
  go_enter Try.func63, Try.ntmps63
  go_wp2_with fail
  go_loopw [6, 7, 8] (fun o p i wr => ∃ (f k : Nat) (z : Bool) (out : List Int), k + f = 12 ∧ p = .bool z ∧ i = .int .i64 k ∧ OwnZ wr w.heap.size o out ∧ out.length = k ∧ Hid (bt a b = btGo a b f k z out) ∧ Below w.heap.size w wr) (fun _ _ i _ => 12 - (intOf i).toNat)
  case atStart => exact ⟨12, 0, z, [], rfl, rfl, rfl, ownz_nil _ _, rfl, HQ, Below.refl _ _⟩
  case round =>
    clear HQ hz1
    obtain ⟨f, k, z, out, hkf, rfl, rfl, ho, hol, HQ, hB⟩ := hrel
    cases f with
    | zero =>
      obtain rfl : k = 12 := by omega
      have HD := hide (show bt a b = none from unhide HQ)
      clear HQ
      go_wp2
      go_ret2
      exact ⟨.slice none 0 0, [], by rw [unhide HD]; rfl, ownz_nil _ _, hide (by rw [unhide HD]; rfl), hB⟩
    | succ f =>
      have hk : (k : Int) < 12 := by omega
      obtain ⟨lo, hlo⟩ : ∃ x, x = a.getD k 0 := ⟨_, rfl⟩
      obtain ⟨hi, hhi⟩ : ∃ x, x = hiB b k z := ⟨_, rfl⟩
      have r1 := unhide HR k
      have r2 : 0 ≤ hi ∧ hi ≤ 1000 := by rw [hhi]; unfold hiB; have := unhide HS k; split <;> omega
      rw [← hlo] at r1
      obtain ⟨r1, r1'⟩ := r1
      obtain ⟨r2, r2'⟩ := r2
      have HY := hide (fun (h : 1 < hi - lo) => (unhide HQ).trans (btGo_yes (by rw [← hlo, ← hhi]; exact h)))
      have HO := hide (fun (h : ¬ 1 < hi - lo) => (unhide HQ).trans (btGo_on (by rw [← hlo, ← hhi]; exact h)))
      rw [← hlo, ← hhi] at HY HO
      clear HQ
      have HB2 := hide (show z = false → hi = b.getD k 0 by intro hz; rw [hhi, hz]; rfl)
      have HB1 := hide (show z = true → hi = 1000 by intro hz; rw [hhi, hz]; rfl)
      clear hhi
      have HA := hide ((digS_any wr _ a k ((unhide HU).keep hB)))
      have HC := hide ((digS_any wr _ b k ((unhide HV).keep hB)))
      rw [← hlo] at HA
      clear hlo
      have hlast : ∀ x : Int, 0 ≤ x → x ≤ 1000 → Ints (wr.alloc (.cells #[.int .i64 x] 3)) (.slice (some ⟨wr.heap.size, 0, none⟩) 1 1) [x] := fun x h0 h1 => int_one wr x (by omega) (by omega)
      have HL := hide hlast
      clear hlast
      rcases Bool.eq_false_or_eq_true z with rfl | rfl
      · obtain rfl := unhide HB1 rfl
        clear HB1 HB2
        by_cases hc : 1 < 1000 - lo
        · have HD := hide (unhide HY hc)
          clear HY HO
          have hc' : decide (1 < 1000 - lo) = true := by simpa using hc
          have e2 : (lo + 1000).tdiv 2 = (lo + 1000) / 2 := by rw [Int.tdiv_eq_ediv_of_nonneg (by omega)]
          go_wp2_with fail
          refine (unhide HA).mono ?_
          rintro e w1 ⟨rfl, rfl⟩
          go_wp2_with (at_builtin; refine wpList_appZ rfl _ _ rfl w.heap.size _ out rfl (ho.alloc _) _ [(lo + 1000) / 2] rfl (by first | exact unhide HL ((lo + 1000) / 2) (by omega) (by omega) | (rw [e2]; exact unhide HL ((lo + 1000) / 2) (by omega) (by omega))) ?c1 ?c2 ?_)
          case c1 => first | omega | (simp; omega)
          case c2 => have := hB.size; first | omega | (simp; omega)
          intro v2 w2 ho2 hg2
          have hB2 : Below w.heap.size w w2 := bstepBy (hB.alloc hB.size _) hg2 (fun g hg => (ho.lt g hg).1)
          go_wp2
          go_ret2
          exact ⟨_, _, by rw [unhide HD]; rfl, ho2, hide (by rw [unhide HD]; rfl), hB2⟩
        · have HD := hide (unhide HO hc)
          clear HY HO
          have hc' : decide (1 < 1000 - lo) = false := by simpa using hc
          go_wp2_with fail
          refine (unhide HA).mono ?_
          rintro e w1 ⟨rfl, rfl⟩
          go_wp2_with (at_builtin; refine wpList_appZ rfl _ _ rfl w.heap.size _ out rfl (ho.alloc _) _ [lo] rfl (unhide HL lo (by omega) (by omega)) ?c1 ?c2 ?_)
          case c1 => first | omega | (simp; omega)
          case c2 => have := hB.size; first | omega | (simp; omega)
          intro v2 w2 ho2 hg2
          have hB2 : Below w.heap.size w w2 := bstepBy (hB.alloc hB.size _) hg2 (fun g hg => (ho.lt g hg).1)
          rcases Bool.eq_false_or_eq_true (decide (lo < 1000)) with hd | hd
          all_goals
            rw [hd] at HD
            go_wp2
            go_roundw
            case rel => exact ⟨f, k + 1, _, out ++ [lo], by omega, rfl, by go_num, ho2, by simp; omega, HD, hB2⟩
            case measure => simp [intOf]; omega
      · have hb := unhide HB2 rfl
        clear HB1 HB2
        rw [← hb] at HC
        clear hb
        by_cases hc : 1 < hi - lo
        · have HD := hide (unhide HY hc)
          clear HY HO
          have hc' : decide (1 < hi - lo) = true := by simpa using hc
          have e2 : (lo + hi).tdiv 2 = (lo + hi) / 2 := by rw [Int.tdiv_eq_ediv_of_nonneg (by omega)]
          go_wp2_with fail
          refine (unhide HA).mono ?_
          rintro e w1 ⟨rfl, rfl⟩
          go_wp2_with fail
          refine (unhide HC).mono ?_
          rintro e w1 ⟨rfl, rfl⟩
          go_wp2_with (at_builtin; refine wpList_appZ rfl _ _ rfl w.heap.size _ out rfl (ho.alloc _) _ [(lo + hi) / 2] rfl (by first | exact unhide HL ((lo + hi) / 2) (by omega) (by omega) | (rw [e2]; exact unhide HL ((lo + hi) / 2) (by omega) (by omega))) ?c1 ?c2 ?_)
          case c1 => first | omega | (simp; omega)
          case c2 => have := hB.size; first | omega | (simp; omega)
          intro v2 w2 ho2 hg2
          have hB2 : Below w.heap.size w w2 := bstepBy (hB.alloc hB.size _) hg2 (fun g hg => (ho.lt g hg).1)
          go_wp2
          go_ret2
          exact ⟨_, _, by rw [unhide HD]; rfl, ho2, hide (by rw [unhide HD]; rfl), hB2⟩
        · have HD := hide (unhide HO hc)
          clear HY HO
          have hc' : decide (1 < hi - lo) = false := by simpa using hc
          go_wp2_with fail
          refine (unhide HA).mono ?_
          rintro e w1 ⟨rfl, rfl⟩
          go_wp2_with fail
          refine (unhide HC).mono ?_
          rintro e w1 ⟨rfl, rfl⟩
          go_wp2_with (at_builtin; refine wpList_appZ rfl _ _ rfl w.heap.size _ out rfl (ho.alloc _) _ [lo] rfl (unhide HL lo (by omega) (by omega)) ?c1 ?c2 ?_)
          case c1 => first | omega | (simp; omega)
          case c2 => have := hB.size; first | omega | (simp; omega)
          intro v2 w2 ho2 hg2
          have hB2 : Below w.heap.size w w2 := bstepBy (hB.alloc hB.size _) hg2 (fun g hg => (ho.lt g hg).1)
          rcases Bool.eq_false_or_eq_true (decide (lo < hi)) with hd | hd
          all_goals
            rw [hd] at HD
            go_wp2
            go_roundw
            case rel => exact ⟨f, k + 1, _, out ++ [lo], by omega, rfl, by go_num, ho2, by simp; omega, HD, hB2⟩
            case measure => simp [intOf]; omega
end Go.Proofs.Ytjannojebngoeaa
