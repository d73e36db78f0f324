/- Own texts joined: BtI, KeM, RegI, EvT, Ev. -/
import Derived.Test.YtpijenlmfmknnaaGreatDoorJa
import Derived.OrdersIn
import Derived.OwnWalkIn
import GoSem.Core.Code
import Derived.Defers

/- spec.Between and impl.Between answer what the plain reckoning says. -/
namespace Go.Proofs.YtpijenlmfmknnaaGreatDoor
open Go.RowKit
set_option linter.unusedVariables false
set_option maxRecDepth 100000

theorem bad_cases (a b : List Int) :
    (0 < a.length ∧ keyB a = false ∧ btAll a b = none) ∨
    ((¬ 0 < a.length ∨ (0 < a.length ∧ keyB a = true)) ∧ 0 < b.length ∧ keyB b = false ∧ btAll a b = none) ∨
    ((¬ 0 < a.length ∨ (0 < a.length ∧ keyB a = true)) ∧ 0 < b.length ∧ keyB b = true ∧ klB a b = false ∧ btAll a b = none) ∨
    ((¬ 0 < a.length ∨ (0 < a.length ∧ keyB a = true)) ∧ (¬ 0 < b.length ∨ (0 < b.length ∧ keyB b = true ∧ klB a b = true)) ∧ btAll a b = bt a b ∧ (decide (0 < a.length) && !keyB a) = false ∧ (decide (0 < b.length) && !keyB b) = false) := by
  unfold btAll btBad
  by_cases h1 : 0 < a.length <;> by_cases h2 : 0 < b.length <;> cases keyB a <;> cases keyB b <;> cases klB a b <;> simp [h1, h2]

theorem bt_none {w w' : World} {r : Option (List Int)} (h : r = none) (hB : Below w.heap.size w w') : BtAns w w' (.returned (.tuple #[.slice none 0 0, .bool false])) r :=
  ⟨.slice none 0 0, [], by rw [h]; rfl, ownz_nil _ _, hide (by rw [h]; rfl), hB⟩

set_option maxHeartbeats 6400000 in
theorem btI_all (w : World) (u v : Value) (a b : List Int) (hu : Ints w u a) (hv : Ints w v b) :
    Calls Tryz.prog 6 #[u, v] w fun e w' => BtAns w w' e (btAll a b) := by
  have HU := hide hu
  have HV := hide hv
  have HKA := hide (keyI_b w u a hu)
  have HKB := hide (keyI_b w v b hv)
  have HKL := hide (klI_any w u v a b hu hv)
  have hma := hu.2.1
  have hmb := hv.2.1
  unfold maxLen at hma hmb
  obtain ⟨a1, c1, rfl, _⟩ := hu.shape
  obtain ⟨a2, c2, rfl, _⟩ := hv.shape
  clear hu hv
  rcases bad_cases a b with ⟨p1, p2, hn⟩ | ⟨p0, p1, p2, hn⟩ | ⟨p0, p1, p2, p3, hn⟩ | ⟨p0, p1, hn, ra, rb⟩
  · have HN := hide hn
    clear hn
    rw [p2] at HKA
    go_enter Tryz.func6, Tryz.ntmps6
    go_wp2_with fail
    refine (unhide HKA).mono ?_
    rintro e w1 ⟨rfl, ew⟩
    obtain rfl := ew.symm
    clear ew
    go_wp2_with fail
    go_ret2
    exact bt_none (unhide HN) (Below.refl _ _)
  · have HN := hide hn
    clear hn
    rw [p2] at HKB
    rcases p0 with p0 | ⟨p0, q0⟩
    · go_enter Tryz.func6, Tryz.ntmps6
      go_wp2_with fail
      refine (unhide HKB).mono ?_
      rintro e w1 ⟨rfl, ew⟩
      obtain rfl := ew.symm
      clear ew
      go_wp2_with fail
      go_ret2
      exact bt_none (unhide HN) (Below.refl _ _)
    · rw [q0] at HKA
      go_enter Tryz.func6, Tryz.ntmps6
      go_wp2_with fail
      refine (unhide HKA).mono ?_
      rintro e w1 ⟨rfl, ew⟩
      obtain rfl := ew.symm
      clear ew
      go_wp2_with fail
      refine (unhide HKB).mono ?_
      rintro e w1 ⟨rfl, ew⟩
      obtain rfl := ew.symm
      clear ew
      go_wp2_with fail
      go_ret2
      exact bt_none (unhide HN) (Below.refl _ _)
  · have HN := hide hn
    clear hn
    rw [p2] at HKB
    rw [p3] at HKL
    rcases p0 with p0 | ⟨p0, q0⟩
    · go_enter Tryz.func6, Tryz.ntmps6
      go_wp2_with fail
      refine (unhide HKB).mono ?_
      rintro e w1 ⟨rfl, ew⟩
      obtain rfl := ew.symm
      clear ew
      go_wp2_with fail
      refine (unhide HKL).mono ?_
      rintro e w1 ⟨rfl, hB1⟩
      go_wp2_with fail
      go_ret2
      exact bt_none (unhide HN) hB1
    · rw [q0] at HKA
      go_enter Tryz.func6, Tryz.ntmps6
      go_wp2_with fail
      refine (unhide HKA).mono ?_
      rintro e w1 ⟨rfl, ew⟩
      obtain rfl := ew.symm
      clear ew
      go_wp2_with fail
      refine (unhide HKB).mono ?_
      rintro e w1 ⟨rfl, ew⟩
      obtain rfl := ew.symm
      clear ew
      go_wp2_with fail
      refine (unhide HKL).mono ?_
      rintro e w1 ⟨rfl, hB1⟩
      go_wp2_with fail
      go_ret2
      exact bt_none (unhide HN) hB1
  · have HR := hide (key_rng ra)
    have HS := hide (key_rng rb)
    have HN := hide hn
    clear hn ra rb
    rw [unhide HN]
    clear HN
    obtain ⟨z, hz⟩ : ∃ z, z = decide (b.length = 0) := ⟨_, rfl⟩
    have hz1 : ((b.length : Int) == 0) = z := by rw [hz]; by_cases h : b.length = 0 <;> simp [h]
    have HQ := hide (show bt a b = btGo a b 12 0 z [] by rw [hz]; rfl)
    clear hz
    rcases p0 with p0 | ⟨p0, q0⟩ <;> rcases p1 with p1 | ⟨p1, q1, q2⟩
    · have hB1 := Below.refl w.heap.size w
      go_enter Tryz.func6, Tryz.ntmps6
      go_wp2_with fail
      go_loopw [6, 7, 38] (fun o p i wr => ∃ (f k : Nat) (z : Bool) (out : List Int), k + f = 12 ∧ p = .bool z ∧ i = .int .i64 k ∧ OwnZ wr w.heap.size o out ∧ out.length = k ∧ Hid (bt a b = btGo a b f k z out) ∧ Below w.heap.size w wr) (fun _ _ i _ => 12 - (intOf i).toNat)
      case atStart => exact ⟨12, 0, z, [], rfl, rfl, rfl, ownz_nil _ _, rfl, HQ, hB1⟩
      case round =>
        clear HQ hz1
        obtain ⟨f, k, z, out, hkf, rfl, rfl, ho, hol, HQ, hB⟩ := hrel
        cases f with
        | zero =>
          obtain rfl : k = 12 := by omega
          have HD := hide (show bt a b = none from unhide HQ)
          clear HQ
          go_wp2
          go_ret2
          exact ⟨.slice none 0 0, [], by rw [unhide HD]; rfl, ownz_nil _ _, hide (by rw [unhide HD]; rfl), hB⟩
        | succ f =>
          have hk : (k : Int) < 12 := by omega
          obtain ⟨lo, hlo⟩ : ∃ x, x = a.getD k 0 := ⟨_, rfl⟩
          obtain ⟨hi, hhi⟩ : ∃ x, x = hiB b k z := ⟨_, rfl⟩
          have r1 := unhide HR k
          have r2 : 0 ≤ hi ∧ hi ≤ 1000 := by rw [hhi]; unfold hiB; have := unhide HS k; split <;> omega
          rw [← hlo] at r1
          obtain ⟨r1, r1'⟩ := r1
          obtain ⟨r2, r2'⟩ := r2
          have HY := hide (fun (h : 1 < hi - lo) => (unhide HQ).trans (btGo_yes (by rw [← hlo, ← hhi]; exact h)))
          have HO := hide (fun (h : ¬ 1 < hi - lo) => (unhide HQ).trans (btGo_on (by rw [← hlo, ← hhi]; exact h)))
          rw [← hlo, ← hhi] at HY HO
          clear HQ
          have HB2 := hide (show z = false → hi = b.getD k 0 by intro hz; rw [hhi, hz]; rfl)
          have HB1 := hide (show z = true → hi = 1000 by intro hz; rw [hhi, hz]; rfl)
          clear hhi
          have HA := hide ((digI_any wr _ a k ((unhide HU).keep hB)))
          have HC := hide ((digI_any wr _ b k ((unhide HV).keep hB)))
          rw [← hlo] at HA
          clear hlo
          have hlast : ∀ x : Int, 0 ≤ x → x ≤ 1000 → Ints (wr.alloc (.cells #[.int .i64 x] 3)) (.slice (some ⟨wr.heap.size, 0, none⟩) 1 1) [x] := fun x h0 h1 => int_one wr x (by omega) (by omega)
          have HL := hide hlast
          clear hlast
          rcases Bool.eq_false_or_eq_true z with rfl | rfl
          · obtain rfl := unhide HB1 rfl
            clear HB1 HB2
            by_cases hc : 1 < 1000 - lo
            · have HD := hide (unhide HY hc)
              clear HY HO
              have hc' : decide (1 < 1000 - lo) = true := by simpa using hc
              have e2 : (lo + 1000).tdiv 2 = (lo + 1000) / 2 := by rw [Int.tdiv_eq_ediv_of_nonneg (by omega)]
              go_wp2_with fail
              refine (unhide HA).mono ?_
              rintro e w1 ⟨rfl, rfl⟩
              go_wp2_with (at_builtin; refine wpList_appZ rfl _ _ rfl w.heap.size _ out rfl (ho.alloc _) _ [(lo + 1000) / 2] rfl (by first | exact unhide HL ((lo + 1000) / 2) (by omega) (by omega) | (rw [e2]; exact unhide HL ((lo + 1000) / 2) (by omega) (by omega))) ?c1 ?c2 ?_)
              case c1 => first | omega | (simp; omega)
              case c2 => have := hB.size; first | omega | (simp; omega)
              intro v2 w2 ho2 hg2
              have hB2 : Below w.heap.size w w2 := bstepBy (hB.alloc hB.size _) hg2 (fun g hg => (ho.lt g hg).1)
              go_wp2
              go_ret2
              exact ⟨_, _, by rw [unhide HD]; rfl, ho2, hide (by rw [unhide HD]; rfl), hB2⟩
            · have HD := hide (unhide HO hc)
              clear HY HO
              have hc' : decide (1 < 1000 - lo) = false := by simpa using hc
              go_wp2_with fail
              refine (unhide HA).mono ?_
              rintro e w1 ⟨rfl, rfl⟩
              go_wp2_with (at_builtin; refine wpList_appZ rfl _ _ rfl w.heap.size _ out rfl (ho.alloc _) _ [lo] rfl (unhide HL lo (by omega) (by omega)) ?c1 ?c2 ?_)
              case c1 => first | omega | (simp; omega)
              case c2 => have := hB.size; first | omega | (simp; omega)
              intro v2 w2 ho2 hg2
              have hB2 : Below w.heap.size w w2 := bstepBy (hB.alloc hB.size _) hg2 (fun g hg => (ho.lt g hg).1)
              rcases Bool.eq_false_or_eq_true (decide (lo < 1000)) with hd | hd
              all_goals
                rw [hd] at HD
                go_wp2
                go_roundw
                case rel => exact ⟨f, k + 1, _, out ++ [lo], by omega, rfl, by go_num, ho2, by simp; omega, HD, hB2⟩
                case measure => simp [intOf]; omega
          · have hb := unhide HB2 rfl
            clear HB1 HB2
            rw [← hb] at HC
            clear hb
            by_cases hc : 1 < hi - lo
            · have HD := hide (unhide HY hc)
              clear HY HO
              have hc' : decide (1 < hi - lo) = true := by simpa using hc
              have e2 : (lo + hi).tdiv 2 = (lo + hi) / 2 := by rw [Int.tdiv_eq_ediv_of_nonneg (by omega)]
              go_wp2_with fail
              refine (unhide HA).mono ?_
              rintro e w1 ⟨rfl, rfl⟩
              go_wp2_with fail
              refine (unhide HC).mono ?_
              rintro e w1 ⟨rfl, rfl⟩
              go_wp2_with (at_builtin; refine wpList_appZ rfl _ _ rfl w.heap.size _ out rfl (ho.alloc _) _ [(lo + hi) / 2] rfl (by first | exact unhide HL ((lo + hi) / 2) (by omega) (by omega) | (rw [e2]; exact unhide HL ((lo + hi) / 2) (by omega) (by omega))) ?c1 ?c2 ?_)
              case c1 => first | omega | (simp; omega)
              case c2 => have := hB.size; first | omega | (simp; omega)
              intro v2 w2 ho2 hg2
              have hB2 : Below w.heap.size w w2 := bstepBy (hB.alloc hB.size _) hg2 (fun g hg => (ho.lt g hg).1)
              go_wp2
              go_ret2
              exact ⟨_, _, by rw [unhide HD]; rfl, ho2, hide (by rw [unhide HD]; rfl), hB2⟩
            · have HD := hide (unhide HO hc)
              clear HY HO
              have hc' : decide (1 < hi - lo) = false := by simpa using hc
              go_wp2_with fail
              refine (unhide HA).mono ?_
              rintro e w1 ⟨rfl, rfl⟩
              go_wp2_with fail
              refine (unhide HC).mono ?_
              rintro e w1 ⟨rfl, rfl⟩
              go_wp2_with (at_builtin; refine wpList_appZ rfl _ _ rfl w.heap.size _ out rfl (ho.alloc _) _ [lo] rfl (unhide HL lo (by omega) (by omega)) ?c1 ?c2 ?_)
              case c1 => first | omega | (simp; omega)
              case c2 => have := hB.size; first | omega | (simp; omega)
              intro v2 w2 ho2 hg2
              have hB2 : Below w.heap.size w w2 := bstepBy (hB.alloc hB.size _) hg2 (fun g hg => (ho.lt g hg).1)
              rcases Bool.eq_false_or_eq_true (decide (lo < hi)) with hd | hd
              all_goals
                rw [hd] at HD
                go_wp2
                go_roundw
                case rel => exact ⟨f, k + 1, _, out ++ [lo], by omega, rfl, by go_num, ho2, by simp; omega, HD, hB2⟩
                case measure => simp [intOf]; omega
    · rw [q1] at HKB
      rw [q2] at HKL
      go_enter Tryz.func6, Tryz.ntmps6
      go_wp2_with fail
      refine (unhide HKB).mono ?_
      rintro e w1 ⟨rfl, ew⟩
      obtain rfl := ew.symm
      clear ew
      go_wp2_with fail
      refine (unhide HKL).mono ?_
      rintro e w1 ⟨rfl, hB1⟩
      go_wp2_with fail
      go_loopw [6, 7, 38] (fun o p i wr => ∃ (f k : Nat) (z : Bool) (out : List Int), k + f = 12 ∧ p = .bool z ∧ i = .int .i64 k ∧ OwnZ wr w.heap.size o out ∧ out.length = k ∧ Hid (bt a b = btGo a b f k z out) ∧ Below w.heap.size w wr) (fun _ _ i _ => 12 - (intOf i).toNat)
      case atStart => exact ⟨12, 0, z, [], rfl, rfl, rfl, ownz_nil _ _, rfl, HQ, hB1⟩
      case round =>
        clear HQ hz1
        obtain ⟨f, k, z, out, hkf, rfl, rfl, ho, hol, HQ, hB⟩ := hrel
        cases f with
        | zero =>
          obtain rfl : k = 12 := by omega
          have HD := hide (show bt a b = none from unhide HQ)
          clear HQ
          go_wp2
          go_ret2
          exact ⟨.slice none 0 0, [], by rw [unhide HD]; rfl, ownz_nil _ _, hide (by rw [unhide HD]; rfl), hB⟩
        | succ f =>
          have hk : (k : Int) < 12 := by omega
          obtain ⟨lo, hlo⟩ : ∃ x, x = a.getD k 0 := ⟨_, rfl⟩
          obtain ⟨hi, hhi⟩ : ∃ x, x = hiB b k z := ⟨_, rfl⟩
          have r1 := unhide HR k
          have r2 : 0 ≤ hi ∧ hi ≤ 1000 := by rw [hhi]; unfold hiB; have := unhide HS k; split <;> omega
          rw [← hlo] at r1
          obtain ⟨r1, r1'⟩ := r1
          obtain ⟨r2, r2'⟩ := r2
          have HY := hide (fun (h : 1 < hi - lo) => (unhide HQ).trans (btGo_yes (by rw [← hlo, ← hhi]; exact h)))
          have HO := hide (fun (h : ¬ 1 < hi - lo) => (unhide HQ).trans (btGo_on (by rw [← hlo, ← hhi]; exact h)))
          rw [← hlo, ← hhi] at HY HO
          clear HQ
          have HB2 := hide (show z = false → hi = b.getD k 0 by intro hz; rw [hhi, hz]; rfl)
          have HB1 := hide (show z = true → hi = 1000 by intro hz; rw [hhi, hz]; rfl)
          clear hhi
          have HA := hide ((digI_any wr _ a k ((unhide HU).keep hB)))
          have HC := hide ((digI_any wr _ b k ((unhide HV).keep hB)))
          rw [← hlo] at HA
          clear hlo
          have hlast : ∀ x : Int, 0 ≤ x → x ≤ 1000 → Ints (wr.alloc (.cells #[.int .i64 x] 3)) (.slice (some ⟨wr.heap.size, 0, none⟩) 1 1) [x] := fun x h0 h1 => int_one wr x (by omega) (by omega)
          have HL := hide hlast
          clear hlast
          rcases Bool.eq_false_or_eq_true z with rfl | rfl
          · obtain rfl := unhide HB1 rfl
            clear HB1 HB2
            by_cases hc : 1 < 1000 - lo
            · have HD := hide (unhide HY hc)
              clear HY HO
              have hc' : decide (1 < 1000 - lo) = true := by simpa using hc
              have e2 : (lo + 1000).tdiv 2 = (lo + 1000) / 2 := by rw [Int.tdiv_eq_ediv_of_nonneg (by omega)]
              go_wp2_with fail
              refine (unhide HA).mono ?_
              rintro e w1 ⟨rfl, rfl⟩
              go_wp2_with (at_builtin; refine wpList_appZ rfl _ _ rfl w.heap.size _ out rfl (ho.alloc _) _ [(lo + 1000) / 2] rfl (by first | exact unhide HL ((lo + 1000) / 2) (by omega) (by omega) | (rw [e2]; exact unhide HL ((lo + 1000) / 2) (by omega) (by omega))) ?c1 ?c2 ?_)
              case c1 => first | omega | (simp; omega)
              case c2 => have := hB.size; first | omega | (simp; omega)
              intro v2 w2 ho2 hg2
              have hB2 : Below w.heap.size w w2 := bstepBy (hB.alloc hB.size _) hg2 (fun g hg => (ho.lt g hg).1)
              go_wp2
              go_ret2
              exact ⟨_, _, by rw [unhide HD]; rfl, ho2, hide (by rw [unhide HD]; rfl), hB2⟩
            · have HD := hide (unhide HO hc)
              clear HY HO
              have hc' : decide (1 < 1000 - lo) = false := by simpa using hc
              go_wp2_with fail
              refine (unhide HA).mono ?_
              rintro e w1 ⟨rfl, rfl⟩
              go_wp2_with (at_builtin; refine wpList_appZ rfl _ _ rfl w.heap.size _ out rfl (ho.alloc _) _ [lo] rfl (unhide HL lo (by omega) (by omega)) ?c1 ?c2 ?_)
              case c1 => first | omega | (simp; omega)
              case c2 => have := hB.size; first | omega | (simp; omega)
              intro v2 w2 ho2 hg2
              have hB2 : Below w.heap.size w w2 := bstepBy (hB.alloc hB.size _) hg2 (fun g hg => (ho.lt g hg).1)
              rcases Bool.eq_false_or_eq_true (decide (lo < 1000)) with hd | hd
              all_goals
                rw [hd] at HD
                go_wp2
                go_roundw
                case rel => exact ⟨f, k + 1, _, out ++ [lo], by omega, rfl, by go_num, ho2, by simp; omega, HD, hB2⟩
                case measure => simp [intOf]; omega
          · have hb := unhide HB2 rfl
            clear HB1 HB2
            rw [← hb] at HC
            clear hb
            by_cases hc : 1 < hi - lo
            · have HD := hide (unhide HY hc)
              clear HY HO
              have hc' : decide (1 < hi - lo) = true := by simpa using hc
              have e2 : (lo + hi).tdiv 2 = (lo + hi) / 2 := by rw [Int.tdiv_eq_ediv_of_nonneg (by omega)]
              go_wp2_with fail
              refine (unhide HA).mono ?_
              rintro e w1 ⟨rfl, rfl⟩
              go_wp2_with fail
              refine (unhide HC).mono ?_
              rintro e w1 ⟨rfl, rfl⟩
              go_wp2_with (at_builtin; refine wpList_appZ rfl _ _ rfl w.heap.size _ out rfl (ho.alloc _) _ [(lo + hi) / 2] rfl (by first | exact unhide HL ((lo + hi) / 2) (by omega) (by omega) | (rw [e2]; exact unhide HL ((lo + hi) / 2) (by omega) (by omega))) ?c1 ?c2 ?_)
              case c1 => first | omega | (simp; omega)
              case c2 => have := hB.size; first | omega | (simp; omega)
              intro v2 w2 ho2 hg2
              have hB2 : Below w.heap.size w w2 := bstepBy (hB.alloc hB.size _) hg2 (fun g hg => (ho.lt g hg).1)
              go_wp2
              go_ret2
              exact ⟨_, _, by rw [unhide HD]; rfl, ho2, hide (by rw [unhide HD]; rfl), hB2⟩
            · have HD := hide (unhide HO hc)
              clear HY HO
              have hc' : decide (1 < hi - lo) = false := by simpa using hc
              go_wp2_with fail
              refine (unhide HA).mono ?_
              rintro e w1 ⟨rfl, rfl⟩
              go_wp2_with fail
              refine (unhide HC).mono ?_
              rintro e w1 ⟨rfl, rfl⟩
              go_wp2_with (at_builtin; refine wpList_appZ rfl _ _ rfl w.heap.size _ out rfl (ho.alloc _) _ [lo] rfl (unhide HL lo (by omega) (by omega)) ?c1 ?c2 ?_)
              case c1 => first | omega | (simp; omega)
              case c2 => have := hB.size; first | omega | (simp; omega)
              intro v2 w2 ho2 hg2
              have hB2 : Below w.heap.size w w2 := bstepBy (hB.alloc hB.size _) hg2 (fun g hg => (ho.lt g hg).1)
              rcases Bool.eq_false_or_eq_true (decide (lo < hi)) with hd | hd
              all_goals
                rw [hd] at HD
                go_wp2
                go_roundw
                case rel => exact ⟨f, k + 1, _, out ++ [lo], by omega, rfl, by go_num, ho2, by simp; omega, HD, hB2⟩
                case measure => simp [intOf]; omega
    · rw [q0] at HKA
      have hB1 := Below.refl w.heap.size w
      go_enter Tryz.func6, Tryz.ntmps6
      go_wp2_with fail
      refine (unhide HKA).mono ?_
      rintro e w1 ⟨rfl, ew⟩
      obtain rfl := ew.symm
      clear ew
      go_wp2_with fail
      go_loopw [6, 7, 38] (fun o p i wr => ∃ (f k : Nat) (z : Bool) (out : List Int), k + f = 12 ∧ p = .bool z ∧ i = .int .i64 k ∧ OwnZ wr w.heap.size o out ∧ out.length = k ∧ Hid (bt a b = btGo a b f k z out) ∧ Below w.heap.size w wr) (fun _ _ i _ => 12 - (intOf i).toNat)
      case atStart => exact ⟨12, 0, z, [], rfl, rfl, rfl, ownz_nil _ _, rfl, HQ, hB1⟩
      case round =>
        clear HQ hz1
        obtain ⟨f, k, z, out, hkf, rfl, rfl, ho, hol, HQ, hB⟩ := hrel
        cases f with
        | zero =>
          obtain rfl : k = 12 := by omega
          have HD := hide (show bt a b = none from unhide HQ)
          clear HQ
          go_wp2
          go_ret2
          exact ⟨.slice none 0 0, [], by rw [unhide HD]; rfl, ownz_nil _ _, hide (by rw [unhide HD]; rfl), hB⟩
        | succ f =>
          have hk : (k : Int) < 12 := by omega
          obtain ⟨lo, hlo⟩ : ∃ x, x = a.getD k 0 := ⟨_, rfl⟩
          obtain ⟨hi, hhi⟩ : ∃ x, x = hiB b k z := ⟨_, rfl⟩
          have r1 := unhide HR k
          have r2 : 0 ≤ hi ∧ hi ≤ 1000 := by rw [hhi]; unfold hiB; have := unhide HS k; split <;> omega
          rw [← hlo] at r1
          obtain ⟨r1, r1'⟩ := r1
          obtain ⟨r2, r2'⟩ := r2
          have HY := hide (fun (h : 1 < hi - lo) => (unhide HQ).trans (btGo_yes (by rw [← hlo, ← hhi]; exact h)))
          have HO := hide (fun (h : ¬ 1 < hi - lo) => (unhide HQ).trans (btGo_on (by rw [← hlo, ← hhi]; exact h)))
          rw [← hlo, ← hhi] at HY HO
          clear HQ
          have HB2 := hide (show z = false → hi = b.getD k 0 by intro hz; rw [hhi, hz]; rfl)
          have HB1 := hide (show z = true → hi = 1000 by intro hz; rw [hhi, hz]; rfl)
          clear hhi
          have HA := hide ((digI_any wr _ a k ((unhide HU).keep hB)))
          have HC := hide ((digI_any wr _ b k ((unhide HV).keep hB)))
          rw [← hlo] at HA
          clear hlo
          have hlast : ∀ x : Int, 0 ≤ x → x ≤ 1000 → Ints (wr.alloc (.cells #[.int .i64 x] 3)) (.slice (some ⟨wr.heap.size, 0, none⟩) 1 1) [x] := fun x h0 h1 => int_one wr x (by omega) (by omega)
          have HL := hide hlast
          clear hlast
          rcases Bool.eq_false_or_eq_true z with rfl | rfl
          · obtain rfl := unhide HB1 rfl
            clear HB1 HB2
            by_cases hc : 1 < 1000 - lo
            · have HD := hide (unhide HY hc)
              clear HY HO
              have hc' : decide (1 < 1000 - lo) = true := by simpa using hc
              have e2 : (lo + 1000).tdiv 2 = (lo + 1000) / 2 := by rw [Int.tdiv_eq_ediv_of_nonneg (by omega)]
              go_wp2_with fail
              refine (unhide HA).mono ?_
              rintro e w1 ⟨rfl, rfl⟩
              go_wp2_with (at_builtin; refine wpList_appZ rfl _ _ rfl w.heap.size _ out rfl (ho.alloc _) _ [(lo + 1000) / 2] rfl (by first | exact unhide HL ((lo + 1000) / 2) (by omega) (by omega) | (rw [e2]; exact unhide HL ((lo + 1000) / 2) (by omega) (by omega))) ?c1 ?c2 ?_)
              case c1 => first | omega | (simp; omega)
              case c2 => have := hB.size; first | omega | (simp; omega)
              intro v2 w2 ho2 hg2
              have hB2 : Below w.heap.size w w2 := bstepBy (hB.alloc hB.size _) hg2 (fun g hg => (ho.lt g hg).1)
              go_wp2
              go_ret2
              exact ⟨_, _, by rw [unhide HD]; rfl, ho2, hide (by rw [unhide HD]; rfl), hB2⟩
            · have HD := hide (unhide HO hc)
              clear HY HO
              have hc' : decide (1 < 1000 - lo) = false := by simpa using hc
              go_wp2_with fail
              refine (unhide HA).mono ?_
              rintro e w1 ⟨rfl, rfl⟩
              go_wp2_with (at_builtin; refine wpList_appZ rfl _ _ rfl w.heap.size _ out rfl (ho.alloc _) _ [lo] rfl (unhide HL lo (by omega) (by omega)) ?c1 ?c2 ?_)
              case c1 => first | omega | (simp; omega)
              case c2 => have := hB.size; first | omega | (simp; omega)
              intro v2 w2 ho2 hg2
              have hB2 : Below w.heap.size w w2 := bstepBy (hB.alloc hB.size _) hg2 (fun g hg => (ho.lt g hg).1)
              rcases Bool.eq_false_or_eq_true (decide (lo < 1000)) with hd | hd
              all_goals
                rw [hd] at HD
                go_wp2
                go_roundw
                case rel => exact ⟨f, k + 1, _, out ++ [lo], by omega, rfl, by go_num, ho2, by simp; omega, HD, hB2⟩
                case measure => simp [intOf]; omega
          · have hb := unhide HB2 rfl
            clear HB1 HB2
            rw [← hb] at HC
            clear hb
            by_cases hc : 1 < hi - lo
            · have HD := hide (unhide HY hc)
              clear HY HO
              have hc' : decide (1 < hi - lo) = true := by simpa using hc
              have e2 : (lo + hi).tdiv 2 = (lo + hi) / 2 := by rw [Int.tdiv_eq_ediv_of_nonneg (by omega)]
              go_wp2_with fail
              refine (unhide HA).mono ?_
              rintro e w1 ⟨rfl, rfl⟩
              go_wp2_with fail
              refine (unhide HC).mono ?_
              rintro e w1 ⟨rfl, rfl⟩
              go_wp2_with (at_builtin; refine wpList_appZ rfl _ _ rfl w.heap.size _ out rfl (ho.alloc _) _ [(lo + hi) / 2] rfl (by first | exact unhide HL ((lo + hi) / 2) (by omega) (by omega) | (rw [e2]; exact unhide HL ((lo + hi) / 2) (by omega) (by omega))) ?c1 ?c2 ?_)
              case c1 => first | omega | (simp; omega)
              case c2 => have := hB.size; first | omega | (simp; omega)
              intro v2 w2 ho2 hg2
              have hB2 : Below w.heap.size w w2 := bstepBy (hB.alloc hB.size _) hg2 (fun g hg => (ho.lt g hg).1)
              go_wp2
              go_ret2
              exact ⟨_, _, by rw [unhide HD]; rfl, ho2, hide (by rw [unhide HD]; rfl), hB2⟩
            · have HD := hide (unhide HO hc)
              clear HY HO
              have hc' : decide (1 < hi - lo) = false := by simpa using hc
              go_wp2_with fail
              refine (unhide HA).mono ?_
              rintro e w1 ⟨rfl, rfl⟩
              go_wp2_with fail
              refine (unhide HC).mono ?_
              rintro e w1 ⟨rfl, rfl⟩
              go_wp2_with (at_builtin; refine wpList_appZ rfl _ _ rfl w.heap.size _ out rfl (ho.alloc _) _ [lo] rfl (unhide HL lo (by omega) (by omega)) ?c1 ?c2 ?_)
              case c1 => first | omega | (simp; omega)
              case c2 => have := hB.size; first | omega | (simp; omega)
              intro v2 w2 ho2 hg2
              have hB2 : Below w.heap.size w w2 := bstepBy (hB.alloc hB.size _) hg2 (fun g hg => (ho.lt g hg).1)
              rcases Bool.eq_false_or_eq_true (decide (lo < hi)) with hd | hd
              all_goals
                rw [hd] at HD
                go_wp2
                go_roundw
                case rel => exact ⟨f, k + 1, _, out ++ [lo], by omega, rfl, by go_num, ho2, by simp; omega, HD, hB2⟩
                case measure => simp [intOf]; omega
    · rw [q0] at HKA
      rw [q1] at HKB
      rw [q2] at HKL
      go_enter Tryz.func6, Tryz.ntmps6
      go_wp2_with fail
      refine (unhide HKA).mono ?_
      rintro e w1 ⟨rfl, ew⟩
      obtain rfl := ew.symm
      clear ew
      go_wp2_with fail
      refine (unhide HKB).mono ?_
      rintro e w1 ⟨rfl, ew⟩
      obtain rfl := ew.symm
      clear ew
      go_wp2_with fail
      refine (unhide HKL).mono ?_
      rintro e w1 ⟨rfl, hB1⟩
      go_wp2_with fail
      go_loopw [6, 7, 38] (fun o p i wr => ∃ (f k : Nat) (z : Bool) (out : List Int), k + f = 12 ∧ p = .bool z ∧ i = .int .i64 k ∧ OwnZ wr w.heap.size o out ∧ out.length = k ∧ Hid (bt a b = btGo a b f k z out) ∧ Below w.heap.size w wr) (fun _ _ i _ => 12 - (intOf i).toNat)
      case atStart => exact ⟨12, 0, z, [], rfl, rfl, rfl, ownz_nil _ _, rfl, HQ, hB1⟩
      case round =>
        clear HQ hz1
        obtain ⟨f, k, z, out, hkf, rfl, rfl, ho, hol, HQ, hB⟩ := hrel
        cases f with
        | zero =>
          obtain rfl : k = 12 := by omega
          have HD := hide (show bt a b = none from unhide HQ)
          clear HQ
          go_wp2
          go_ret2
          exact ⟨.slice none 0 0, [], by rw [unhide HD]; rfl, ownz_nil _ _, hide (by rw [unhide HD]; rfl), hB⟩
        | succ f =>
          have hk : (k : Int) < 12 := by omega
          obtain ⟨lo, hlo⟩ : ∃ x, x = a.getD k 0 := ⟨_, rfl⟩
          obtain ⟨hi, hhi⟩ : ∃ x, x = hiB b k z := ⟨_, rfl⟩
          have r1 := unhide HR k
          have r2 : 0 ≤ hi ∧ hi ≤ 1000 := by rw [hhi]; unfold hiB; have := unhide HS k; split <;> omega
          rw [← hlo] at r1
          obtain ⟨r1, r1'⟩ := r1
          obtain ⟨r2, r2'⟩ := r2
          have HY := hide (fun (h : 1 < hi - lo) => (unhide HQ).trans (btGo_yes (by rw [← hlo, ← hhi]; exact h)))
          have HO := hide (fun (h : ¬ 1 < hi - lo) => (unhide HQ).trans (btGo_on (by rw [← hlo, ← hhi]; exact h)))
          rw [← hlo, ← hhi] at HY HO
          clear HQ
          have HB2 := hide (show z = false → hi = b.getD k 0 by intro hz; rw [hhi, hz]; rfl)
          have HB1 := hide (show z = true → hi = 1000 by intro hz; rw [hhi, hz]; rfl)
          clear hhi
          have HA := hide ((digI_any wr _ a k ((unhide HU).keep hB)))
          have HC := hide ((digI_any wr _ b k ((unhide HV).keep hB)))
          rw [← hlo] at HA
          clear hlo
          have hlast : ∀ x : Int, 0 ≤ x → x ≤ 1000 → Ints (wr.alloc (.cells #[.int .i64 x] 3)) (.slice (some ⟨wr.heap.size, 0, none⟩) 1 1) [x] := fun x h0 h1 => int_one wr x (by omega) (by omega)
          have HL := hide hlast
          clear hlast
          rcases Bool.eq_false_or_eq_true z with rfl | rfl
          · obtain rfl := unhide HB1 rfl
            clear HB1 HB2
            by_cases hc : 1 < 1000 - lo
            · have HD := hide (unhide HY hc)
              clear HY HO
              have hc' : decide (1 < 1000 - lo) = true := by simpa using hc
              have e2 : (lo + 1000).tdiv 2 = (lo + 1000) / 2 := by rw [Int.tdiv_eq_ediv_of_nonneg (by omega)]
              go_wp2_with fail
              refine (unhide HA).mono ?_
              rintro e w1 ⟨rfl, rfl⟩
              go_wp2_with (at_builtin; refine wpList_appZ rfl _ _ rfl w.heap.size _ out rfl (ho.alloc _) _ [(lo + 1000) / 2] rfl (by first | exact unhide HL ((lo + 1000) / 2) (by omega) (by omega) | (rw [e2]; exact unhide HL ((lo + 1000) / 2) (by omega) (by omega))) ?c1 ?c2 ?_)
              case c1 => first | omega | (simp; omega)
              case c2 => have := hB.size; first | omega | (simp; omega)
              intro v2 w2 ho2 hg2
              have hB2 : Below w.heap.size w w2 := bstepBy (hB.alloc hB.size _) hg2 (fun g hg => (ho.lt g hg).1)
              go_wp2
              go_ret2
              exact ⟨_, _, by rw [unhide HD]; rfl, ho2, hide (by rw [unhide HD]; rfl), hB2⟩
            · have HD := hide (unhide HO hc)
              clear HY HO
              have hc' : decide (1 < 1000 - lo) = false := by simpa using hc
              go_wp2_with fail
              refine (unhide HA).mono ?_
              rintro e w1 ⟨rfl, rfl⟩
              go_wp2_with (at_builtin; refine wpList_appZ rfl _ _ rfl w.heap.size _ out rfl (ho.alloc _) _ [lo] rfl (unhide HL lo (by omega) (by omega)) ?c1 ?c2 ?_)
              case c1 => first | omega | (simp; omega)
              case c2 => have := hB.size; first | omega | (simp; omega)
              intro v2 w2 ho2 hg2
              have hB2 : Below w.heap.size w w2 := bstepBy (hB.alloc hB.size _) hg2 (fun g hg => (ho.lt g hg).1)
              rcases Bool.eq_false_or_eq_true (decide (lo < 1000)) with hd | hd
              all_goals
                rw [hd] at HD
                go_wp2
                go_roundw
                case rel => exact ⟨f, k + 1, _, out ++ [lo], by omega, rfl, by go_num, ho2, by simp; omega, HD, hB2⟩
                case measure => simp [intOf]; omega
          · have hb := unhide HB2 rfl
            clear HB1 HB2
            rw [← hb] at HC
            clear hb
            by_cases hc : 1 < hi - lo
            · have HD := hide (unhide HY hc)
              clear HY HO
              have hc' : decide (1 < hi - lo) = true := by simpa using hc
              have e2 : (lo + hi).tdiv 2 = (lo + hi) / 2 := by rw [Int.tdiv_eq_ediv_of_nonneg (by omega)]
              go_wp2_with fail
              refine (unhide HA).mono ?_
              rintro e w1 ⟨rfl, rfl⟩
              go_wp2_with fail
              refine (unhide HC).mono ?_
              rintro e w1 ⟨rfl, rfl⟩
              go_wp2_with (at_builtin; refine wpList_appZ rfl _ _ rfl w.heap.size _ out rfl (ho.alloc _) _ [(lo + hi) / 2] rfl (by first | exact unhide HL ((lo + hi) / 2) (by omega) (by omega) | (rw [e2]; exact unhide HL ((lo + hi) / 2) (by omega) (by omega))) ?c1 ?c2 ?_)
              case c1 => first | omega | (simp; omega)
              case c2 => have := hB.size; first | omega | (simp; omega)
              intro v2 w2 ho2 hg2
              have hB2 : Below w.heap.size w w2 := bstepBy (hB.alloc hB.size _) hg2 (fun g hg => (ho.lt g hg).1)
              go_wp2
              go_ret2
              exact ⟨_, _, by rw [unhide HD]; rfl, ho2, hide (by rw [unhide HD]; rfl), hB2⟩
            · have HD := hide (unhide HO hc)
              clear HY HO
              have hc' : decide (1 < hi - lo) = false := by simpa using hc
              go_wp2_with fail
              refine (unhide HA).mono ?_
              rintro e w1 ⟨rfl, rfl⟩
              go_wp2_with fail
              refine (unhide HC).mono ?_
              rintro e w1 ⟨rfl, rfl⟩
              go_wp2_with (at_builtin; refine wpList_appZ rfl _ _ rfl w.heap.size _ out rfl (ho.alloc _) _ [lo] rfl (unhide HL lo (by omega) (by omega)) ?c1 ?c2 ?_)
              case c1 => first | omega | (simp; omega)
              case c2 => have := hB.size; first | omega | (simp; omega)
              intro v2 w2 ho2 hg2
              have hB2 : Below w.heap.size w w2 := bstepBy (hB.alloc hB.size _) hg2 (fun g hg => (ho.lt g hg).1)
              rcases Bool.eq_false_or_eq_true (decide (lo < hi)) with hd | hd
              all_goals
                rw [hd] at HD
                go_wp2
                go_roundw
                case rel => exact ⟨f, k + 1, _, out ++ [lo], by omega, rfl, by go_num, ho2, by simp; omega, HD, hB2⟩
                case measure => simp [intOf]; omega
end Go.Proofs.YtpijenlmfmknnaaGreatDoor

/- A key that Between tells is between: plain mathematics. -/
namespace Go.Proofs.YtpijenlmfmknnaaGreatDoor
set_option linter.unusedVariables false

theorem kl_first {m n : Int} (h : m < n) (s t : List Int) : ∀ p : List Int, klB (p ++ m :: s) (p ++ n :: t) = true
  | [] => by
    show (if m = n then klB s t else decide (m < n)) = true
    rw [if_neg (by omega)]; simpa using h
  | x :: p => by
    show (if x = x then klB (p ++ m :: s) (p ++ n :: t) else decide (x < x)) = true
    rw [if_pos rfl]; exact kl_first h s t p
theorem kl_begin (m : Int) (s : List Int) : ∀ p : List Int, klB p (p ++ m :: s) = true
  | [] => rfl
  | x :: p => by
    show (if x = x then klB p (p ++ m :: s) else decide (x < x)) = true
    rw [if_pos rfl]; exact kl_begin m s p
theorem kl_nil (a : List Int) : klB a [] = false := by cases a <;> rfl
structure BtInv (a b out : List Int) (i : Nat) (opn : Bool) : Prop where
  len : out.length = i
  pre : (i ≤ a.length ∧ out = a.take i) ∨ ∃ z, out = a ++ z
  yes : opn = true → b = [] ∨ ∃ p x y s t, out = p ++ x :: s ∧ b = p ++ y :: t ∧ x < y
  no : opn = false → ∃ t, b = out ++ t ∧ klB (a.drop i) t = true
structure BtGood (a b r : List Int) : Prop where
  lo : a = [] ∨ klB a r = true
  hi : b = [] ∨ klB r b = true
  ne : 0 < r.length
  last : 0 < r.getD (r.length - 1) 0
theorem at_app (out t : List Int) (y : Int) : (out ++ y :: t).getD out.length 0 = y := by simp
theorem pre_step {a out : List Int} {i : Nat} (hl : out.length = i) (h : (i ≤ a.length ∧ out = a.take i) ∨ ∃ z, out = a ++ z) : (i + 1 ≤ a.length ∧ out ++ [a.getD i 0] = a.take (i + 1)) ∨ ∃ z, out ++ [a.getD i 0] = a ++ z := by
  rcases h with ⟨h1, h2⟩ | ⟨z, h2⟩
  · by_cases hi : i < a.length
    · refine .inl ⟨hi, ?_⟩
      rw [h2, List.take_succ_eq_append_getElem hi]
      simp [List.getD_eq_getElem?_getD, hi]
    · refine .inr ⟨[a.getD i 0], ?_⟩
      rw [h2, List.take_of_length_le (by omega)]
  · exact .inr ⟨z ++ [a.getD i 0], by rw [h2, List.append_assoc]⟩
theorem btGo_good {a b : List Int} (ra : ∀ i, 0 ≤ a.getD i 0) (rb : ∀ i, 0 ≤ b.getD i 0) (hb : b = [] ∨ b.getD (b.length - 1) 0 ≠ 0) : ∀ (f i : Nat) (opn : Bool) (out r : List Int), BtInv a b out i opn → btGo a b f i opn out = some r → BtGood a b r
  | 0, i, opn, out, r, _, h => by cases h
  | f + 1, i, opn, out, r, hI, h => by
    have hl := hI.len
    rw [btGo] at h
    split at h
    · rename_i hgap
      injection h with h
      obtain ⟨m, hm⟩ : ∃ m, m = (a.getD i 0 + hiB b i opn) / 2 := ⟨_, rfl⟩
      rw [← hm] at h
      have h1 : a.getD i 0 < m := by omega
      have h2 : m < hiB b i opn := by omega
      subst h
      refine ⟨?_, ?_, by simp, ?_⟩
      · rcases hI.pre with ⟨k1, k2⟩ | ⟨z, k2⟩
        · by_cases hi : i < a.length
          · right
            have e : a = out ++ a.getD i 0 :: a.drop (i + 1) := by
              rw [k2]
              conv => lhs; rw [← List.take_append_drop i a]
              rw [drop_cons hi]
            conv => lhs; arg 1; rw [e]
            exact kl_first h1 _ _ _
          · right
            rw [k2, List.take_of_length_le (by omega)]
            exact kl_begin _ _ _
        · right
          rw [k2, List.append_assoc]
          cases z with
          | nil => exact kl_begin _ _ _
          | cons x z => exact kl_begin _ _ _
      · cases opn with
        | true =>
          rcases hI.yes rfl with e | ⟨p, x, y, s, t, e1, e2, e3⟩
          · exact .inl e
          · right
            rw [e1, e2, List.append_assoc]
            exact kl_first e3 _ _ _
        | false =>
          obtain ⟨t, e1, e2⟩ := hI.no rfl
          cases t with
          | nil => rw [kl_nil] at e2; cases e2
          | cons y t =>
            right
            have hy : b.getD i 0 = y := by rw [e1, ← hl]; exact at_app _ _ _
            have h3 : m < y := by
              have : hiB b i false = b.getD i 0 := rfl
              omega
            rw [e1]
            exact kl_first h3 _ _ _
      · have := ra i
        simp
        omega
    · rename_i hgap
      refine btGo_good ra rb hb f (i + 1) _ _ r ?_ h
      refine ⟨by simp [hl], pre_step hl hI.pre, fun ho => ?_, fun ho => ?_⟩
      · cases opn with
        | true =>
          rcases hI.yes rfl with e | ⟨p, x, y, s, t, e1, e2, e3⟩
          · exact .inl e
          · exact .inr ⟨p, x, y, s ++ [a.getD i 0], t, by rw [e1]; simp, e2, e3⟩
        | false =>
          obtain ⟨t, e1, e2⟩ := hI.no rfl
          cases t with
          | nil => rw [kl_nil] at e2; cases e2
          | cons y t =>
            have hy : b.getD i 0 = y := by rw [e1, ← hl]; exact at_app _ _ _
            have h3 : hiB b i false = b.getD i 0 := rfl
            rw [Bool.false_or, decide_eq_true_eq, h3, hy] at ho
            exact .inr ⟨out, a.getD i 0, y, [], t, rfl, e1, ho⟩
      · cases opn with
        | true => cases ho
        | false =>
          obtain ⟨t, e1, e2⟩ := hI.no rfl
          cases t with
          | nil => rw [kl_nil] at e2; cases e2
          | cons y t =>
            have hy : b.getD i 0 = y := by rw [e1, ← hl]; exact at_app _ _ _
            have h3 : hiB b i false = b.getD i 0 := rfl
            rw [Bool.false_or, decide_eq_false_iff_not, h3, hy] at ho
            have hry := rb i
            rw [hy] at hry
            by_cases hi : i < a.length
            · rw [drop_cons hi] at e2
              have e2 : (if a.getD i 0 = y then klB (a.drop (i + 1)) t else decide (a.getD i 0 < y)) = true := e2
              split at e2
              · rename_i hxy
                exact ⟨t, by rw [e1, hxy]; simp, e2⟩
              · have e2 := of_decide_eq_true e2
                omega
            · have h0 : a.getD i 0 = 0 := by simp [List.getD_eq_getElem?_getD, List.getElem?_eq_none (show a.length ≤ i by omega)]
              have hy0 : y = 0 := by omega
              subst hy0
              refine ⟨t, by rw [e1, h0]; simp, ?_⟩
              rw [List.drop_eq_nil_of_le (by omega)]
              cases t with
              | nil =>
                exfalso
                rcases hb with hb | hb
                · rw [hb] at e1; simp at e1
                · apply hb
                  rw [e1]
                  simp
              | cons x t => rfl
/-- What Between tells of two drawn rows is between them. -/
theorem between_good {a b r : List Int} (h : btAll a b = some r) : BtGood a b r ∧ r.length ≤ 12 := by
  refine ⟨?_, btAll_len h⟩
  unfold btAll at h
  split at h
  · cases h
  · rename_i hbad
    have hbad : btBad a b = false := by simpa using hbad
    unfold btBad at hbad
    rw [Bool.or_eq_false_iff, Bool.or_eq_false_iff] at hbad
    obtain ⟨h1, h2, h3⟩ := hbad
    have hb : b = [] ∨ b.getD (b.length - 1) 0 ≠ 0 := by
      by_cases hl : 0 < b.length
      · right
        rw [decide_eq_true hl, Bool.true_and] at h2
        have hk : keyB b = true := by simpa using h2
        exact ((keyB_iff b).1 hk).2.2.1
      · left
        exact List.eq_nil_of_length_eq_zero (by omega)
    refine btGo_good (fun i => (key_rng h1 i).1) (fun i => (key_rng h2 i).1) hb 12 0 _ [] r ⟨rfl, .inl ⟨Nat.zero_le _, by simp⟩, fun ho => .inl (List.eq_nil_of_length_eq_zero (by simpa using ho)), fun ho => ⟨b, rfl, ?_⟩⟩ h
    have hl : 0 < b.length := by simp at ho; exact List.length_pos_iff.2 ho
    rw [decide_eq_true hl, Bool.true_and] at h3
    simpa using h3
end Go.Proofs.YtpijenlmfmknnaaGreatDoor

/- A region that draws its order, by what is said at each point of its way: a step for each operation, in place of a way for each order. Plain, and in a round of a loop over a function. No program. -/
namespace Go.Proofs.YtpijenlmfmknnaaGreatDoor
open Go.RowKit
set_option linter.unusedVariables false

/-- How many are not yet listed. -/
def todo : List Bool → Nat
  | [] => 0
  | b :: l => (if b then 0 else 1) + todo l
theorem todo_set : ∀ (l : List Bool) (i : Nat), l[i]? = some false → todo (l.set i true) + 1 = todo l
  | [], i, h => by simp at h
  | b :: l, 0, h => by
    have e : b = false := by simpa using h
    subst e
    simp only [List.set_cons_zero, todo, if_true, Bool.false_eq_true, if_false]
    omega
  | b :: l, i + 1, h => by
    have ih := todo_set l i (by simpa using h)
    simp only [List.set_cons_succ, todo]
    omega
theorem todo_none : ∀ (l : List Bool), todo l = 0 → ∀ (i : Nat) (b : Bool), l[i]? = some b → b = true
  | [], _, i, b, h => by simp at h
  | c :: l, h0, 0, b, h => by
    have e : c = b := by simpa using h
    subst e
    cases c with
    | true => rfl
    | false => simp [todo] at h0
  | c :: l, h0, i + 1, b, h => todo_none l (by simp only [todo] at h0; omega) i b (by simpa using h)
theorem todo_all (n : Nat) : todo (List.replicate n false) = n := by
  induction n with
  | zero => rfl
  | succ n ih => rw [List.replicate_succ]; simp only [todo, Bool.false_eq_true, if_false]; omega
theorem ready_off {md : Region.Mode} {ops : Array Oper} {L : Array Bool} {i : Nat} (hs : L.size = ops.size) (h : i ∈ Region.ready md ops L) : L.toList[i]? = some false := by
  unfold Region.ready at h
  rw [List.mem_filter, List.mem_range, Bool.and_eq_true] at h
  obtain ⟨h1, h2, _⟩ := h
  have hi : i < L.size := by omega
  rw [Array.getD_eq_getD_getElem?, Array.getElem?_eq_getElem hi] at h2
  rw [Array.getElem?_toList, Array.getElem?_eq_getElem hi]
  simpa using h2
theorem ready_none {md : Region.Mode} {ops : Array Oper} {L : Array Bool} (hs : L.size = ops.size) (h : todo L.toList = 0) : Region.ready md ops L = [] := by
  rw [List.eq_nil_iff_forall_not_mem]
  intro i hi
  have := todo_none _ h i false (ready_off hs hi)
  cases this

/-- What an operation waits for is listed where it is ready. -/
theorem ready_pred {md : Region.Mode} {ops : Array Oper} {L : Array Bool} {i : Nat} {o : Oper} (h : i ∈ Region.ready md ops L) (ho : ops[i]? = some o) (j : Nat) (he : o.after.any (fun e => Region.binds md e && e.on == j) = true) : L.getD j false = true := by
  unfold Region.ready at h
  rw [List.mem_filter, Bool.and_eq_true, ho] at h
  obtain ⟨_, _, h3⟩ := h
  simp only [Option.map_some, Option.getD_some] at h3
  rw [Array.any_eq_true] at he
  obtain ⟨k, hk, hb⟩ := he
  rw [Bool.and_eq_true, beq_iff_eq] at hb
  rw [Array.all_eq_true] at h3
  have := h3 k hk
  rw [Bool.or_eq_true, hb.1, hb.2] at this
  simpa using this
/-- Where each waits for earlier ones alone, none is ready only behind the last. -/
theorem ready_all {md : Region.Mode} {ops : Array Oper} {L : Array Bool} (hs : L.size = ops.size) (hb : (List.range ops.size).all (fun i => ((ops[i]?).map fun o => o.after.all fun e => !Region.binds md e || decide (e.on < i)).getD true) = true)
    (h : Region.ready md ops L = []) : ∀ (n i : Nat), i < n → i < ops.size → L.getD i false = true
  | 0, i, hn, _ => by omega
  | n + 1, i, hn, hi => by
    by_cases hlt : i < n
    · exact ready_all hs hb h n i hlt hi
    have e : i = n := by omega
    subst e
    have hL : i < L.size := by omega
    by_cases hf : L.getD i false = true
    · exact hf
    exfalso
    have hmem : i ∈ Region.ready md ops L := by
      unfold Region.ready
      rw [List.mem_filter, List.mem_range, Bool.and_eq_true]
      refine ⟨hi, ?_, ?_⟩
      · rw [Array.getD_eq_getD_getElem?, Array.getElem?_eq_getElem hL] at hf ⊢
        simpa using hf
      · have hbi := List.all_eq_true.1 hb i (List.mem_range.2 hi)
        rw [Array.getElem?_eq_getElem hi] at hbi ⊢
        simp only [Option.map_some, Option.getD_some] at hbi ⊢
        rw [Array.all_eq_true] at hbi ⊢
        intro k hk
        have hk' := hbi k hk
        rw [Bool.or_eq_true] at hk' ⊢
        rcases hk' with hk' | hk'
        · exact .inl hk'
        · right
          have hlt' : (ops[i].after[k]).on < i := by simpa using hk'
          exact ready_all hs hb h i _ hlt' (by omega)
    rw [h] at hmem
    cases hmem

variable {P : Program} {ops : Array Oper} {Q : Exit → Act → World → Prop}

theorem any_inv {md : Region.Mode} (I : Array Bool → Act → World → Prop) (hsz : ∀ L a w, I L a w → L.size = ops.size)
    (hstep : ∀ L a w i o, I L a w → i ∈ Region.ready md ops L → ops[i]? = some o → if Region.wanted o (yielded ops a.tmps) = true then Oper.wp P o a w (I (L.setIfInBounds i true)) Q else I (L.setIfInBounds i true) (a.put o.dst undef) w)
    (hdone : ∀ L a w, I L a w → Region.ready md ops L = [] → Q .normal a w) :
    ∀ (fuel : Nat) (L : Array Bool) (a : Act) (w : World), todo L.toList ≤ fuel → I L a w → wpAny P md ops Q fuel L a w
  | 0, L, a, w, hf, hI => by
    have hr := ready_none (md := md) (hsz L a w hI) (by omega)
    exact ⟨hr, hdone L a w hI hr⟩
  | fuel + 1, L, a, w, hf, hI => by
    refine ⟨fun hr => hdone L a w hI hr, fun i hi => ?_⟩
    have ho := todo_set _ _ (ready_off (hsz L a w hI) hi)
    have key : ∀ a' w', I (L.setIfInBounds i true) a' w' → wpAny P md ops Q fuel (L.setIfInBounds i true) a' w' := fun a' w' h' =>
      any_inv I hsz hstep hdone fuel _ a' w' (by rw [Array.toList_setIfInBounds]; omega) h'
    unfold wpOp
    cases hoi : ops[i]? with
    | none =>
      unfold Region.ready at hi
      rw [List.mem_filter, List.mem_range] at hi
      rw [Array.getElem?_eq_getElem hi.1] at hoi
      cases hoi
    | some o =>
      have hs := hstep L a w i o hI hi hoi
      simp only []
      split
      · rename_i hw
        rw [if_pos hw] at hs
        exact .inl (Oper.wp_mono key hs)
      · rename_i hw
        rw [if_neg hw] at hs
        exact key _ _ hs
/-- The region, plain. -/
theorem region_inv {id : Nat} {a : Act} {w : World} (hm : P.follows .mixedOrders = true) (I : Array Bool → Act → World → Prop) (hsz : ∀ L a w, I L a w → L.size = ops.size)
    (h0 : I (Array.replicate ops.size false) a w.drew)
    (hstep : ∀ L a w i o, I L a w → i ∈ Region.ready .any ops L → ops[i]? = some o → if Region.wanted o (yielded ops a.tmps) = true then Oper.wp P o a w (I (L.setIfInBounds i true)) Q else I (L.setIfInBounds i true) (a.put o.dst undef) w)
    (hdone : ∀ L a w, I L a w → Region.ready .any ops L = [] → Q .normal a w) : (Code.region id ops true).wp P Q a w :=
  wp_region_any hm (any_inv I hsz hstep hdone _ _ _ _ (by rw [Array.toList_replicate, todo_all]; exact Nat.le_refl _) h0)
end Go.Proofs.YtpijenlmfmknnaaGreatDoor

/- A store of numbered things as a tree of pairs, laid out level by level, and words that make the kernel reckon a thing at once. No program. -/
namespace Go.Proofs.YtpijenlmfmknnaaGreatDoor
structure Pr (α : Type) where
  a : α
  b : α
abbrev T0 (α : Type) := α
abbrev T1 (α : Type) := Pr (T0 α)
abbrev T2 (α : Type) := Pr (T1 α)
abbrev T3 (α : Type) := Pr (T2 α)
abbrev T4 (α : Type) := Pr (T3 α)
abbrev T5 (α : Type) := Pr (T4 α)
abbrev T6 (α : Type) := Pr (T5 α)
abbrev T7 (α : Type) := Pr (T6 α)
abbrev T8 (α : Type) := Pr (T7 α)
abbrev T9 (α : Type) := Pr (T8 α)
abbrev T10 (α : Type) := Pr (T9 α)
abbrev T11 (α : Type) := Pr (T10 α)
abbrev T12 (α : Type) := Pr (T11 α)
abbrev T13 (α : Type) := Pr (T12 α)
def tmk0 {α : Type} (x : α) : T0 α := x
def tmk1 {α : Type} (x : α) : T1 α := Pr.mk (tmk0 x) (tmk0 x)
def tmk2 {α : Type} (x : α) : T2 α := Pr.mk (tmk1 x) (tmk1 x)
def tmk3 {α : Type} (x : α) : T3 α := Pr.mk (tmk2 x) (tmk2 x)
def tmk4 {α : Type} (x : α) : T4 α := Pr.mk (tmk3 x) (tmk3 x)
def tmk5 {α : Type} (x : α) : T5 α := Pr.mk (tmk4 x) (tmk4 x)
def tmk6 {α : Type} (x : α) : T6 α := Pr.mk (tmk5 x) (tmk5 x)
def tmk7 {α : Type} (x : α) : T7 α := Pr.mk (tmk6 x) (tmk6 x)
def tmk8 {α : Type} (x : α) : T8 α := Pr.mk (tmk7 x) (tmk7 x)
def tmk9 {α : Type} (x : α) : T9 α := Pr.mk (tmk8 x) (tmk8 x)
def tmk10 {α : Type} (x : α) : T10 α := Pr.mk (tmk9 x) (tmk9 x)
def tmk11 {α : Type} (x : α) : T11 α := Pr.mk (tmk10 x) (tmk10 x)
def tmk12 {α : Type} (x : α) : T12 α := Pr.mk (tmk11 x) (tmk11 x)
def tmk13 {α : Type} (x : α) : T13 α := Pr.mk (tmk12 x) (tmk12 x)
def tget0 {α : Type} (t : T0 α) (_k : Nat) : α := t
def tget1 {α : Type} (t : T1 α) (k : Nat) : α := match Nat.beq (Nat.land k 1) 0 with
  | true => tget0 t.a k
  | false => tget0 t.b k
def tget2 {α : Type} (t : T2 α) (k : Nat) : α := match Nat.beq (Nat.land k 2) 0 with
  | true => tget1 t.a k
  | false => tget1 t.b k
def tget3 {α : Type} (t : T3 α) (k : Nat) : α := match Nat.beq (Nat.land k 4) 0 with
  | true => tget2 t.a k
  | false => tget2 t.b k
def tget4 {α : Type} (t : T4 α) (k : Nat) : α := match Nat.beq (Nat.land k 8) 0 with
  | true => tget3 t.a k
  | false => tget3 t.b k
def tget5 {α : Type} (t : T5 α) (k : Nat) : α := match Nat.beq (Nat.land k 16) 0 with
  | true => tget4 t.a k
  | false => tget4 t.b k
def tget6 {α : Type} (t : T6 α) (k : Nat) : α := match Nat.beq (Nat.land k 32) 0 with
  | true => tget5 t.a k
  | false => tget5 t.b k
def tget7 {α : Type} (t : T7 α) (k : Nat) : α := match Nat.beq (Nat.land k 64) 0 with
  | true => tget6 t.a k
  | false => tget6 t.b k
def tget8 {α : Type} (t : T8 α) (k : Nat) : α := match Nat.beq (Nat.land k 128) 0 with
  | true => tget7 t.a k
  | false => tget7 t.b k
def tget9 {α : Type} (t : T9 α) (k : Nat) : α := match Nat.beq (Nat.land k 256) 0 with
  | true => tget8 t.a k
  | false => tget8 t.b k
def tget10 {α : Type} (t : T10 α) (k : Nat) : α := match Nat.beq (Nat.land k 512) 0 with
  | true => tget9 t.a k
  | false => tget9 t.b k
def tget11 {α : Type} (t : T11 α) (k : Nat) : α := match Nat.beq (Nat.land k 1024) 0 with
  | true => tget10 t.a k
  | false => tget10 t.b k
def tget12 {α : Type} (t : T12 α) (k : Nat) : α := match Nat.beq (Nat.land k 2048) 0 with
  | true => tget11 t.a k
  | false => tget11 t.b k
def tget13 {α : Type} (t : T13 α) (k : Nat) : α := match Nat.beq (Nat.land k 4096) 0 with
  | true => tget12 t.a k
  | false => tget12 t.b k
def tset0.{u} {α : Type} {β : Sort u} (_t : T0 α) (_k : Nat) (v : α) (K : T0 α → β) : β := K v
def tset1.{u} {α : Type} {β : Sort u} (t : T1 α) (k : Nat) (v : α) (K : T1 α → β) : β := match t with
  | ⟨a, b⟩ => match Nat.beq (Nat.land k 1) 0 with
    | true => tset0 a k v fun x => K ⟨x, b⟩
    | false => tset0 b k v fun x => K ⟨a, x⟩
def tset2.{u} {α : Type} {β : Sort u} (t : T2 α) (k : Nat) (v : α) (K : T2 α → β) : β := match t with
  | ⟨a, b⟩ => match Nat.beq (Nat.land k 2) 0 with
    | true => tset1 a k v fun x => K ⟨x, b⟩
    | false => tset1 b k v fun x => K ⟨a, x⟩
def tset3.{u} {α : Type} {β : Sort u} (t : T3 α) (k : Nat) (v : α) (K : T3 α → β) : β := match t with
  | ⟨a, b⟩ => match Nat.beq (Nat.land k 4) 0 with
    | true => tset2 a k v fun x => K ⟨x, b⟩
    | false => tset2 b k v fun x => K ⟨a, x⟩
def tset4.{u} {α : Type} {β : Sort u} (t : T4 α) (k : Nat) (v : α) (K : T4 α → β) : β := match t with
  | ⟨a, b⟩ => match Nat.beq (Nat.land k 8) 0 with
    | true => tset3 a k v fun x => K ⟨x, b⟩
    | false => tset3 b k v fun x => K ⟨a, x⟩
def tset5.{u} {α : Type} {β : Sort u} (t : T5 α) (k : Nat) (v : α) (K : T5 α → β) : β := match t with
  | ⟨a, b⟩ => match Nat.beq (Nat.land k 16) 0 with
    | true => tset4 a k v fun x => K ⟨x, b⟩
    | false => tset4 b k v fun x => K ⟨a, x⟩
def tset6.{u} {α : Type} {β : Sort u} (t : T6 α) (k : Nat) (v : α) (K : T6 α → β) : β := match t with
  | ⟨a, b⟩ => match Nat.beq (Nat.land k 32) 0 with
    | true => tset5 a k v fun x => K ⟨x, b⟩
    | false => tset5 b k v fun x => K ⟨a, x⟩
def tset7.{u} {α : Type} {β : Sort u} (t : T7 α) (k : Nat) (v : α) (K : T7 α → β) : β := match t with
  | ⟨a, b⟩ => match Nat.beq (Nat.land k 64) 0 with
    | true => tset6 a k v fun x => K ⟨x, b⟩
    | false => tset6 b k v fun x => K ⟨a, x⟩
def tset8.{u} {α : Type} {β : Sort u} (t : T8 α) (k : Nat) (v : α) (K : T8 α → β) : β := match t with
  | ⟨a, b⟩ => match Nat.beq (Nat.land k 128) 0 with
    | true => tset7 a k v fun x => K ⟨x, b⟩
    | false => tset7 b k v fun x => K ⟨a, x⟩
def tset9.{u} {α : Type} {β : Sort u} (t : T9 α) (k : Nat) (v : α) (K : T9 α → β) : β := match t with
  | ⟨a, b⟩ => match Nat.beq (Nat.land k 256) 0 with
    | true => tset8 a k v fun x => K ⟨x, b⟩
    | false => tset8 b k v fun x => K ⟨a, x⟩
def tset10.{u} {α : Type} {β : Sort u} (t : T10 α) (k : Nat) (v : α) (K : T10 α → β) : β := match t with
  | ⟨a, b⟩ => match Nat.beq (Nat.land k 512) 0 with
    | true => tset9 a k v fun x => K ⟨x, b⟩
    | false => tset9 b k v fun x => K ⟨a, x⟩
def tset11.{u} {α : Type} {β : Sort u} (t : T11 α) (k : Nat) (v : α) (K : T11 α → β) : β := match t with
  | ⟨a, b⟩ => match Nat.beq (Nat.land k 1024) 0 with
    | true => tset10 a k v fun x => K ⟨x, b⟩
    | false => tset10 b k v fun x => K ⟨a, x⟩
def tset12.{u} {α : Type} {β : Sort u} (t : T12 α) (k : Nat) (v : α) (K : T12 α → β) : β := match t with
  | ⟨a, b⟩ => match Nat.beq (Nat.land k 2048) 0 with
    | true => tset11 a k v fun x => K ⟨x, b⟩
    | false => tset11 b k v fun x => K ⟨a, x⟩
def tset13.{u} {α : Type} {β : Sort u} (t : T13 α) (k : Nat) (v : α) (K : T13 α → β) : β := match t with
  | ⟨a, b⟩ => match Nat.beq (Nat.land k 4096) 0 with
    | true => tset12 a k v fun x => K ⟨x, b⟩
    | false => tset12 b k v fun x => K ⟨a, x⟩
def forceN.{u} {β : Sort u} (n : Nat) (K : Nat → β) : β := match n with
  | 0 => K 0
  | m + 1 => K (m + 1)
def forceI.{u} {β : Sort u} (i : Int) (K : Int → β) : β := match i with
  | .ofNat n => forceN n fun n => K (.ofNat n)
  | .negSucc n => forceN n fun n => K (.negSucc n)
def forceB.{u} {β : Sort u} (b : Bool) (K : Bool → β) : β := match b with
  | true => K true
  | false => K false
def forceL.{u} {α : Type} {β : Sort u} (l : List α) (K : List α → β) : β := match l with
  | [] => K []
  | x :: l => forceL l fun l => K (x :: l)
def forceV.{u} {β : Sort u} (v : Value) (K : Value → β) : β := match v with
  | .bool b => forceB b fun b => K (.bool b)
  | .int k i => forceI i fun i => K (.int k i)
  | .agg ⟨l⟩ => forceL l fun l => K (.agg ⟨l⟩)
  | .tuple ⟨l⟩ => forceL l fun l => K (.tuple ⟨l⟩)
  | v => K v
end Go.Proofs.YtpijenlmfmknnaaGreatDoor

/- A reckoner of closed calls: it runs a function's code over a small store of numbered blocks, whatever the order that a region draws and whatever the capacity that 'append' draws. Its soundness stands in other texts. No program. -/
namespace Go.Proofs.YtpijenlmfmknnaaGreatDoor
set_option linter.unusedVariables false

/-- The store: block k's object, the next number, which blocks were read, which were written. -/
structure Hp where
  h : T13 (Option Obj)
  n : Nat
  rd : Nat
  wr : Nat

abbrev TT := T8 Value

/-- A value that bears no address. -/
def plain0 : Value → Bool
  | .bool _ | .int _ _ | .string _ | .pointer none | .map none | .nilFunc | .nilIface => true
  | .slice none l c => Nat.beq l 0 && Nat.beq c 0
  | _ => false
def plainL : List Value → Bool
  | [] => true
  | v :: l => plain0 v && plainL l
def plain1 : Value → Bool
  | .agg ⟨l⟩ => plainL l
  | v => plain0 v
def plainM : List Value → Bool
  | [] => true
  | v :: l => plain1 v && plainM l
def plainV : Value → Bool
  | .tuple ⟨l⟩ => plainM l
  | v => plain1 v

section
variable (P : Program)

/-- What a piece of the model that touches no memory tells. -/
def prun {α : Type} : Sem α → Option α
  | .pure a => some a
  | .program k => prun (k P)
  | .mark _ k => prun k
  | _ => none

def szOf (t : TypeId) : Option Nat := (P.info? t).map (·.size)
def aggOf (t : TypeId) : Option Bool := match P.underlying t with
  | some (.struct _) | some (.array _ _) => some true
  | some _ => some false
  | none => none
def zeroOf (t : TypeId) : Option (List Value) := match (P.info? t).bind (·.zero) with
  | some v => if plainV v then some v.cells.toList else none
  | none => none
def elemOfS (t : TypeId) : Option TypeId := match P.underlying t with
  | some (.slice e) => some e
  | _ => none
def fieldOf (s : TypeId) (f : Nat) : Option (Nat × TypeId) := match P.underlying s with
  | some (.struct fs) => match (fs[f]? : Option Field) with
    | some fd => some (fd.offset, fd.type)
    | none => none
  | _ => none
def allSz : List Field → Option (List (Nat × Nat))
  | [] => some []
  | f :: fs => match szOf P f.type, allSz fs with
    | some n, some l => some ((f.offset, n) :: l)
    | _, _ => none

/-- A piece of the reckoner: it goes on with what it tells, and the store. -/
structure M (α : Type) where
  run : ∀ {β : Type}, Hp → (α → Hp → Option β) → Option β
def mpure {α : Type} (a : α) : M α := ⟨fun s K => K a s⟩
def mfail {α : Type} : M α := ⟨fun _ _ => none⟩
def mbind {α γ : Type} (F : M α) (G : α → M γ) : M γ := ⟨fun s K => F.run s fun a s => (G a).run s K⟩

def aev (t : TT) : Operand → Option Value
  | .tmp k => match Nat.ble k 255 with
    | true => some (tget8 t k)
    | false => none
  | .const v => match plainV v with
    | true => some v
    | false => none
  | .global g => match Nat.ble g 15 with
    | true => some (.pointer (some ⟨g, 0, none⟩))
    | false => none
  | .func f => some (.func (.func f) #[] #[])
def maev (x : Option Value) : M Value := match x with
  | some v => mpure v
  | none => mfail
def aevs (e : Operand → Option Value) : List Operand → M (List Value)
  | [] => mpure []
  | x :: l => match e x with
    | some v => mbind (aevs e l) fun vs => mpure (v :: vs)
    | none => mfail

/-- Looks at block b. -/
def mget (b : Nat) : M Obj := ⟨fun s K => match s with
  | ⟨h, n, rd, wr⟩ => match Nat.ble b 8191 with
    | true => match tget13 h b with
      | some o => forceN (Nat.lor rd (Nat.shiftLeft 1 b)) fun rd => K o ⟨h, n, rd, wr⟩
      | none => none
    | false => none⟩
/-- Turns block b, which is one of the call's own. -/
def mset (b : Nat) (o : Option Obj) : M Unit := ⟨fun s K => match s with
  | ⟨h, n, rd, wr⟩ => match Nat.ble b 8191 && Nat.ble 16 b with
    | true => tset13 h b o fun h => forceN (Nat.lor wr (Nat.shiftLeft 1 b)) fun wr => K () ⟨h, n, rd, wr⟩
    | false => none⟩
/-- A new block. -/
def mnew (o : Obj) : M Nat := ⟨fun s K => match s with
  | ⟨h, n, rd, wr⟩ => match Nat.ble n 8191 && Nat.ble 16 n with
    | true => tset13 h n (some o) fun h => forceN (Nat.lor wr (Nat.shiftLeft 1 n)) fun wr => forceN (n + 1) fun m => K n ⟨h, m, rd, wr⟩
    | false => none⟩

/-- n cells from off on. -/
def cut (off n : Nat) (l : List Value) : M (List Value) :=
  match Nat.ble (off + n) l.length with
  | true => forceL ((l.drop off).take n) mpure
  | false => mfail
def paste (off : Nat) (vs l : List Value) : M (List Value) :=
  match Nat.ble (off + vs.length) l.length with
  | true => forceL (l.take off ++ (vs ++ l.drop (off + vs.length))) mpure
  | false => mfail
def cellsO : Obj → M (List Value × TypeId × (Nat × Nat))
  | .cells ⟨l⟩ t f => mpure (l, t, f)
  | _ => mfail
def mcells (b : Nat) : M (List Value × TypeId × (Nat × Nat)) := mbind (mget b) cellsO
def mload (a : Addr) (n : Nat) : M (List Value) := match a with
  | ⟨b, off, none⟩ => mbind (mcells b) fun c => cut off n c.1
  | _ => mfail
def oneV : Value → Bool
  | .agg _ | .tuple _ | .chan _ => false
  | _ => true
def mstore (a : Addr) (vs : List Value) : M Unit := match a with
  | ⟨b, off, none⟩ => mbind (mcells b) fun c => match vs.all oneV with
    | true => mbind (paste off vs c.1) fun l => mset b (some (.cells ⟨l⟩ c.2.1 c.2.2))
    | false => mfail
  | _ => mfail
def mrow (t : TypeId) (l : List Value) (fl : Nat × Nat) : M Nat := match l.all oneV with
  | true => mnew (.cells ⟨l⟩ t fl)
  | false => mfail
def addA (a : Addr) (n : Nat) : M Addr := match a with
  | ⟨b, off, none⟩ => forceN (off + n) fun off => mpure ⟨b, off, none⟩
  | _ => mfail
def cellsK : Value → Option (List Value)
  | .agg ⟨l⟩ => some l
  | .chan _ => none
  | v => some [v]
/-- A part of a struct or an array. -/
def partK (t : TypeId) (l : List Value) (off : Nat) : M Value := match aggOf P t, szOf P t with
  | some true, some n => mbind (cut off n l) fun vs => mpure (.agg ⟨vs⟩)
  | some false, some _ => maev l[off]?
  | _, _ => mfail
def fillK (place : Nat → Option (Nat × Nat)) : List Value → List (Nat × Value) → M (List Value)
  | cells, [] => mpure cells
  | cells, (i, v) :: rest => match place i with
    | some (off, size) => match cellsK v with
      | some vs => match Nat.beq vs.length size with
        | true => mbind (paste off vs cells) fun cells => fillK place cells rest
        | false => mfail
      | none => mfail
    | none => mfail
def reps (l : List Value) : Nat → List Value
  | 0 => []
  | n + 1 => l ++ reps l n
/-- A nil and another one, at a type that has it. -/
def nilPair : TypeDesc → Value → Value → Bool
  | .pointer _, .pointer (some _), .pointer none | .pointer _, .pointer none, .pointer (some _) => true
  | .slice _, .slice (some _) _ _, .slice none 0 0 | .slice _, .slice none 0 0, .slice (some _) _ _ => true
  | .func _ _ _, .func _ _ _, .nilFunc | .func _ _ _, .nilFunc, .func _ _ _ => true
  | .interface _, .iface _ _, .nilIface | .interface _, .nilIface, .iface _ _ => true
  | .map _ _, .map (some _), .map none | .map _ _, .map none, .map (some _) => true
  | _, _, _ => false
def bytesOf : List Value → Option (List UInt8)
  | [] => some []
  | .int .u8 n :: l => match bytesOf l with
    | some bs => some (UInt8.ofNat n.toNat :: bs)
    | none => none
  | _ => none
def isU8 (t : TypeId) : Bool := match P.underlying t with
  | some (.int .u8) => true
  | _ => false
/-- What a piece of the model without memory tells. -/
def mprun (x : Sem Value) : M Value := match prun P x with
  | some v => match plainV v with
    | true => forceV v mpure
    | false => mfail
  | none => mfail
/-- Elements of a slice or a string that is appended or copied: n of them. -/
def firstK (size n : Nat) (x : Value) : M (List Value) := match x with
  | .slice (some a) _ _ => match Nat.beq n 0 with
    | true => mpure []
    | false => mload a (n * size)
  | .slice none _ _ => match Nat.beq n 0 with
    | true => mpure []
    | false => mfail
  | .string b => forceL ((b.data.toList.take n).map fun x => Value.int .u8 x.toNat) mpure
  | _ => mfail
def lenK : Value → Option Nat
  | .slice _ n _ => some n
  | .string s => some s.size
  | _ => none
def sliceV (b off n c : Nat) : Value := .slice (some ⟨b, off, none⟩) n c
def grownK (el : TypeId) (z off len need : Nat) (l new : List Value) : M Value :=
  mbind (cut off (len * z) l) fun old => forceL (old ++ new) fun l => mbind (mrow el l (z, 1)) fun id => mpure (sliceV id 0 need need)
def appNil (el : TypeId) (z n : Nat) (new : List Value) : M Value := match Nat.beq n 0 with
  | true => mpure (.slice none 0 0)
  | false => match Nat.ble n 4096 with
    | true => mbind (mrow el new (z, 1)) fun id => mpure (sliceV id 0 n n)
    | false => mfail
def appIn (z b off len n need cap : Nat) (new : List Value) : M Value := match Nat.beq n 0 with
  | true => mpure (sliceV b off need cap)
  | false => mbind (mstore ⟨b, off + len * z, none⟩ new) fun _ => mpure (sliceV b off need cap)
def appOut (el : TypeId) (z b off len need cap : Nat) (new : List Value) : M Value := match Nat.ble need 4096 with
  | false => mfail
  | true => mbind (mcells b) fun c => match Nat.beq c.2.2.1 0 || !(Nat.beq (off + cap * c.2.2.1) c.1.length) with
    | true => grownK el z off len need c.1 new
    | false => match Nat.beq c.2.2.1 z with
      | true => mbind (mset b none) fun _ => grownK el z off len need c.1 new
      | false => mfail
def appAt (el : TypeId) (z b off len cap n : Nat) (new : List Value) : M Value := forceN (len + n) fun need => match Nat.ble need cap with
  | true => appIn z b off len n need cap new
  | false => appOut el z b off len need cap new
def appGo (el : TypeId) (z : Nat) (x : Value) (n : Nat) (new : List Value) : M Value := match Nat.beq new.length (n * z) with
  | false => mfail
  | true => match x with
    | .slice none 0 0 => appNil el z n new
    | .slice (some ⟨b, off, none⟩) len cap => appAt el z b off len cap n new
    | _ => mfail
def intT (t : Option TypeId) : Option Bool := match t with
  | some t => (match P.underlying t with
    | some (.int _) => some true
    | some _ => some false
    | none => none)
  | none => some false
/-- The elements' size and zero of a slice's type that is appended to. -/
def appT (t : TypeId) : Option (TypeId × Nat × List Value) := match elemOfS P t with
  | none => none
  | some el => match szOf P el, (P.info? el).map (·.bytes), zeroOf P el with
    | some (size + 1), some bytes, some zero => match Nat.ble bytes 4096 && Nat.beq zero.length (size + 1) with
      | true => some (el, size + 1, zero)
      | false => none
    | _, _, _ => none
def appendK (at0 : TypeId) (at1 : Option TypeId) (x y : Value) : M Value :=
  match appT P at0 with
  | none => mfail
  | some (el, z, zero) => match intT P at1 with
    | none => mfail
    | some true => match y with
      | .int _ (.ofNat n) => match Nat.ble n 4096 with
        | true => forceL (reps zero n) fun new => appGo el z x n new
        | false => mfail
      | _ => mfail
    | some false => match lenK y with
      | some n => mbind (firstK z n y) fun new => appGo el z x n new
      | none => mfail

def boundK (x : Option Value) (dflt top : Nat) : Option Nat := match x with
  | none => some dflt
  | some (.int _ (.ofNat i)) => match Nat.ble i top with
    | true => some i
    | false => none
  | _ => none
/-- A slice's three bounds. -/
def bounds3 (len cap : Nat) (lo hi mx : Option Value) : Option (Nat × Nat × Nat) := match boundK mx cap cap with
  | some m => match boundK hi len m with
    | some h => match boundK lo 0 h with
      | some l => match mx.isNone || hi.isSome with
        | true => some (l, h, m)
        | false => none
      | none => none
    | none => none
  | none => none
def sliceArr (n size b off : Nat) (lo hi mx : Option Value) : M Value := mbind (mcells b) fun c => match Nat.beq c.2.2.1 0 && Nat.ble n 4096, bounds3 n n lo hi mx with
  | true, some (l, h, m) => forceN (if Nat.beq m l then off else off + l * size) fun off => forceN (h - l) fun n => forceN (m - l) fun c => mpure (sliceV b off n c)
  | _, _ => mfail
def sliceSl (size b off len cap : Nat) (lo hi mx : Option Value) : M Value := mbind (mcells b) fun c => match Nat.beq c.2.2.1 0 || Nat.beq c.2.2.1 size, bounds3 len cap lo hi mx with
  | true, some (l, h, m) => match mx.isNone || (Nat.beq c.2.2.1 0 || !(Nat.beq (off + m * size) c.1.length)) with
    | true => forceN (off + l * size) fun off => forceN (h - l) fun n => forceN (m - l) fun c => mpure (sliceV b off n c)
    | false => mpure (.chan none)
  | _, _ => mfail
def slicePl (t : TypeId) (x : Value) (lo hi mx : Option Value) : M Value := match plainV x && (lo.all plainV && (hi.all plainV && mx.all plainV)) with
  | true => mprun P (Instr.sliceAt t x lo hi mx)
  | false => mfail
def sliceK (t : TypeId) (x : Value) (lo hi mx : Option Value) : M Value :=
  match P.underlying t with
  | some (.array n el) => match x, szOf P el with
    | .pointer (some ⟨b, off, none⟩), some size => sliceArr n size b off lo hi mx
    | _, _ => mfail
  | some (.slice el) => match x, szOf P el with
    | .slice (some ⟨b, off, none⟩) len cap, some size => sliceSl size b off len cap lo hi mx
    | .slice none l c, some _ => slicePl P t (.slice none l c) lo hi mx
    | _, _ => mfail
  | some .string => slicePl P t x lo hi mx
  | _ => mfail
def mopt (e : Operand → Option Value) (y : Option Operand) : M (Option Value) := match y with
  | none => mpure none
  | some y => match e y with
    | some v => mpure (some v)
    | none => mfail

/-- Whatever runs a function. -/
abbrev Callee' := FuncId → List Value → Hp → Option (Value × Hp)
def mcall (C : Hp → Option (Value × Hp)) : M Value := ⟨fun s K => match C s with
  | some (v, s) => K v s
  | none => none⟩

abbrev En := Operand → Option Value
def unV : Value := .tuple #[]
def opMove (x : Operand) (e : En) : M Value := maev (e x)
def opPick (c a b : Operand) (e : En) : M Value := match e c with
  | some (.bool true) => maev (e a)
  | some (.bool false) => maev (e b)
  | _ => mfail
def ptrV (b off : Nat) : Value := .pointer (some ⟨b, off, none⟩)
def opAlloc (t : TypeId) : M Value := match zeroOf P t with
  | some z => mbind (mrow t z (0, 0)) fun id => mpure (ptrV id 0)
  | none => mfail
def opBox (t : TypeId) (x : Operand) (e : En) : M Value := match (e x).bind cellsK with
  | some vs => mbind (mrow t vs (0, 0)) fun id => mpure (ptrV id 0)
  | none => mfail
/-- Places and zero of a struct's or an array's parts. -/
def buildT (t : TypeId) : Option ((Nat → Option (Nat × Nat)) × List Value) := match P.underlying t, zeroOf P t with
  | some (.struct fs), some z => match allSz P fs.toList with
    | some pl => some ((pl[·]?), z)
    | none => none
  | some (.array _ el), some z => match szOf P el with
    | some n => some ((fun i => some (i * n, n)), z)
    | none => none
  | _, _ => none
def opBuild (t : TypeId) (parts : Array (Nat × Operand)) (e : En) : M Value := mbind (aevs e (parts.toList.map (·.2))) fun vs => match buildT P t with
  | some (pl, z) => mbind (fillK pl z ((parts.toList.map (·.1)).zip vs)) fun l => mpure (.agg ⟨l⟩)
  | none => mfail
def opBuildSlice (t : TypeId) (len : Nat) (parts : Array (Nat × Operand)) (e : En) : M Value := mbind (aevs e (parts.toList.map (·.2))) fun vs => match elemOfS P t with
  | some el => match szOf P el, zeroOf P el with
    | some n, some z => match (Nat.ble len 4096 && Nat.ble (len * n) 4096) && Nat.beq z.length n with
      | true => forceL (reps z len) fun cells => mbind (fillK (fun i => some (i * n, n)) cells ((parts.toList.map (·.1)).zip vs)) fun l => mbind (mrow el l (0, 0)) fun id => mpure (sliceV id 0 len len)
      | false => mfail
    | _, _ => mfail
  | none => mfail
def loadK (a : Addr) : Option Bool → Option Nat → M Value
  | some true, some n => mbind (mload a n) fun vs => mpure (.agg ⟨vs⟩)
  | some false, some _ => mbind (mload a 1) fun vs => maev vs.head?
  | _, _ => mfail
def opLoad (t : TypeId) (a : Operand) (e : En) : M Value := match e a with
  | some (.pointer (some a)) => loadK a (aggOf P t) (szOf P t)
  | _ => mfail
def opStore (t : TypeId) (a x : Operand) (e : En) : M Value := match e a, (e x).bind cellsK, szOf P t with
  | some (.pointer (some a)), some vs, some n => match Nat.beq vs.length n with
    | true => mbind (mstore a vs) fun _ => mpure unV
    | false => mfail
  | _, _, _ => mfail
def opNilCheck (x : Operand) (e : En) : M Value := match e x with
  | some (.pointer (some a)) => mpure (.pointer (some a))
  | some (.func (.func f) a b) => mpure (.func (.func f) a b)
  | some (.iface t v) => mpure (.iface t v)
  | _ => mfail
/-- Numbers that need no wrapping are left as they are. -/
def wrapK (k : IntKind) (n : Int) : M Int := match k, n with
  | .i64, .ofNat m => forceN m fun m => match Nat.ble m 4611686018427387904 with
    | true => mpure (.ofNat m)
    | false => forceI (IntKind.wrap .i64 (.ofNat m)) mpure
  | k, n => forceI (k.wrap n) mpure
def subNat (m n : Nat) : Int := match Nat.ble n m with
  | true => .ofNat (m - n)
  | false => .negSucc (n - m - 1)
def ltI : Int → Int → Bool
  | .ofNat m, .ofNat n => Nat.blt m n
  | .ofNat _, .negSucc _ => false
  | .negSucc _, .ofNat _ => true
  | .negSucc m, .negSucc n => Nat.blt n m
def eqI : Int → Int → Bool
  | .ofNat m, .ofNat n => Nat.beq m n
  | .negSucc m, .negSucc n => Nat.beq m n
  | _, _ => false
def addI : Int → Int → Int
  | .ofNat m, .ofNat n => .ofNat (m + n)
  | a, b => a + b
def subI : Int → Int → Int
  | .ofNat m, .ofNat n => subNat m n
  | a, b => a - b
def sameK : IntKind → IntKind → Bool
  | .i64, .i64 | .u8, .u8 | .i32, .i32 | .u32, .u32 | .u64, .u64 => true
  | _, _ => false
def nilV (op : BinOp) (d : Option TypeDesc) (a b : Value) : M Value := match op, d with
  | .eql, some d => (match nilPair d a b with
    | true => mpure (.bool false)
    | false => mfail)
  | .neq, some d => (match nilPair d a b with
    | true => mpure (.bool true)
    | false => mfail)
  | _, _ => mfail
def binV (op : BinOp) (t : TypeId) (x y : Operand) (a b : Value) : M Value := match plainV a && plainV b with
  | true => mprun P (do eqGuard op t x y a b; binOp op t a b)
  | false => nilV op (P.underlying t) a b
def cmpV (c : Int → Int → Bool) (op : BinOp) (t : TypeId) (x y : Operand) : Value → Value → M Value
  | .int k a, .int k' b => match sameK k k' with
    | true => forceB (c a b) fun b => mpure (.bool b)
    | false => mfail
  | a, b => binV P op t x y a b
def arithV (c : Int → Int → Int) (op : BinOp) (t : TypeId) (x y : Operand) : Value → Value → M Value
  | .int k a, .int k' b => match sameK k k' with
    | true => mbind (wrapK k (c a b)) fun n => mpure (.int k n)
    | false => mfail
  | a, b => binV P op t x y a b
def binD (op : BinOp) (t : TypeId) (x y : Operand) : Value → Value → M Value := match op with
  | .add => arithV P addI .add t x y
  | .sub => arithV P subI .sub t x y
  | .eql => cmpV P eqI .eql t x y
  | .neq => cmpV P (fun a b => !(eqI a b)) .neq t x y
  | .lss => cmpV P ltI .lss t x y
  | .leq => cmpV P (fun a b => !(ltI b a)) .leq t x y
  | .gtr => cmpV P (fun a b => ltI b a) .gtr t x y
  | .geq => cmpV P (fun a b => !(ltI a b)) .geq t x y
  | op => binV P op t x y
def opBin (op : BinOp) (t : TypeId) (x y : Operand) (e : En) : M Value := match e x, e y with
  | some a, some b => binD P op t x y a b
  | _, _ => mfail
def opUnOp (op : UnOp) (x : Operand) (e : En) : M Value := match e x with
  | some a => match plainV a with
    | true => mprun P (Op.unary op a)
    | false => mfail
  | none => mfail
def convStr (src dst : TypeId) (b : ByteArray) : M Value := match elemOfS P dst with
  | some el => match isU8 P el && (P.underlying src).isSome && Nat.ble b.size 4096 with
    | true => forceL (b.data.toList.map fun x => Value.int .u8 x.toNat) fun l => mbind (mrow el l (1, 1)) fun id => forceN l.length fun n => mpure (sliceV id 0 n n)
    | false => mfail
  | none => mprun P (convert src dst (.string b))
def strOf (vs : List Value) : M Value := match bytesOf vs with
  | some bs => forceL bs fun bs => mpure (.string ⟨⟨bs⟩⟩)
  | none => mfail
def convSl (src dst : TypeId) (a : Addr) (n c : Nat) : M Value := match elemOfS P src, P.underlying dst with
  | some el, some .string => match isU8 P el with
    | true => (match Nat.beq n 0 with
      | true => mpure (.string ⟨⟨[]⟩⟩)
      | false => mbind (mload a n) strOf)
    | false => mfail
  | some _, some (.slice el') => match Nat.beq src dst && isU8 P el' && Nat.blt 0 c, a with
    | true, ⟨b, off, none⟩ => match Nat.ble 16 b with
      | true => mbind (mcells b) fun cc => (match Nat.beq cc.2.1 121 with
        | true => mfail
        | false => mpure (sliceV b off n c))
      | false => mfail
    | _, _ => mfail
  | _, _ => mfail
def convPtr (src dst : TypeId) (b off : Nat) : M Value := match P.underlying src, P.underlying dst with
  | some (.pointer t), some .unsafePointer => match szOf P t with
    | some (_ + 1) => mbind (mcells b) fun c => match Nat.blt off c.1.length with
      | true => mpure (ptrV b off)
      | false => mfail
    | _ => mfail
  | _, _ => mfail
def opConvert (src dst : TypeId) (x : Operand) (e : En) : M Value := match e x with
  | some (.string b) => convStr P src dst b
  | some (.slice (some a) n c) => convSl P src dst a n c
  | some (.pointer (some ⟨b, off, none⟩)) => convPtr P src dst b off
  | some v => match plainV v with
    | true => mprun P (convert src dst v)
    | false => mfail
  | none => mfail
def opMakeInterface (t : TypeId) (x : Operand) (e : En) : M Value := match P.underlying t with
  | some (.interface _) => mfail
  | some _ => mbind (maev (e x)) fun v => mpure (.iface t v)
  | none => mfail
def fnOk : Fn → Bool
  | .func _ => true
  | _ => false
def opMakeFunc (fn : Fn) (first captured : Array Operand) (e : En) : M Value := match fnOk fn with
  | true => mbind (aevs e first.toList) fun a => mbind (aevs e captured.toList) fun b => mpure (.func fn ⟨a⟩ ⟨b⟩)
  | false => mfail
def opMakeMap (r : Option Operand) : M Value := match r with
  | none => mbind (mnew (.map #[] 0)) fun id => mpure (.map (some id))
  | some _ => mfail
def opMakeSlice (t : TypeId) (l c : Operand) (e : En) : M Value := match e l, e c, elemOfS P t with
  | some (.int .i64 (.ofNat n)), some (.int .i64 (.ofNat m)), some el => match szOf P el, (P.info? el).map (·.bytes), zeroOf P el with
    | some size, some bytes, some z => match (Nat.ble n m && Nat.ble m 4096) && (Nat.ble bytes 4096 && Nat.beq z.length size) with
      | true => forceL (reps z m) fun l => mbind (mrow el l (0, 0)) fun id => mpure (sliceV id 0 n m)
      | false => mfail
    | _, _, _ => mfail
  | _, _, _ => mfail
def opSlice (t : TypeId) (x : Operand) (lo hi mx : Option Operand) (e : En) : M Value :=
  mbind (maev (e x)) fun x => mbind (mopt e lo) fun lo => mbind (mopt e hi) fun hi => mbind (mopt e mx) fun mx => sliceK P t x lo hi mx
/-- A field's offset, where it has cells. -/
def offOf (t : TypeId) (f : Nat) : Option Nat := match fieldOf P t f with
  | some (off, ft) => match szOf P ft with
    | some (_ + 1) => some off
    | _ => none
  | none => none
def ptrTo (a : Addr) (n : Nat) : M Value := mbind (addA a n) fun a => mpure (.pointer (some a))
def opFieldAddr (t : TypeId) (x : Operand) (f : Nat) (e : En) : M Value := match offOf P t f, e x with
  | some off, some (.pointer (some a)) => ptrTo a off
  | _, _ => mfail
def opField (t : TypeId) (x : Operand) (f : Nat) (e : En) : M Value := match fieldOf P t f, e x with
  | some (off, ft), some (.agg ⟨l⟩) => partK P ft l off
  | _, _ => mfail
def arrOf (t : TypeId) : Option (Nat × Nat × TypeId) := match P.underlying t with
  | some (.array n el) => match szOf P el with
    | some z => some (n, z, el)
    | none => none
  | _ => none
def opIndexAddr (t : TypeId) (x ix : Operand) (e : En) : M Value := match e x, e ix with
  | some (.pointer (some a)), some (.int _ (.ofNat i)) => match arrOf P t with
    | some (n, z, _) => match Nat.blt i n with
      | true => ptrTo a (i * z)
      | false => mfail
    | none => mfail
  | some (.slice (some a) n _), some (.int _ (.ofNat i)) => match (elemOfS P t).bind (szOf P), Nat.blt i n with
    | some z, true => ptrTo a (i * z)
    | _, _ => mfail
  | _, _ => mfail
def opIndex (t : TypeId) (x ix : Operand) (e : En) : M Value := match e x, e ix with
  | some (.string b), some (.int k i) => mprun P (Instr.index t (.string b) (.int k i))
  | some (.agg ⟨l⟩), some (.int _ (.ofNat i)) => match arrOf P t with
    | some (n, z, el) => match Nat.blt i n with
      | true => partK P el l (i * z)
      | false => mfail
    | none => mfail
  | _, _ => mfail
def foundV (ok : Bool) (v : Value) (b : Bool) : M Value := match plainV v, ok with
  | true, true => mpure (.tuple ⟨[v, .bool b]⟩)
  | true, false => mpure v
  | false, _ => mfail
def lookIn (t : TypeId) (k : Value) (ok : Bool) (o : Obj) : M Value := match o, P.underlying t with
  | .map es _, some (.map kt el) => match prun P (Instr.checkKey es.isEmpty 10000 kt k), prun P (Instr.findKey kt k es.toList) with
    | some _, some (some (_, v)) => foundV ok v true
    | some _, some none => match (P.info? el).bind (·.zero) with
      | some z => foundV ok z false
      | none => mfail
    | _, _ => mfail
  | _, _ => mfail
def opLookup (t : TypeId) (x ix : Operand) (ok : Bool) (e : En) : M Value := match e x, e ix with
  | some (.map (some r)), some k => match plainV k with
    | true => mbind (mget r) (lookIn P t k ok)
    | false => mfail
  | _, _ => mfail
def putIn (t : TypeId) (r : Nat) (k v : Value) (o : Obj) : M Value := match o, P.underlying t with
  | .map ⟨es⟩ c, some (.map kt _) => match prun P (Instr.checkKey false 10000 kt k), prun P (Instr.findKey kt k es) with
    | some _, some none => forceL (es ++ [{ key := k, val := v, born := c }]) fun es => forceN (c + 1) fun c => mbind (mset r (some (.map ⟨es⟩ c))) fun _ => mpure unV
    | _, _ => mfail
  | _, _ => mfail
def opMapUpdate (t : TypeId) (m k x : Operand) (e : En) : M Value := match e m, e k, e x with
  | some (.map (some r)), some k, some v => match plainV k && plainV v with
    | true => mbind (mget r) (putIn P t r k v)
    | false => mfail
  | _, _, _ => mfail
def assertV (t u : TypeId) (ok : Bool) (v : Value) : M Value := match Nat.beq u t, ok with
  | true, true => mpure (.tuple ⟨[v, .bool true]⟩)
  | true, false => mpure v
  | false, true => match (P.info? t).bind (·.zero) with
    | some z => match plainV z with
      | true => mpure (.tuple ⟨[z, .bool false]⟩)
      | false => mfail
    | none => mfail
  | false, false => mfail
def opTypeAssert (x : Operand) (t : TypeId) (ok : Bool) (e : En) : M Value := match P.underlying t with
  | some (.interface _) => mfail
  | some _ => (match e x with
    | some (.iface u v) => assertV P t u ok v
    | _ => mfail)
  | none => mfail
def opExtract (t : Operand) (i : Nat) (e : En) : M Value := match e t with
  | some (.tuple ⟨l⟩) => maev l[i]?
  | _ => mfail
def biLen (t : TypeId) (x : Value) : M Value := match P.underlying t, x with
  | some (.slice _), .slice _ n _ => mpure (.int .i64 (.ofNat n))
  | some (.array n _), _ => mpure (.int .i64 (.ofNat n))
  | some .string, .string b => forceN b.size fun n => mpure (.int .i64 (.ofNat n))
  | _, _ => mfail
def biCap (t : TypeId) (x : Value) : M Value := match P.underlying t, x with
  | some (.slice _), .slice none _ c => mpure (.int .i64 (.ofNat c))
  | some (.slice _), .slice (some ⟨b, off, none⟩) _ c => mbind (mcells b) fun d => match Nat.beq d.2.2.1 0 || !(Nat.beq (off + c * d.2.2.1) d.1.length) with
    | true => mpure (.int .i64 (.ofNat c))
    | false => mpure (.chan none)
  | _, _ => mfail
def biClear (t : TypeId) (x : Value) : M Value := match P.underlying t, x with
  | some (.slice el), .slice (some a) n _ => match Nat.beq n 0 with
    | true => mpure unV
    | false => match zeroOf P el with
      | some z => forceL (reps z n) fun l => mbind (mstore a l) fun _ => mpure unV
      | none => mfail
  | _, _ => mfail
def biCopy (t : TypeId) (x y : Value) : M Value := match (elemOfS P t).bind (szOf P), x, lenK y with
  | some z, .slice (some a) n _, some m => forceN (Nat.min m n) fun k => mbind (firstK z k y) fun vs => match Nat.beq k 0 with
    | true => mpure (.int .i64 0)
    | false => mbind (mstore a vs) fun _ => mpure (.int .i64 (.ofNat k))
  | _, _, _ => mfail
def biPl (vs : List Value) (x : Sem Value) : M Value := match vs.all plainV with
  | true => mprun P x
  | false => mfail
def biltin (ty : TypeId) (b : Builtin) (ts : List TypeId) (vs : List Value) : M Value := match b, ts, vs with
  | .len, t :: _, x :: _ => biLen P t x
  | .cap, t :: _, x :: _ => biCap P t x
  | .append, t :: ts, [x, y] => appendK P t ts.head? x y
  | .min, ts, vs => biPl P vs (Builtin.min_ ⟨ts⟩ ty ⟨vs⟩)
  | .max, ts, vs => biPl P vs (Builtin.max_ ⟨ts⟩ ty ⟨vs⟩)
  | .clear, t :: _, [x] => biClear P t x
  | .copy, t :: _, [x, y] => biCopy P t x y
  | _, _, _ => mfail
def opBuiltin (ty : TypeId) (b : Builtin) (args : Array Operand) (ts : Array TypeId) (e : En) : M Value := mbind (aevs e args.toList) fun vs => biltin P ty b ts.toList vs
/-- A function value's callee and arguments. -/
def calleeK (fv : Value) (args : List Value) : Option (FuncId × List Value) := match fv with
  | .func (.func f) ⟨a⟩ ⟨b⟩ => some (f, a ++ (args ++ b))
  | _ => none
def methodOf (t : TypeId) (name : String) : Option FuncId := match P.info? t with
  | some i => match i.methods.find? (·.name == name) with
    | some m => match m.path.isEmpty, m.func, P.underlying t with
      | true, some (_, false), some (.pointer _) => none
      | true, some (f, false), some _ => some f
      | _, _, _ => none
    | none => none
  | none => none
def opCallV (E : Callee') (f : Operand) (args : Array Operand) (e : En) : M Value := mbind (maev (e f)) fun fv => mbind (aevs e args.toList) fun vs => match calleeK fv vs with
  | some (g, vs) => forceL vs fun vs => mcall (E g vs)
  | none => mfail
def opCallI (E : Callee') (r : Operand) (name : String) (args : Array Operand) (e : En) : M Value := match e r with
  | some (.iface t v) => mbind (aevs e args.toList) fun vs => match methodOf P t name with
    | some g => mcall (E g (v :: vs))
    | none => mfail
  | _ => mfail
def deferV (fv : Value) (vs : List Value) : M Deferred := match fv with
  | .func (.func g) ⟨a⟩ ⟨b⟩ => forceL (a ++ vs) fun vs => mpure { target := .fn (.func g) ⟨b⟩, args := ⟨vs⟩ }
  | _ => mfail
def opDefer (f : Operand) (args : Array Operand) (e : En) : M Deferred := mbind (maev (e f)) fun fv => mbind (aevs e args.toList) fun vs => deferV fv vs

/-- How an operation is run: found once for each place of the text. -/
structure Dsp where
  f : Callee' → En → List Deferred → M (Value × List Deferred)
def pureD (F : En → M Value) : Dsp := ⟨fun _ e ds => mbind (F e) fun v => mpure (v, ds)⟩
def disp (o : Oper) : Dsp := match o.op with
  | .move x => pureD (opMove x)
  | .assign x => pureD (opMove x)
  | .pick c a b => pureD (opPick c a b)
  | .alloc t => pureD fun _ => opAlloc P t
  | .box t x => pureD (opBox t x)
  | .build t parts => pureD (opBuild P t parts)
  | .buildSlice t len parts => pureD (opBuildSlice P t len parts)
  | .load t a => pureD (opLoad P t a)
  | .store t a x => pureD (opStore P t a x)
  | .nilCheck x => pureD (opNilCheck x)
  | .binOp op t x y _ => pureD (opBin P op t x y)
  | .unOp op _ x => pureD (opUnOp P op x)
  | .convert src dst x => pureD (opConvert P src dst x)
  | .makeInterface t x => pureD (opMakeInterface P t x)
  | .makeFunc fn a b => pureD (opMakeFunc fn a b)
  | .makeMap _ r => pureD fun _ => opMakeMap r
  | .makeSlice t l c => pureD (opMakeSlice P t l c)
  | .slice t x lo hi mx => pureD (opSlice P t x lo hi mx)
  | .fieldAddr t x f => pureD (opFieldAddr P t x f)
  | .field t x f => pureD (opField P t x f)
  | .indexAddr t x ix => pureD (opIndexAddr P t x ix)
  | .index t x ix => pureD (opIndex P t x ix)
  | .lookup t x ix ok => pureD (opLookup P t x ix ok)
  | .mapUpdate t m k x => pureD (opMapUpdate P t m k x)
  | .insert t m k x => pureD (opMapUpdate P t m k x)
  | .typeAssert x _ t ok => pureD (opTypeAssert P x t ok)
  | .extract t i => pureD (opExtract t i)
  | .call { callee := .builtin b, args, argTypes } => pureD (opBuiltin P o.type b args argTypes)
  | .call { callee := .value f, args, argTypes := _ } => ⟨fun E e ds => mbind (opCallV E f args e) fun v => mpure (v, ds)⟩
  | .call { callee := .invoke r name, args, argTypes := _ } => ⟨fun E e ds => mbind (opCallI P E r name args e) fun v => mpure (v, ds)⟩
  | .defer { callee := .value f, args, argTypes := _ } => ⟨fun _ e ds => mbind (opDefer f args e) fun d => mpure (unV, d :: ds)⟩
  | _ => ⟨fun _ _ _ => mfail⟩

/-- Is the operation wanted? -/
def wantedK (ops : Array Oper) (t : TT) (o : Oper) : Option Bool := match o.guard with
  | none => some true
  | some (j, want) => match (ops[j]?).bind (·.dst) with
    | some d => match Nat.ble d 255, tget8 t d with
      | true, .bool b => some (b == want)
      | true, .chan none => none
      | true, _ => some false
      | false, _ => none
    | none => some false
def putK (N : Nat) (t : TT) (d : Option Tmp) (v : Value) : M TT := match d with
  | none => mpure t
  | some d => match Nat.blt d N with
    | true => tset8 t d v mpure
    | false => mfail
abbrev Ac := TT × List Deferred
def opK (E : Callee') (N : Nat) (ops : Array Oper) (o : Oper) (a : Ac) : M Ac := match a with
  | (t, ds) => match wantedK ops t o with
    | none => mfail
    | some false => mbind (putK N t o.dst unV) fun t => mpure (t, ds)
    | some true => (match disp P o with
      | ⟨f⟩ => mbind (f E (aev t) ds) fun x => match x with
        | (v, ds) => mbind (putK N t o.dst v) fun t => mpure (t, ds))
def opsK (E : Callee') (N : Nat) (ops : Array Oper) : List Oper → Ac → M Ac
  | [], a => mpure a
  | o :: l, a => mbind (opK P E N ops o a) fun a => opsK E N ops l a

def bitsOf (l : List Operand) : Nat := match l with
  | [] => 0
  | .tmp k :: l => Nat.lor (Nat.shiftLeft 1 k) (bitsOf l)
  | _ :: l => bitsOf l
def bitOf (d : Option Tmp) : Nat := match d with
  | some d => Nat.shiftLeft 1 d
  | none => 0
/-- Which temporaries an operation names. -/
def namesT (ops : Array Oper) (o : Oper) : Nat := Nat.lor (bitOf o.dst) (Nat.lor (bitsOf o.op.operands.toList) (match o.guard with
  | some (j, _) => bitOf ((ops[j]?).bind (·.dst))
  | none => 0))
/-- The marks of an operation that was run: what it wrote, what it touched, the temporary that it set, those that it names. -/
structure Trk where
  q : Nat
  a : Nat
  tw : Nat
  ta : Nat
def clash (x y : Trk) : Bool := !(Nat.beq (Nat.lor (Nat.lor (Nat.land x.q y.a) (Nat.land y.q x.a)) (Nat.lor (Nat.land x.tw y.ta) (Nat.land y.tw x.ta))) 0)
/-- Each of the earlier ones (the last first, its number k - 1) that clashes with x is known to come before it. -/
def apart (bef : Nat) (x : Trk) : Nat → List Trk → Bool
  | 0, _ => true
  | _, [] => true
  | k + 1, y :: l => (!(clash y x) || Nat.testBit bef k) && apart bef x k l
/-- A piece with its own marks. -/
def mtrk {α : Type} (F : M α) : M (α × Nat × Nat) := ⟨fun s K => match s with
  | ⟨h, n, rd, wr⟩ => F.run ⟨h, n, 0, 0⟩ fun a s => match s with
    | ⟨h, n, r, q⟩ => forceN (Nat.lor rd r) fun rd => forceN (Nat.lor wr q) fun wr => K (a, r, q) ⟨h, n, rd, wr⟩⟩
def drawK (E : Callee') (N : Nat) (ops : Array Oper) (ds : List Deferred) : List Oper → List Nat → Nat → List Trk → TT → M TT
  | [], _, _, _, t => mpure t
  | o :: l, bef, k, acc, t => mbind (mtrk (opK P E N ops o (t, ds))) fun x => match x with
    | ((t, ds'), r, q) =>
      let x : Trk := ⟨q, Nat.lor r q, bitOf o.dst, namesT ops o⟩
      match ds'.isEmpty && apart (bef.headD 0) x k acc with
      | true => forceN (k + 1) fun k => drawK E N ops ds l bef.tail k (x :: acc) t
      | false => mfail
def edgesOk (ops : Array Oper) : Bool := (List.range ops.size).all fun i => ((ops[i]?).map fun o => o.after.all fun e => !Region.binds .any e || decide (e.on < i)).getD true

abbrev Ea := Exit × TT × List Deferred
abbrev EvT := Code → Nat → Ac → M Ea
def cdDraw (E : Callee') (ops : Array Oper) (N : Nat) (a : Ac) : M Ea := match edgesOk ops, a with
  | true, (t, []) => mbind (drawK P E N ops [] ops.toList (Region.before ops).toList 0 [] t) fun t => mpure (.normal, t, [])
  | _, _ => mfail
def cdSeq (Ev : EvT) (b : Code) (N : Nat) (x : Ea) : M Ea := match x with
  | (.normal, t, ds) => Ev b N (t, ds)
  | x => mpure x
def cdCond (Ev : EvT) (c : Operand) (a b : Code) (N : Nat) (x : Ac) : M Ea := match aev x.1 c with
  | some (.bool true) => Ev a N x
  | some (.bool false) => Ev b N x
  | _ => mfail
def cdBlock (id : Nat) (x : Ea) : M Ea := match x with
  | (.exit id', a) => match Nat.beq id' id with
    | true => mpure (.normal, a)
    | false => mpure (.exit id', a)
  | x => mpure x
def cdScope (x : Ea) : M Ea := match x with
  | (.goto _, _) => mfail
  | x => mpure x

/-- Code: how it is run is found once for each place of the text. -/
structure Stp where
  f : EvT → Callee' → Nat → Ac → M Ea
def stp (c : Code) : Stp := match c with
  | .skip => ⟨fun _ _ _ a => mpure (.normal, a)⟩
  | .label _ => ⟨fun _ _ _ a => mpure (.normal, a)⟩
  | .region _ ops false => ⟨fun _ E N a => mbind (opsK P E N ops ops.toList a) fun a => mpure (.normal, a)⟩
  | .region _ ops true => ⟨fun _ E N a => cdDraw P E ops N a⟩
  | .seq x y => ⟨fun Ev _ N a => mbind (Ev x N a) (cdSeq Ev y N)⟩
  | .cond c x y => ⟨fun Ev _ N a => cdCond Ev c x y N a⟩
  | .block id c => ⟨fun Ev _ N a => mbind (Ev c N a) (cdBlock id)⟩
  | .loop c => ⟨fun Ev _ N a => mbind (Ev c N a) (cdSeq Ev (.loop c) N)⟩
  | .scope c => ⟨fun Ev _ N a => mbind (Ev c N a) cdScope⟩
  | .exit id => ⟨fun _ _ _ a => mpure (.exit id, a)⟩
  | .ret => ⟨fun _ _ _ a => mpure (.ret, a)⟩
  | _ => ⟨fun _ _ _ _ => mfail⟩
def evStep (Ev : EvT) (E : Callee') (c : Code) (N : Nat) (a : Ac) : M Ea := match stp P c with
  | ⟨f⟩ => f Ev E N a

/-- Results of a call. -/
def resK (t : TT) : List ResultVar → M (List Value)
  | [] => mpure []
  | .tmp k :: l => match Nat.ble k 255 with
    | true => mbind (resK t l) fun vs => mpure (tget8 t k :: vs)
    | false => mfail
  | .cell a ty :: l => match Nat.ble a 255, tget8 t a with
    | true, .pointer (some x) => mbind (loadK x (aggOf P ty) (szOf P ty)) fun v => mbind (resK t l) fun vs => mpure (v :: vs)
    | _, _ => mfail
def tupK (vs : List Value) : Value := match vs with
  | [v] => v
  | vs => .tuple ⟨vs⟩
def argsT : TT → Nat → List Value → M TT
  | t, _, [] => mpure t
  | t, k, v :: l => mbind (tset8 t k v mpure) fun t => forceN (k + 1) fun k => argsT t k l

/-- What a call without a body of its own, or by a contract, tells. -/
abbrev Hook := FuncId → List Value → Option (Hp → Option (Value × Hp))

/-- A deferred call: a body that defers nothing. -/
def leaveD (fn : Func) (x : Ea) : M Value := match x with
  | (.normal, t, []) => mbind (resK P t fn.results.toList) fun vs => mpure (tupK vs)
  | (.ret, t, []) => mbind (resK P t fn.results.toList) fun vs => mpure (tupK vs)
  | _ => mfail
def enterD (Ev : EvT) (fn : Func) (args : List Value) : M Value :=
  match fn.body, Nat.ble fn.ntmps 256 && Nat.ble args.length fn.ntmps with
  | some c, true => mbind (argsT (tmk8 unV) 0 args) fun t => mbind (Ev c fn.ntmps (t, [])) (leaveD P fn)
  | _, _ => mfail
def callD (X : Hook) (Ev : EvT) : Callee' := fun f args s => match X f args with
  | some _ => none
  | none => match P.funcs[f]? with
    | none => none
    | some fn => (enterD P Ev fn args).run s fun v s => some (v, s)
def defK (D : Hook) (E : Callee') (d : Deferred) : M Value := match d.target, d.args with
  | .fn (.func g) ⟨b⟩, ⟨a⟩ => forceL (a ++ b) fun vs => match D g vs with
    | some F => mcall F
    | none => mcall (E g vs)
  | _, _ => mfail
def defsK (D : Hook) (E : Callee') : List Deferred → M Unit
  | [] => mpure ()
  | d :: ds => mbind (defK D E d) fun _ => defsK D E ds
def leaveK (D : Hook) (E : Callee') (fn : Func) (x : Ea) : M Value := match x with
  | (.normal, t, ds) => mbind (defsK D E ds) fun _ => mbind (resK P t fn.results.toList) fun vs => mpure (tupK vs)
  | (.ret, t, ds) => mbind (defsK D E ds) fun _ => mbind (resK P t fn.results.toList) fun vs => mpure (tupK vs)
  | _ => mfail
def enterK (D : Hook) (Ev : EvT) (E : Callee') (fn : Func) (args : List Value) : M Value :=
  match fn.body, Nat.ble fn.ntmps 256 && Nat.ble args.length fn.ntmps with
  | some c, true => mbind (argsT (tmk8 unV) 0 args) fun t => mbind (Ev c fn.ntmps (t, [])) (leaveK P D E fn)
  | _, _ => mfail
/-- A call: its body, then what it deferred, then its results. -/
def callK (X D : Hook) (Ev : EvT) (E : Callee') (f : FuncId) (args : List Value) (s : Hp) : Option (Value × Hp) :=
  match X f args with
  | some F => F s
  | none => match P.funcs[f]? with
    | none => none
    | some fn => (enterK P D Ev E fn args).run s fun v s => some (v, s)

/-- Code and calls, to a depth. -/
def ev (X D : Hook) : Nat → EvT
  | 0 => fun _ _ _ => mfail
  | n + 1 => evStep P (ev X D n) (callK P X D (ev X D n) (callD P X (ev X D n)))
def call (X D : Hook) (n : Nat) : Callee' := callK P X D (ev P X D n) (callD P X (ev P X D n))
end
end Go.Proofs.YtpijenlmfmknnaaGreatDoor
