/- spec.Between and impl.Between answer what the plain reckoning says. -/
import Derived.Test.YtjannojebngoeaaKeyI
import Derived.Test.YtjannojebngoeaaBtS
import Derived.Test.YtjannojebngoeaaKlS
import Derived.Test.YtjannojebngoeaaKlI
namespace Go.Proofs.Ytjannojebngoeaa
open Go.RowKit
set_option linter.unusedVariables false
set_option maxRecDepth 100000

theorem bad_cases (a b : List Int) :
    (0 < a.length ∧ keyB a = false ∧ btAll a b = none) ∨
    ((¬ 0 < a.length ∨ (0 < a.length ∧ keyB a = true)) ∧ 0 < b.length ∧ keyB b = false ∧ btAll a b = none) ∨
    ((¬ 0 < a.length ∨ (0 < a.length ∧ keyB a = true)) ∧ 0 < b.length ∧ keyB b = true ∧ klB a b = false ∧ btAll a b = none) ∨
    ((¬ 0 < a.length ∨ (0 < a.length ∧ keyB a = true)) ∧ (¬ 0 < b.length ∨ (0 < b.length ∧ keyB b = true ∧ klB a b = true)) ∧ btAll a b = bt a b ∧ (decide (0 < a.length) && !keyB a) = false ∧ (decide (0 < b.length) && !keyB b) = false) := by
  unfold btAll btBad
  by_cases h1 : 0 < a.length <;> by_cases h2 : 0 < b.length <;> cases keyB a <;> cases keyB b <;> cases klB a b <;> simp [h1, h2]

theorem bt_none {w w' : World} {r : Option (List Int)} (h : r = none) (hB : Below w.heap.size w w') : BtAns w w' (.returned (.tuple #[.slice none 0 0, .bool false])) r :=
  ⟨.slice none 0 0, [], by rw [h]; rfl, ownz_nil _ _, hide (by rw [h]; rfl), hB⟩

set_option maxHeartbeats 6400000 in
theorem btS_all (w : World) (u v : Value) (a b : List Int) (hu : Ints w u a) (hv : Ints w v b) :
    Calls Try.prog 26 #[u, v] w fun e w' => BtAns w w' e (btAll a b) := by
  have HU := hide hu
  have HV := hide hv
  have HKA := hide (keyS_b w u a hu)
  have HKB := hide (keyS_b w v b hv)
  have HKL := hide (klS_any w u v a b hu hv)
  have hma := hu.2.1
  have hmb := hv.2.1
  unfold maxLen at hma hmb
  obtain ⟨a1, c1, rfl, _⟩ := hu.shape
  obtain ⟨a2, c2, rfl, _⟩ := hv.shape
  clear hu hv
  rcases bad_cases a b with ⟨p1, p2, hn⟩ | ⟨p0, p1, p2, hn⟩ | ⟨p0, p1, p2, p3, hn⟩ | ⟨p0, p1, hn, ra, rb⟩
  · have HN := hide hn
    clear hn
    rw [p2] at HKA
    go_enter Try.func26, Try.ntmps26
    go_wp2_with fail
    refine (unhide HKA).mono ?_
    rintro e w1 ⟨rfl, ew⟩
    obtain rfl := ew.symm
    clear ew
    go_wp2_with fail
    go_ret2
    exact bt_none (unhide HN) (Below.refl _ _)
  · have HN := hide hn
    clear hn
    rw [p2] at HKB
    rcases p0 with p0 | ⟨p0, q0⟩
    · go_enter Try.func26, Try.ntmps26
      go_wp2_with fail
      refine (unhide HKB).mono ?_
      rintro e w1 ⟨rfl, ew⟩
      obtain rfl := ew.symm
      clear ew
      go_wp2_with fail
      go_ret2
      exact bt_none (unhide HN) (Below.refl _ _)
    · rw [q0] at HKA
      go_enter Try.func26, Try.ntmps26
      go_wp2_with fail
      refine (unhide HKA).mono ?_
      rintro e w1 ⟨rfl, ew⟩
      obtain rfl := ew.symm
      clear ew
      go_wp2_with fail
      refine (unhide HKB).mono ?_
      rintro e w1 ⟨rfl, ew⟩
      obtain rfl := ew.symm
      clear ew
      go_wp2_with fail
      go_ret2
      exact bt_none (unhide HN) (Below.refl _ _)
  · have HN := hide hn
    clear hn
    rw [p2] at HKB
    rw [p3] at HKL
    rcases p0 with p0 | ⟨p0, q0⟩
    · go_enter Try.func26, Try.ntmps26
      go_wp2_with fail
      refine (unhide HKB).mono ?_
      rintro e w1 ⟨rfl, ew⟩
      obtain rfl := ew.symm
      clear ew
      go_wp2_with fail
      refine (unhide HKL).mono ?_
      rintro e w1 ⟨rfl, hB1⟩
      go_wp2_with fail
      go_ret2
      exact bt_none (unhide HN) hB1
    · rw [q0] at HKA
      go_enter Try.func26, Try.ntmps26
      go_wp2_with fail
      refine (unhide HKA).mono ?_
      rintro e w1 ⟨rfl, ew⟩
      obtain rfl := ew.symm
      clear ew
      go_wp2_with fail
      refine (unhide HKB).mono ?_
      rintro e w1 ⟨rfl, ew⟩
      obtain rfl := ew.symm
      clear ew
      go_wp2_with fail
      refine (unhide HKL).mono ?_
      rintro e w1 ⟨rfl, hB1⟩
      go_wp2_with fail
      go_ret2
      exact bt_none (unhide HN) hB1
  · have HR := hide (key_rng ra)
    have HS := hide (key_rng rb)
    have HN := hide hn
    clear hn ra rb
    rcases p0 with p0 | ⟨p0, q0⟩ <;> rcases p1 with p1 | ⟨p1, q1, q2⟩
    · have hB1 := Below.refl w.heap.size w
      go_enter Try.func26, Try.ntmps26
      go_wp2_with fail
      refine (btS_any w _ _ a b (unhide HU) (unhide HV) (unhide HR) (unhide HS)).mono ?_
      rintro e w2 ⟨rv, rl, rfl, ro, rh, rB⟩
      rw [← unhide HN] at rh ⊢
      go_wp2
      go_ret2
      exact ⟨rv, rl, rfl, ro, rh, rB⟩
    · rw [q1] at HKB
      rw [q2] at HKL
      go_enter Try.func26, Try.ntmps26
      go_wp2_with fail
      refine (unhide HKB).mono ?_
      rintro e w1 ⟨rfl, ew⟩
      obtain rfl := ew.symm
      clear ew
      go_wp2_with fail
      refine (unhide HKL).mono ?_
      rintro e w1 ⟨rfl, hB1⟩
      go_wp2_with fail
      refine (btS_any w1 _ _ a b ((unhide HU).keep hB1) ((unhide HV).keep hB1) (unhide HR) (unhide HS)).mono ?_
      rintro e w2 ⟨rv, rl, rfl, ro, rh, rB⟩
      rw [← unhide HN] at rh ⊢
      go_wp2
      go_ret2
      exact ⟨rv, rl, rfl, ro.mono hB1.size, rh, bstep hB1 rB⟩
    · rw [q0] at HKA
      have hB1 := Below.refl w.heap.size w
      go_enter Try.func26, Try.ntmps26
      go_wp2_with fail
      refine (unhide HKA).mono ?_
      rintro e w1 ⟨rfl, ew⟩
      obtain rfl := ew.symm
      clear ew
      go_wp2_with fail
      refine (btS_any w _ _ a b (unhide HU) (unhide HV) (unhide HR) (unhide HS)).mono ?_
      rintro e w2 ⟨rv, rl, rfl, ro, rh, rB⟩
      rw [← unhide HN] at rh ⊢
      go_wp2
      go_ret2
      exact ⟨rv, rl, rfl, ro, rh, rB⟩
    · rw [q0] at HKA
      rw [q1] at HKB
      rw [q2] at HKL
      go_enter Try.func26, Try.ntmps26
      go_wp2_with fail
      refine (unhide HKA).mono ?_
      rintro e w1 ⟨rfl, ew⟩
      obtain rfl := ew.symm
      clear ew
      go_wp2_with fail
      refine (unhide HKB).mono ?_
      rintro e w1 ⟨rfl, ew⟩
      obtain rfl := ew.symm
      clear ew
      go_wp2_with fail
      refine (unhide HKL).mono ?_
      rintro e w1 ⟨rfl, hB1⟩
      go_wp2_with fail
      refine (btS_any w1 _ _ a b ((unhide HU).keep hB1) ((unhide HV).keep hB1) (unhide HR) (unhide HS)).mono ?_
      rintro e w2 ⟨rv, rl, rfl, ro, rh, rB⟩
      rw [← unhide HN] at rh ⊢
      go_wp2
      go_ret2
      exact ⟨rv, rl, rfl, ro.mono hB1.size, rh, bstep hB1 rB⟩

set_option maxHeartbeats 6400000 in
theorem btI_all (w : World) (u v : Value) (a b : List Int) (hu : Ints w u a) (hv : Ints w v b) :
    Calls Try.prog 27 #[u, v] w fun e w' => BtAns w w' e (btAll a b) := by
  have HU := hide hu
  have HV := hide hv
  have HKA := hide (keyI_b w u a hu)
  have HKB := hide (keyI_b w v b hv)
  have HKL := hide (klI_any w u v a b hu hv)
  have hma := hu.2.1
  have hmb := hv.2.1
  unfold maxLen at hma hmb
  obtain ⟨a1, c1, rfl, _⟩ := hu.shape
  obtain ⟨a2, c2, rfl, _⟩ := hv.shape
  clear hu hv
  rcases bad_cases a b with ⟨p1, p2, hn⟩ | ⟨p0, p1, p2, hn⟩ | ⟨p0, p1, p2, p3, hn⟩ | ⟨p0, p1, hn, ra, rb⟩
  · have HN := hide hn
    clear hn
    rw [p2] at HKA
    go_enter Try.func27, Try.ntmps27
    go_wp2_with fail
    refine (unhide HKA).mono ?_
    rintro e w1 ⟨rfl, ew⟩
    obtain rfl := ew.symm
    clear ew
    go_wp2_with fail
    go_ret2
    exact bt_none (unhide HN) (Below.refl _ _)
  · have HN := hide hn
    clear hn
    rw [p2] at HKB
    rcases p0 with p0 | ⟨p0, q0⟩
    · go_enter Try.func27, Try.ntmps27
      go_wp2_with fail
      refine (unhide HKB).mono ?_
      rintro e w1 ⟨rfl, ew⟩
      obtain rfl := ew.symm
      clear ew
      go_wp2_with fail
      go_ret2
      exact bt_none (unhide HN) (Below.refl _ _)
    · rw [q0] at HKA
      go_enter Try.func27, Try.ntmps27
      go_wp2_with fail
      refine (unhide HKA).mono ?_
      rintro e w1 ⟨rfl, ew⟩
      obtain rfl := ew.symm
      clear ew
      go_wp2_with fail
      refine (unhide HKB).mono ?_
      rintro e w1 ⟨rfl, ew⟩
      obtain rfl := ew.symm
      clear ew
      go_wp2_with fail
      go_ret2
      exact bt_none (unhide HN) (Below.refl _ _)
  · have HN := hide hn
    clear hn
    rw [p2] at HKB
    rw [p3] at HKL
    rcases p0 with p0 | ⟨p0, q0⟩
    · go_enter Try.func27, Try.ntmps27
      go_wp2_with fail
      refine (unhide HKB).mono ?_
      rintro e w1 ⟨rfl, ew⟩
      obtain rfl := ew.symm
      clear ew
      go_wp2_with fail
      refine (unhide HKL).mono ?_
      rintro e w1 ⟨rfl, hB1⟩
      go_wp2_with fail
      go_ret2
      exact bt_none (unhide HN) hB1
    · rw [q0] at HKA
      go_enter Try.func27, Try.ntmps27
      go_wp2_with fail
      refine (unhide HKA).mono ?_
      rintro e w1 ⟨rfl, ew⟩
      obtain rfl := ew.symm
      clear ew
      go_wp2_with fail
      refine (unhide HKB).mono ?_
      rintro e w1 ⟨rfl, ew⟩
      obtain rfl := ew.symm
      clear ew
      go_wp2_with fail
      refine (unhide HKL).mono ?_
      rintro e w1 ⟨rfl, hB1⟩
      go_wp2_with fail
      go_ret2
      exact bt_none (unhide HN) hB1
  · have HR := hide (key_rng ra)
    have HS := hide (key_rng rb)
    have HN := hide hn
    clear hn ra rb
    rw [unhide HN]
    clear HN
    obtain ⟨z, hz⟩ : ∃ z, z = decide (b.length = 0) := ⟨_, rfl⟩
    have hz1 : ((b.length : Int) == 0) = z := by rw [hz]; by_cases h : b.length = 0 <;> simp [h]
    have HQ := hide (show bt a b = btGo a b 12 0 z [] by rw [hz]; rfl)
    clear hz
    rcases p0 with p0 | ⟨p0, q0⟩ <;> rcases p1 with p1 | ⟨p1, q1, q2⟩
    · have hB1 := Below.refl w.heap.size w
      go_enter Try.func27, Try.ntmps27
      go_wp2_with fail
      go_loopw [6, 7, 38] (fun o p i wr => ∃ (f k : Nat) (z : Bool) (out : List Int), k + f = 12 ∧ p = .bool z ∧ i = .int .i64 k ∧ OwnZ wr w.heap.size o out ∧ out.length = k ∧ Hid (bt a b = btGo a b f k z out) ∧ Below w.heap.size w wr) (fun _ _ i _ => 12 - (intOf i).toNat)
      case atStart => exact ⟨12, 0, z, [], rfl, rfl, rfl, ownz_nil _ _, rfl, HQ, hB1⟩
      case round =>
        clear HQ hz1
        obtain ⟨f, k, z, out, hkf, rfl, rfl, ho, hol, HQ, hB⟩ := hrel
        cases f with
        | zero =>
          obtain rfl : k = 12 := by omega
          have HD := hide (show bt a b = none from unhide HQ)
          clear HQ
          go_wp2
          go_ret2
          exact ⟨.slice none 0 0, [], by rw [unhide HD]; rfl, ownz_nil _ _, hide (by rw [unhide HD]; rfl), hB⟩
        | succ f =>
          have hk : (k : Int) < 12 := by omega
          obtain ⟨lo, hlo⟩ : ∃ x, x = a.getD k 0 := ⟨_, rfl⟩
          obtain ⟨hi, hhi⟩ : ∃ x, x = hiB b k z := ⟨_, rfl⟩
          have r1 := unhide HR k
          have r2 : 0 ≤ hi ∧ hi ≤ 1000 := by rw [hhi]; unfold hiB; have := unhide HS k; split <;> omega
          rw [← hlo] at r1
          obtain ⟨r1, r1'⟩ := r1
          obtain ⟨r2, r2'⟩ := r2
          have HY := hide (fun (h : 1 < hi - lo) => (unhide HQ).trans (btGo_yes (by rw [← hlo, ← hhi]; exact h)))
          have HO := hide (fun (h : ¬ 1 < hi - lo) => (unhide HQ).trans (btGo_on (by rw [← hlo, ← hhi]; exact h)))
          rw [← hlo, ← hhi] at HY HO
          clear HQ
          have HB2 := hide (show z = false → hi = b.getD k 0 by intro hz; rw [hhi, hz]; rfl)
          have HB1 := hide (show z = true → hi = 1000 by intro hz; rw [hhi, hz]; rfl)
          clear hhi
          have HA := hide ((digI_any wr _ a k ((unhide HU).keep hB)))
          have HC := hide ((digI_any wr _ b k ((unhide HV).keep hB)))
          rw [← hlo] at HA
          clear hlo
          have hlast : ∀ x : Int, 0 ≤ x → x ≤ 1000 → Ints (wr.alloc (.cells #[.int .i64 x] 3)) (.slice (some ⟨wr.heap.size, 0, none⟩) 1 1) [x] := fun x h0 h1 => int_one wr x (by omega) (by omega)
          have HL := hide hlast
          clear hlast
          rcases Bool.eq_false_or_eq_true z with rfl | rfl
          · obtain rfl := unhide HB1 rfl
            clear HB1 HB2
            by_cases hc : 1 < 1000 - lo
            · have HD := hide (unhide HY hc)
              clear HY HO
              have hc' : decide (1 < 1000 - lo) = true := by simpa using hc
              have e2 : (lo + 1000).tdiv 2 = (lo + 1000) / 2 := by rw [Int.tdiv_eq_ediv_of_nonneg (by omega)]
              go_wp2_with fail
              refine (unhide HA).mono ?_
              rintro e w1 ⟨rfl, rfl⟩
              go_wp2_with (at_builtin; refine wpList_appZ rfl _ _ rfl w.heap.size _ out rfl (ho.alloc _) _ [(lo + 1000) / 2] rfl (by first | exact unhide HL ((lo + 1000) / 2) (by omega) (by omega) | (rw [e2]; exact unhide HL ((lo + 1000) / 2) (by omega) (by omega))) ?c1 ?c2 ?_)
              case c1 => first | omega | (simp; omega)
              case c2 => have := hB.size; first | omega | (simp; omega)
              intro v2 w2 ho2 hg2
              have hB2 : Below w.heap.size w w2 := bstepBy (hB.alloc hB.size _) hg2 (fun g hg => (ho.lt g hg).1)
              go_wp2
              go_ret2
              exact ⟨_, _, by rw [unhide HD]; rfl, ho2, hide (by rw [unhide HD]; rfl), hB2⟩
            · have HD := hide (unhide HO hc)
              clear HY HO
              have hc' : decide (1 < 1000 - lo) = false := by simpa using hc
              go_wp2_with fail
              refine (unhide HA).mono ?_
              rintro e w1 ⟨rfl, rfl⟩
              go_wp2_with (at_builtin; refine wpList_appZ rfl _ _ rfl w.heap.size _ out rfl (ho.alloc _) _ [lo] rfl (unhide HL lo (by omega) (by omega)) ?c1 ?c2 ?_)
              case c1 => first | omega | (simp; omega)
              case c2 => have := hB.size; first | omega | (simp; omega)
              intro v2 w2 ho2 hg2
              have hB2 : Below w.heap.size w w2 := bstepBy (hB.alloc hB.size _) hg2 (fun g hg => (ho.lt g hg).1)
              rcases Bool.eq_false_or_eq_true (decide (lo < 1000)) with hd | hd
              all_goals
                rw [hd] at HD
                go_wp2
                go_roundw
                case rel => exact ⟨f, k + 1, _, out ++ [lo], by omega, rfl, by go_num, ho2, by simp; omega, HD, hB2⟩
                case measure => simp [intOf]; omega
          · have hb := unhide HB2 rfl
            clear HB1 HB2
            rw [← hb] at HC
            clear hb
            by_cases hc : 1 < hi - lo
            · have HD := hide (unhide HY hc)
              clear HY HO
              have hc' : decide (1 < hi - lo) = true := by simpa using hc
              have e2 : (lo + hi).tdiv 2 = (lo + hi) / 2 := by rw [Int.tdiv_eq_ediv_of_nonneg (by omega)]
              go_wp2_with fail
              refine (unhide HA).mono ?_
              rintro e w1 ⟨rfl, rfl⟩
              go_wp2_with fail
              refine (unhide HC).mono ?_
              rintro e w1 ⟨rfl, rfl⟩
              go_wp2_with (at_builtin; refine wpList_appZ rfl _ _ rfl w.heap.size _ out rfl (ho.alloc _) _ [(lo + hi) / 2] rfl (by first | exact unhide HL ((lo + hi) / 2) (by omega) (by omega) | (rw [e2]; exact unhide HL ((lo + hi) / 2) (by omega) (by omega))) ?c1 ?c2 ?_)
              case c1 => first | omega | (simp; omega)
              case c2 => have := hB.size; first | omega | (simp; omega)
              intro v2 w2 ho2 hg2
              have hB2 : Below w.heap.size w w2 := bstepBy (hB.alloc hB.size _) hg2 (fun g hg => (ho.lt g hg).1)
              go_wp2
              go_ret2
              exact ⟨_, _, by rw [unhide HD]; rfl, ho2, hide (by rw [unhide HD]; rfl), hB2⟩
            · have HD := hide (unhide HO hc)
              clear HY HO
              have hc' : decide (1 < hi - lo) = false := by simpa using hc
              go_wp2_with fail
              refine (unhide HA).mono ?_
              rintro e w1 ⟨rfl, rfl⟩
              go_wp2_with fail
              refine (unhide HC).mono ?_
              rintro e w1 ⟨rfl, rfl⟩
              go_wp2_with (at_builtin; refine wpList_appZ rfl _ _ rfl w.heap.size _ out rfl (ho.alloc _) _ [lo] rfl (unhide HL lo (by omega) (by omega)) ?c1 ?c2 ?_)
              case c1 => first | omega | (simp; omega)
              case c2 => have := hB.size; first | omega | (simp; omega)
              intro v2 w2 ho2 hg2
              have hB2 : Below w.heap.size w w2 := bstepBy (hB.alloc hB.size _) hg2 (fun g hg => (ho.lt g hg).1)
              rcases Bool.eq_false_or_eq_true (decide (lo < hi)) with hd | hd
              all_goals
                rw [hd] at HD
                go_wp2
                go_roundw
                case rel => exact ⟨f, k + 1, _, out ++ [lo], by omega, rfl, by go_num, ho2, by simp; omega, HD, hB2⟩
                case measure => simp [intOf]; omega
    · rw [q1] at HKB
      rw [q2] at HKL
      go_enter Try.func27, Try.ntmps27
      go_wp2_with fail
      refine (unhide HKB).mono ?_
      rintro e w1 ⟨rfl, ew⟩
      obtain rfl := ew.symm
      clear ew
      go_wp2_with fail
      refine (unhide HKL).mono ?_
      rintro e w1 ⟨rfl, hB1⟩
      go_wp2_with fail
      go_loopw [6, 7, 38] (fun o p i wr => ∃ (f k : Nat) (z : Bool) (out : List Int), k + f = 12 ∧ p = .bool z ∧ i = .int .i64 k ∧ OwnZ wr w.heap.size o out ∧ out.length = k ∧ Hid (bt a b = btGo a b f k z out) ∧ Below w.heap.size w wr) (fun _ _ i _ => 12 - (intOf i).toNat)
      case atStart => exact ⟨12, 0, z, [], rfl, rfl, rfl, ownz_nil _ _, rfl, HQ, hB1⟩
      case round =>
        clear HQ hz1
        obtain ⟨f, k, z, out, hkf, rfl, rfl, ho, hol, HQ, hB⟩ := hrel
        cases f with
        | zero =>
          obtain rfl : k = 12 := by omega
          have HD := hide (show bt a b = none from unhide HQ)
          clear HQ
          go_wp2
          go_ret2
          exact ⟨.slice none 0 0, [], by rw [unhide HD]; rfl, ownz_nil _ _, hide (by rw [unhide HD]; rfl), hB⟩
        | succ f =>
          have hk : (k : Int) < 12 := by omega
          obtain ⟨lo, hlo⟩ : ∃ x, x = a.getD k 0 := ⟨_, rfl⟩
          obtain ⟨hi, hhi⟩ : ∃ x, x = hiB b k z := ⟨_, rfl⟩
          have r1 := unhide HR k
          have r2 : 0 ≤ hi ∧ hi ≤ 1000 := by rw [hhi]; unfold hiB; have := unhide HS k; split <;> omega
          rw [← hlo] at r1
          obtain ⟨r1, r1'⟩ := r1
          obtain ⟨r2, r2'⟩ := r2
          have HY := hide (fun (h : 1 < hi - lo) => (unhide HQ).trans (btGo_yes (by rw [← hlo, ← hhi]; exact h)))
          have HO := hide (fun (h : ¬ 1 < hi - lo) => (unhide HQ).trans (btGo_on (by rw [← hlo, ← hhi]; exact h)))
          rw [← hlo, ← hhi] at HY HO
          clear HQ
          have HB2 := hide (show z = false → hi = b.getD k 0 by intro hz; rw [hhi, hz]; rfl)
          have HB1 := hide (show z = true → hi = 1000 by intro hz; rw [hhi, hz]; rfl)
          clear hhi
          have HA := hide ((digI_any wr _ a k ((unhide HU).keep hB)))
          have HC := hide ((digI_any wr _ b k ((unhide HV).keep hB)))
          rw [← hlo] at HA
          clear hlo
          have hlast : ∀ x : Int, 0 ≤ x → x ≤ 1000 → Ints (wr.alloc (.cells #[.int .i64 x] 3)) (.slice (some ⟨wr.heap.size, 0, none⟩) 1 1) [x] := fun x h0 h1 => int_one wr x (by omega) (by omega)
          have HL := hide hlast
          clear hlast
          rcases Bool.eq_false_or_eq_true z with rfl | rfl
          · obtain rfl := unhide HB1 rfl
            clear HB1 HB2
            by_cases hc : 1 < 1000 - lo
            · have HD := hide (unhide HY hc)
              clear HY HO
              have hc' : decide (1 < 1000 - lo) = true := by simpa using hc
              have e2 : (lo + 1000).tdiv 2 = (lo + 1000) / 2 := by rw [Int.tdiv_eq_ediv_of_nonneg (by omega)]
              go_wp2_with fail
              refine (unhide HA).mono ?_
              rintro e w1 ⟨rfl, rfl⟩
              go_wp2_with (at_builtin; refine wpList_appZ rfl _ _ rfl w.heap.size _ out rfl (ho.alloc _) _ [(lo + 1000) / 2] rfl (by first | exact unhide HL ((lo + 1000) / 2) (by omega) (by omega) | (rw [e2]; exact unhide HL ((lo + 1000) / 2) (by omega) (by omega))) ?c1 ?c2 ?_)
              case c1 => first | omega | (simp; omega)
              case c2 => have := hB.size; first | omega | (simp; omega)
              intro v2 w2 ho2 hg2
              have hB2 : Below w.heap.size w w2 := bstepBy (hB.alloc hB.size _) hg2 (fun g hg => (ho.lt g hg).1)
              go_wp2
              go_ret2
              exact ⟨_, _, by rw [unhide HD]; rfl, ho2, hide (by rw [unhide HD]; rfl), hB2⟩
            · have HD := hide (unhide HO hc)
              clear HY HO
              have hc' : decide (1 < 1000 - lo) = false := by simpa using hc
              go_wp2_with fail
              refine (unhide HA).mono ?_
              rintro e w1 ⟨rfl, rfl⟩
              go_wp2_with (at_builtin; refine wpList_appZ rfl _ _ rfl w.heap.size _ out rfl (ho.alloc _) _ [lo] rfl (unhide HL lo (by omega) (by omega)) ?c1 ?c2 ?_)
              case c1 => first | omega | (simp; omega)
              case c2 => have := hB.size; first | omega | (simp; omega)
              intro v2 w2 ho2 hg2
              have hB2 : Below w.heap.size w w2 := bstepBy (hB.alloc hB.size _) hg2 (fun g hg => (ho.lt g hg).1)
              rcases Bool.eq_false_or_eq_true (decide (lo < 1000)) with hd | hd
              all_goals
                rw [hd] at HD
                go_wp2
                go_roundw
                case rel => exact ⟨f, k + 1, _, out ++ [lo], by omega, rfl, by go_num, ho2, by simp; omega, HD, hB2⟩
                case measure => simp [intOf]; omega
          · have hb := unhide HB2 rfl
            clear HB1 HB2
            rw [← hb] at HC
            clear hb
            by_cases hc : 1 < hi - lo
            · have HD := hide (unhide HY hc)
              clear HY HO
              have hc' : decide (1 < hi - lo) = true := by simpa using hc
              have e2 : (lo + hi).tdiv 2 = (lo + hi) / 2 := by rw [Int.tdiv_eq_ediv_of_nonneg (by omega)]
              go_wp2_with fail
              refine (unhide HA).mono ?_
              rintro e w1 ⟨rfl, rfl⟩
              go_wp2_with fail
              refine (unhide HC).mono ?_
              rintro e w1 ⟨rfl, rfl⟩
              go_wp2_with (at_builtin; refine wpList_appZ rfl _ _ rfl w.heap.size _ out rfl (ho.alloc _) _ [(lo + hi) / 2] rfl (by first | exact unhide HL ((lo + hi) / 2) (by omega) (by omega) | (rw [e2]; exact unhide HL ((lo + hi) / 2) (by omega) (by omega))) ?c1 ?c2 ?_)
              case c1 => first | omega | (simp; omega)
              case c2 => have := hB.size; first | omega | (simp; omega)
              intro v2 w2 ho2 hg2
              have hB2 : Below w.heap.size w w2 := bstepBy (hB.alloc hB.size _) hg2 (fun g hg => (ho.lt g hg).1)
              go_wp2
              go_ret2
              exact ⟨_, _, by rw [unhide HD]; rfl, ho2, hide (by rw [unhide HD]; rfl), hB2⟩
            · have HD := hide (unhide HO hc)
              clear HY HO
              have hc' : decide (1 < hi - lo) = false := by simpa using hc
              go_wp2_with fail
              refine (unhide HA).mono ?_
              rintro e w1 ⟨rfl, rfl⟩
              go_wp2_with fail
              refine (unhide HC).mono ?_
              rintro e w1 ⟨rfl, rfl⟩
              go_wp2_with (at_builtin; refine wpList_appZ rfl _ _ rfl w.heap.size _ out rfl (ho.alloc _) _ [lo] rfl (unhide HL lo (by omega) (by omega)) ?c1 ?c2 ?_)
              case c1 => first | omega | (simp; omega)
              case c2 => have := hB.size; first | omega | (simp; omega)
              intro v2 w2 ho2 hg2
              have hB2 : Below w.heap.size w w2 := bstepBy (hB.alloc hB.size _) hg2 (fun g hg => (ho.lt g hg).1)
              rcases Bool.eq_false_or_eq_true (decide (lo < hi)) with hd | hd
              all_goals
                rw [hd] at HD
                go_wp2
                go_roundw
                case rel => exact ⟨f, k + 1, _, out ++ [lo], by omega, rfl, by go_num, ho2, by simp; omega, HD, hB2⟩
                case measure => simp [intOf]; omega
    · rw [q0] at HKA
      have hB1 := Below.refl w.heap.size w
      go_enter Try.func27, Try.ntmps27
      go_wp2_with fail
      refine (unhide HKA).mono ?_
      rintro e w1 ⟨rfl, ew⟩
      obtain rfl := ew.symm
      clear ew
      go_wp2_with fail
      go_loopw [6, 7, 38] (fun o p i wr => ∃ (f k : Nat) (z : Bool) (out : List Int), k + f = 12 ∧ p = .bool z ∧ i = .int .i64 k ∧ OwnZ wr w.heap.size o out ∧ out.length = k ∧ Hid (bt a b = btGo a b f k z out) ∧ Below w.heap.size w wr) (fun _ _ i _ => 12 - (intOf i).toNat)
      case atStart => exact ⟨12, 0, z, [], rfl, rfl, rfl, ownz_nil _ _, rfl, HQ, hB1⟩
      case round =>
        clear HQ hz1
        obtain ⟨f, k, z, out, hkf, rfl, rfl, ho, hol, HQ, hB⟩ := hrel
        cases f with
        | zero =>
          obtain rfl : k = 12 := by omega
          have HD := hide (show bt a b = none from unhide HQ)
          clear HQ
          go_wp2
          go_ret2
          exact ⟨.slice none 0 0, [], by rw [unhide HD]; rfl, ownz_nil _ _, hide (by rw [unhide HD]; rfl), hB⟩
        | succ f =>
          have hk : (k : Int) < 12 := by omega
          obtain ⟨lo, hlo⟩ : ∃ x, x = a.getD k 0 := ⟨_, rfl⟩
          obtain ⟨hi, hhi⟩ : ∃ x, x = hiB b k z := ⟨_, rfl⟩
          have r1 := unhide HR k
          have r2 : 0 ≤ hi ∧ hi ≤ 1000 := by rw [hhi]; unfold hiB; have := unhide HS k; split <;> omega
          rw [← hlo] at r1
          obtain ⟨r1, r1'⟩ := r1
          obtain ⟨r2, r2'⟩ := r2
          have HY := hide (fun (h : 1 < hi - lo) => (unhide HQ).trans (btGo_yes (by rw [← hlo, ← hhi]; exact h)))
          have HO := hide (fun (h : ¬ 1 < hi - lo) => (unhide HQ).trans (btGo_on (by rw [← hlo, ← hhi]; exact h)))
          rw [← hlo, ← hhi] at HY HO
          clear HQ
          have HB2 := hide (show z = false → hi = b.getD k 0 by intro hz; rw [hhi, hz]; rfl)
          have HB1 := hide (show z = true → hi = 1000 by intro hz; rw [hhi, hz]; rfl)
          clear hhi
          have HA := hide ((digI_any wr _ a k ((unhide HU).keep hB)))
          have HC := hide ((digI_any wr _ b k ((unhide HV).keep hB)))
          rw [← hlo] at HA
          clear hlo
          have hlast : ∀ x : Int, 0 ≤ x → x ≤ 1000 → Ints (wr.alloc (.cells #[.int .i64 x] 3)) (.slice (some ⟨wr.heap.size, 0, none⟩) 1 1) [x] := fun x h0 h1 => int_one wr x (by omega) (by omega)
          have HL := hide hlast
          clear hlast
          rcases Bool.eq_false_or_eq_true z with rfl | rfl
          · obtain rfl := unhide HB1 rfl
            clear HB1 HB2
            by_cases hc : 1 < 1000 - lo
            · have HD := hide (unhide HY hc)
              clear HY HO
              have hc' : decide (1 < 1000 - lo) = true := by simpa using hc
              have e2 : (lo + 1000).tdiv 2 = (lo + 1000) / 2 := by rw [Int.tdiv_eq_ediv_of_nonneg (by omega)]
              go_wp2_with fail
              refine (unhide HA).mono ?_
              rintro e w1 ⟨rfl, rfl⟩
              go_wp2_with (at_builtin; refine wpList_appZ rfl _ _ rfl w.heap.size _ out rfl (ho.alloc _) _ [(lo + 1000) / 2] rfl (by first | exact unhide HL ((lo + 1000) / 2) (by omega) (by omega) | (rw [e2]; exact unhide HL ((lo + 1000) / 2) (by omega) (by omega))) ?c1 ?c2 ?_)
              case c1 => first | omega | (simp; omega)
              case c2 => have := hB.size; first | omega | (simp; omega)
              intro v2 w2 ho2 hg2
              have hB2 : Below w.heap.size w w2 := bstepBy (hB.alloc hB.size _) hg2 (fun g hg => (ho.lt g hg).1)
              go_wp2
              go_ret2
              exact ⟨_, _, by rw [unhide HD]; rfl, ho2, hide (by rw [unhide HD]; rfl), hB2⟩
            · have HD := hide (unhide HO hc)
              clear HY HO
              have hc' : decide (1 < 1000 - lo) = false := by simpa using hc
              go_wp2_with fail
              refine (unhide HA).mono ?_
              rintro e w1 ⟨rfl, rfl⟩
              go_wp2_with (at_builtin; refine wpList_appZ rfl _ _ rfl w.heap.size _ out rfl (ho.alloc _) _ [lo] rfl (unhide HL lo (by omega) (by omega)) ?c1 ?c2 ?_)
              case c1 => first | omega | (simp; omega)
              case c2 => have := hB.size; first | omega | (simp; omega)
              intro v2 w2 ho2 hg2
              have hB2 : Below w.heap.size w w2 := bstepBy (hB.alloc hB.size _) hg2 (fun g hg => (ho.lt g hg).1)
              rcases Bool.eq_false_or_eq_true (decide (lo < 1000)) with hd | hd
              all_goals
                rw [hd] at HD
                go_wp2
                go_roundw
                case rel => exact ⟨f, k + 1, _, out ++ [lo], by omega, rfl, by go_num, ho2, by simp; omega, HD, hB2⟩
                case measure => simp [intOf]; omega
          · have hb := unhide HB2 rfl
            clear HB1 HB2
            rw [← hb] at HC
            clear hb
            by_cases hc : 1 < hi - lo
            · have HD := hide (unhide HY hc)
              clear HY HO
              have hc' : decide (1 < hi - lo) = true := by simpa using hc
              have e2 : (lo + hi).tdiv 2 = (lo + hi) / 2 := by rw [Int.tdiv_eq_ediv_of_nonneg (by omega)]
              go_wp2_with fail
              refine (unhide HA).mono ?_
              rintro e w1 ⟨rfl, rfl⟩
              go_wp2_with fail
              refine (unhide HC).mono ?_
              rintro e w1 ⟨rfl, rfl⟩
              go_wp2_with (at_builtin; refine wpList_appZ rfl _ _ rfl w.heap.size _ out rfl (ho.alloc _) _ [(lo + hi) / 2] rfl (by first | exact unhide HL ((lo + hi) / 2) (by omega) (by omega) | (rw [e2]; exact unhide HL ((lo + hi) / 2) (by omega) (by omega))) ?c1 ?c2 ?_)
              case c1 => first | omega | (simp; omega)
              case c2 => have := hB.size; first | omega | (simp; omega)
              intro v2 w2 ho2 hg2
              have hB2 : Below w.heap.size w w2 := bstepBy (hB.alloc hB.size _) hg2 (fun g hg => (ho.lt g hg).1)
              go_wp2
              go_ret2
              exact ⟨_, _, by rw [unhide HD]; rfl, ho2, hide (by rw [unhide HD]; rfl), hB2⟩
            · have HD := hide (unhide HO hc)
              clear HY HO
              have hc' : decide (1 < hi - lo) = false := by simpa using hc
              go_wp2_with fail
              refine (unhide HA).mono ?_
              rintro e w1 ⟨rfl, rfl⟩
              go_wp2_with fail
              refine (unhide HC).mono ?_
              rintro e w1 ⟨rfl, rfl⟩
              go_wp2_with (at_builtin; refine wpList_appZ rfl _ _ rfl w.heap.size _ out rfl (ho.alloc _) _ [lo] rfl (unhide HL lo (by omega) (by omega)) ?c1 ?c2 ?_)
              case c1 => first | omega | (simp; omega)
              case c2 => have := hB.size; first | omega | (simp; omega)
              intro v2 w2 ho2 hg2
              have hB2 : Below w.heap.size w w2 := bstepBy (hB.alloc hB.size _) hg2 (fun g hg => (ho.lt g hg).1)
              rcases Bool.eq_false_or_eq_true (decide (lo < hi)) with hd | hd
              all_goals
                rw [hd] at HD
                go_wp2
                go_roundw
                case rel => exact ⟨f, k + 1, _, out ++ [lo], by omega, rfl, by go_num, ho2, by simp; omega, HD, hB2⟩
                case measure => simp [intOf]; omega
    · rw [q0] at HKA
      rw [q1] at HKB
      rw [q2] at HKL
      go_enter Try.func27, Try.ntmps27
      go_wp2_with fail
      refine (unhide HKA).mono ?_
      rintro e w1 ⟨rfl, ew⟩
      obtain rfl := ew.symm
      clear ew
      go_wp2_with fail
      refine (unhide HKB).mono ?_
      rintro e w1 ⟨rfl, ew⟩
      obtain rfl := ew.symm
      clear ew
      go_wp2_with fail
      refine (unhide HKL).mono ?_
      rintro e w1 ⟨rfl, hB1⟩
      go_wp2_with fail
      go_loopw [6, 7, 38] (fun o p i wr => ∃ (f k : Nat) (z : Bool) (out : List Int), k + f = 12 ∧ p = .bool z ∧ i = .int .i64 k ∧ OwnZ wr w.heap.size o out ∧ out.length = k ∧ Hid (bt a b = btGo a b f k z out) ∧ Below w.heap.size w wr) (fun _ _ i _ => 12 - (intOf i).toNat)
      case atStart => exact ⟨12, 0, z, [], rfl, rfl, rfl, ownz_nil _ _, rfl, HQ, hB1⟩
      case round =>
        clear HQ hz1
        obtain ⟨f, k, z, out, hkf, rfl, rfl, ho, hol, HQ, hB⟩ := hrel
        cases f with
        | zero =>
          obtain rfl : k = 12 := by omega
          have HD := hide (show bt a b = none from unhide HQ)
          clear HQ
          go_wp2
          go_ret2
          exact ⟨.slice none 0 0, [], by rw [unhide HD]; rfl, ownz_nil _ _, hide (by rw [unhide HD]; rfl), hB⟩
        | succ f =>
          have hk : (k : Int) < 12 := by omega
          obtain ⟨lo, hlo⟩ : ∃ x, x = a.getD k 0 := ⟨_, rfl⟩
          obtain ⟨hi, hhi⟩ : ∃ x, x = hiB b k z := ⟨_, rfl⟩
          have r1 := unhide HR k
          have r2 : 0 ≤ hi ∧ hi ≤ 1000 := by rw [hhi]; unfold hiB; have := unhide HS k; split <;> omega
          rw [← hlo] at r1
          obtain ⟨r1, r1'⟩ := r1
          obtain ⟨r2, r2'⟩ := r2
          have HY := hide (fun (h : 1 < hi - lo) => (unhide HQ).trans (btGo_yes (by rw [← hlo, ← hhi]; exact h)))
          have HO := hide (fun (h : ¬ 1 < hi - lo) => (unhide HQ).trans (btGo_on (by rw [← hlo, ← hhi]; exact h)))
          rw [← hlo, ← hhi] at HY HO
          clear HQ
          have HB2 := hide (show z = false → hi = b.getD k 0 by intro hz; rw [hhi, hz]; rfl)
          have HB1 := hide (show z = true → hi = 1000 by intro hz; rw [hhi, hz]; rfl)
          clear hhi
          have HA := hide ((digI_any wr _ a k ((unhide HU).keep hB)))
          have HC := hide ((digI_any wr _ b k ((unhide HV).keep hB)))
          rw [← hlo] at HA
          clear hlo
          have hlast : ∀ x : Int, 0 ≤ x → x ≤ 1000 → Ints (wr.alloc (.cells #[.int .i64 x] 3)) (.slice (some ⟨wr.heap.size, 0, none⟩) 1 1) [x] := fun x h0 h1 => int_one wr x (by omega) (by omega)
          have HL := hide hlast
          clear hlast
          rcases Bool.eq_false_or_eq_true z with rfl | rfl
          · obtain rfl := unhide HB1 rfl
            clear HB1 HB2
            by_cases hc : 1 < 1000 - lo
            · have HD := hide (unhide HY hc)
              clear HY HO
              have hc' : decide (1 < 1000 - lo) = true := by simpa using hc
              have e2 : (lo + 1000).tdiv 2 = (lo + 1000) / 2 := by rw [Int.tdiv_eq_ediv_of_nonneg (by omega)]
              go_wp2_with fail
              refine (unhide HA).mono ?_
              rintro e w1 ⟨rfl, rfl⟩
              go_wp2_with (at_builtin; refine wpList_appZ rfl _ _ rfl w.heap.size _ out rfl (ho.alloc _) _ [(lo + 1000) / 2] rfl (by first | exact unhide HL ((lo + 1000) / 2) (by omega) (by omega) | (rw [e2]; exact unhide HL ((lo + 1000) / 2) (by omega) (by omega))) ?c1 ?c2 ?_)
              case c1 => first | omega | (simp; omega)
              case c2 => have := hB.size; first | omega | (simp; omega)
              intro v2 w2 ho2 hg2
              have hB2 : Below w.heap.size w w2 := bstepBy (hB.alloc hB.size _) hg2 (fun g hg => (ho.lt g hg).1)
              go_wp2
              go_ret2
              exact ⟨_, _, by rw [unhide HD]; rfl, ho2, hide (by rw [unhide HD]; rfl), hB2⟩
            · have HD := hide (unhide HO hc)
              clear HY HO
              have hc' : decide (1 < 1000 - lo) = false := by simpa using hc
              go_wp2_with fail
              refine (unhide HA).mono ?_
              rintro e w1 ⟨rfl, rfl⟩
              go_wp2_with (at_builtin; refine wpList_appZ rfl _ _ rfl w.heap.size _ out rfl (ho.alloc _) _ [lo] rfl (unhide HL lo (by omega) (by omega)) ?c1 ?c2 ?_)
              case c1 => first | omega | (simp; omega)
              case c2 => have := hB.size; first | omega | (simp; omega)
              intro v2 w2 ho2 hg2
              have hB2 : Below w.heap.size w w2 := bstepBy (hB.alloc hB.size _) hg2 (fun g hg => (ho.lt g hg).1)
              rcases Bool.eq_false_or_eq_true (decide (lo < 1000)) with hd | hd
              all_goals
                rw [hd] at HD
                go_wp2
                go_roundw
                case rel => exact ⟨f, k + 1, _, out ++ [lo], by omega, rfl, by go_num, ho2, by simp; omega, HD, hB2⟩
                case measure => simp [intOf]; omega
          · have hb := unhide HB2 rfl
            clear HB1 HB2
            rw [← hb] at HC
            clear hb
            by_cases hc : 1 < hi - lo
            · have HD := hide (unhide HY hc)
              clear HY HO
              have hc' : decide (1 < hi - lo) = true := by simpa using hc
              have e2 : (lo + hi).tdiv 2 = (lo + hi) / 2 := by rw [Int.tdiv_eq_ediv_of_nonneg (by omega)]
              go_wp2_with fail
              refine (unhide HA).mono ?_
              rintro e w1 ⟨rfl, rfl⟩
              go_wp2_with fail
              refine (unhide HC).mono ?_
              rintro e w1 ⟨rfl, rfl⟩
              go_wp2_with (at_builtin; refine wpList_appZ rfl _ _ rfl w.heap.size _ out rfl (ho.alloc _) _ [(lo + hi) / 2] rfl (by first | exact unhide HL ((lo + hi) / 2) (by omega) (by omega) | (rw [e2]; exact unhide HL ((lo + hi) / 2) (by omega) (by omega))) ?c1 ?c2 ?_)
              case c1 => first | omega | (simp; omega)
              case c2 => have := hB.size; first | omega | (simp; omega)
              intro v2 w2 ho2 hg2
              have hB2 : Below w.heap.size w w2 := bstepBy (hB.alloc hB.size _) hg2 (fun g hg => (ho.lt g hg).1)
              go_wp2
              go_ret2
              exact ⟨_, _, by rw [unhide HD]; rfl, ho2, hide (by rw [unhide HD]; rfl), hB2⟩
            · have HD := hide (unhide HO hc)
              clear HY HO
              have hc' : decide (1 < hi - lo) = false := by simpa using hc
              go_wp2_with fail
              refine (unhide HA).mono ?_
              rintro e w1 ⟨rfl, rfl⟩
              go_wp2_with fail
              refine (unhide HC).mono ?_
              rintro e w1 ⟨rfl, rfl⟩
              go_wp2_with (at_builtin; refine wpList_appZ rfl _ _ rfl w.heap.size _ out rfl (ho.alloc _) _ [lo] rfl (unhide HL lo (by omega) (by omega)) ?c1 ?c2 ?_)
              case c1 => first | omega | (simp; omega)
              case c2 => have := hB.size; first | omega | (simp; omega)
              intro v2 w2 ho2 hg2
              have hB2 : Below w.heap.size w w2 := bstepBy (hB.alloc hB.size _) hg2 (fun g hg => (ho.lt g hg).1)
              rcases Bool.eq_false_or_eq_true (decide (lo < hi)) with hd | hd
              all_goals
                rw [hd] at HD
                go_wp2
                go_roundw
                case rel => exact ⟨f, k + 1, _, out ++ [lo], by omega, rfl, by go_num, ho2, by simp; omega, HD, hB2⟩
                case measure => simp [intOf]; omega
end Go.Proofs.Ytjannojebngoeaa
