/- Own texts joined: HeldA, HeldN, HeldT, CntT, EqT, EqPl, ToPl, SzPl, ToPls, PlK, OpenO, OpenSt. -/
import Derived.Test.YthgopknjppflhaaGreatDoorJa
import Derived.Test.YthgopknjppflhaaGreatDoorJb
import Derived.Test.YthgopknjppflhaaGreatDoorJc
import Derived.Test.YthgopknjppflhaaGreatDoorJd
import Derived.Test.YthgopknjppflhaaGreatDoorJe
import Derived.Test.YthgopknjppflhaaGreatDoorJf
import Derived.Test.YthgopknjppflhaaGreatDoorJg
import Derived.Test.YthgopknjppflhaaGreatDoorJh
import Derived.Test.YthgopknjppflhaaGreatDoorJi
import Derived.Test.YthgopknjppflhaaGreatDoorJj
import Derived.Deep.RegionHeld3
import Derived.Test.YthgopknjppflhaaGreatDoorProg
import Derived.ChangeArms
import Derived.ChangeSlices
import Derived.WideShapes

/- The laws' own helper that looks for a count in attributes, by its contract. -/
namespace Go.Proofs.YthgopknjppflhaaGreatDoor
open Go.RowKit
set_option linter.unusedVariables false
set_option maxRecDepth 100000

set_option maxHeartbeats 3200000 in
theorem heldA_any (w : World) (v : Value) (l : List (List Int × List Int)) (k : Int) (h : RdAttrs w v (mkA l k)) (hs : cntA l ≤ 4194304) (h0 : 0 ≤ k) (h1 : k ≤ 900000000) :
    Calls Tryz.prog 36 #[v, .int .i64 k] w fun e w' => e = .returned (.int .i64 (k + (cntA l : Nat))) ∧ w' = w := by
  have hml := h.1
  rw [mkA_len] at hml
  unfold maxLen at hml
  obtain ⟨a, cap, rfl, _, _⟩ := Elems.shape h
  rw [mkA_len] at h ⊢
  have hm' : (l.length : Int) ≤ 9223372036854775807 := by omega
  go_enter Tryz.func36, Tryz.ntmps36
  go_wp2_with fail
  go_loop [1, 5] (fun c i => ∃ j : Nat, j ≤ l.length ∧ i = .int .i64 j ∧ c = .int .i64 (k + (cntA (l.take j) : Nat))) (fun _ i => l.length - (intOf i).toNat)
  case atStart => exact ⟨0, Nat.zero_le _, rfl, by simp [cntA]⟩
  case round =>
    obtain ⟨j, hj, rfl, rfl⟩ := hrel
    by_cases hjl : j < l.length
    · have hat := mkA_at l k j hjl (by rw [mkA_len]; exact hjl)
      obtain ⟨b, off, rfl, hbl, hun, _, C, hC, hc, hr⟩ := h.at (k := j) (by rw [mkA_len]; exact hjl)
      clear hun
      rw [hat] at hr
      obtain ⟨v0, v1, rfl, hb0, hb1⟩ := hr
      have e0 := hc 0 (by omega)
      have e1 := hc 1 (by omega)
      simp only [List.getElem?_cons_zero, List.getElem?_cons_succ, Nat.add_zero] at e0 e1
      have hct := cntA_take l j hjl
      have hcl := cntA_le l (j + 1)
      obtain ⟨x, hx⟩ : ∃ x, x = l[j] := ⟨_, rfl⟩
      obtain ⟨q, hq⟩ : ∃ q : Int, q = k + (cntA (l.take j) : Nat) := ⟨_, rfl⟩
      rw [← hx] at hct hb0 hb1
      rw [← hq] at hb0 hb1 ⊢
      have hq0 : 0 ≤ q := by omega
      have hq1 : q ≤ 904194304 := by omega
      have hx1 : x.1.length ≤ 4194304 := by omega
      have hx2 : x.2.length ≤ 4194304 := by omega
      simp only at hb0 hb1
      obtain ⟨p0, k0, rfl, _, _⟩ := hb0.shape
      obtain ⟨p1, k1, rfl, _, _⟩ := hb1.shape
      rw [marks_len] at e0 e1 hb0 hb1
      have HQ := hide hq
      have HCT := hide hct
      have hjl' : (j : Int) < (l.length : Int) := by omega
      have d1 : decide (q + (x.1.length : Int) < 0) = false := by simp; omega
      have d2 : decide (q + (x.1.length : Int) + (x.2.length : Int) < 0) = false := by simp; omega
      have H0 := hide hb0
      have H1 := hide hb1
      clear hq hx hat hct hcl hb0 hb1 h hc
      go_wp2_with fail
      refine (heldB_any w _ x.1.length q (unhide H0) (Nat.le_trans hx1 (by decide)) hq0 (by omega)).mono ?_
      rintro e w ⟨rfl, rfl⟩
      go_wp2_with fail
      refine (heldB_any w _ x.2.length (q + (x.1.length : Nat)) (unhide H1) (Nat.le_trans hx2 (by decide)) (by omega) (by omega)).mono ?_
      rintro e w ⟨rfl, rfl⟩
      go_wp2_with fail
      go_round
      case rel => exact ⟨j + 1, by omega, by go_num, by rw [unhide HCT, unhide HQ]; go_num⟩
      case measure => simp [intOf]; omega
    · have e : j = l.length := by omega
      subst e
      clear h
      go_wp2_with fail
      go_ret
      exact ⟨rfl, rfl⟩
end Go.Proofs.YthgopknjppflhaaGreatDoor

/- The laws' own helpers that look for a count in trees, by their contracts; markNode and heldNode. -/
namespace Go.Proofs.YthgopknjppflhaaGreatDoor
open Go.RowKit
set_option linter.unusedVariables false
set_option maxRecDepth 100000

def HeldKSaid (n : Nat) : Prop := ∀ (w : World) (v : Value) (l : List (Tr n)) (k : Int), RdKids n w v (mkK n l k) → cntL (cntT n) l ≤ 4194304 → 0 ≤ k → k + (cntL (cntT n) l : Nat) ≤ 800000000 →
    Calls Tryz.prog 37 #[v, .int .i64 k] w fun e w' => e = .returned (.int .i64 (k + (cntL (cntT n) l : Nat))) ∧ w' = w

theorem heldK_nil (w : World) (a : Option Addr) (cap : Nat) (k : Int) :
    Calls Tryz.prog 37 #[.slice a 0 cap, .int .i64 k] w fun e w' => e = .returned (.int .i64 k) ∧ w' = w := by
  go_enter Tryz.func37, Tryz.ntmps37
  go_wp2_with fail
  refine wp_loop_rounds 1 ?_
  rw [rounds_succ]
  go_wp2_with fail
  go_ret
  exact ⟨rfl, rfl⟩
theorem heldK_empty (n : Nat) (w : World) (v : Value) (k : Int) (h : RdKids n w v (mkK n [] k)) :
    Calls Tryz.prog 37 #[v, .int .i64 k] w fun e w' => e = .returned (.int .i64 (k + (cntL (cntT n) [] : Nat))) ∧ w' = w := by
  obtain ⟨a, cap, rfl, _⟩ := Elems.shape h
  rw [mkK_len]
  refine (heldK_nil w a cap k).mono ?_
  rintro e w' ⟨rfl, rfl⟩
  exact ⟨by simp [cntL], rfl⟩

set_option maxHeartbeats 6400000 in
theorem heldK_succ (n : Nat) (H : HeldKSaid n) : HeldKSaid (n + 1) := by
  intro w v l k h hs h0 h1
  have hml := h.1
  rw [mkK_len] at hml
  unfold maxLen at hml
  obtain ⟨a, cap, rfl, _, _⟩ := Elems.shape h
  rw [mkK_len] at h ⊢
  have hm' : (l.length : Int) ≤ 9223372036854775807 := by omega
  go_enter Tryz.func37, Tryz.ntmps37
  go_wp2_with fail
  go_loop [1, 5] (fun c i => ∃ j : Nat, j ≤ l.length ∧ i = .int .i64 j ∧ c = .int .i64 (k + (cntL (cntT (n + 1)) (l.take j) : Nat))) (fun _ i => l.length - (intOf i).toNat)
  case atStart => exact ⟨0, Nat.zero_le _, rfl, by simp [cntL]⟩
  case round =>
    obtain ⟨j, hj, rfl, rfl⟩ := hrel
    by_cases hjl : j < l.length
    · have hat := mkK_at (n + 1) l k j hjl (by rw [mkK_len]; exact hjl)
      obtain ⟨b, off, rfl, hbl, hun, _, C, hC, hc, hr⟩ := h.at (k := j) (by rw [mkK_len]; exact hjl)
      clear hun
      rw [hat] at hr
      have hct := cntL_take (cntT (n + 1)) l j hjl
      have hcl := cntL_le (cntT (n + 1)) l (j + 1)
      have hcs := cntT_succ n l[j]
      obtain ⟨x, hx⟩ : ∃ x, x = l[j] := ⟨_, rfl⟩
      obtain ⟨q, hq⟩ : ∃ q : Int, q = k + (cntL (cntT (n + 1)) (l.take j) : Nat) := ⟨_, rfl⟩
      rw [← hx] at hct hcs hr
      rw [← hq] at hr ⊢
      have hq0 : 0 ≤ q := by omega
      have hq1 : q + (1 + cntT (n + 1) x : Nat) ≤ 800000000 := by omega
      rw [hcs] at hq1
      obtain ⟨v1, v2, v3, v4, rfl, _, _, hb1, hb2, hb3, hb4⟩ := hr
      replace hb1 : Byt w v1 (marks (q + 1) x.name.length) := hb1
      replace hb2 : Byt w v2 (marks (q + 1 + (x.name.length : Nat)) x.text.length) := hb2
      replace hb3 : RdAttrs w v3 (mkA x.attrs (q + 1 + (x.name.length : Nat) + (x.text.length : Nat))) := hb3
      replace hb4 : RdKids n w v4 (mkK n x.kids (q + 1 + (x.name.length : Nat) + (x.text.length : Nat) + (cntA x.attrs : Nat))) := hb4
      have c0 : w.cell? ⟨b, off + j * 5, none⟩ = some (.int .i64 q) := hc 0 (by omega)
      have c1 := hc 1 (by omega)
      have c2 := hc 2 (by omega)
      have c3 := hc 3 (by omega)
      have c4 := hc 4 (by omega)
      simp only [List.getElem?_cons_zero, List.getElem?_cons_succ] at c1 c2 c3 c4
      obtain ⟨p1, k1, hv1, _, _⟩ := hb1.shape
      obtain ⟨p2, k2, hv2, _, _⟩ := hb2.shape
      obtain ⟨p3, k3, hv3, _, _⟩ := Elems.shape hb3
      obtain ⟨p4, k4, hv4, _, _⟩ := Elems.shape hb4
      rw [marks_len] at hv1 hv2
      rw [mkA_len] at hv3
      rw [mkK_len] at hv4
      subst hv1 hv2 hv3 hv4
      have HQ := hide hq
      have HCT := hide hct
      have HCS := hide hcs
      have H1 := hide hb1
      have H2 := hide hb2
      have H3 := hide hb3
      have H4 := hide hb4
      have hx1 : x.name.length ≤ 4194304 := by omega
      have hx2 : x.text.length ≤ 4194304 := by omega
      have hx3 : cntA x.attrs ≤ 4194304 := by omega
      have hx4 : cntL (cntT n) x.kids ≤ 4194304 := by omega
      have hjl' : (j : Int) < (l.length : Int) := by omega
      have dq : (q != q) = false := by simp
      clear hq hct hcs hx hat hcl hb1 hb2 hb3 hb4 h hc
      generalize x.attrs.length = nat3 at *
      generalize x.kids.length = nk4 at *
      obtain ⟨s1, hs1⟩ : ∃ s1 : Int, s1 = q + 1 + (x.name.length : Nat) := ⟨_, rfl⟩
      obtain ⟨s2, hs2⟩ : ∃ s2 : Int, s2 = s1 + (x.text.length : Nat) := ⟨_, rfl⟩
      obtain ⟨s3, hs3⟩ : ∃ s3 : Int, s3 = s2 + (cntA x.attrs : Nat) := ⟨_, rfl⟩
      obtain ⟨s4, hs4⟩ : ∃ s4 : Int, s4 = s3 + (cntL (cntT n) x.kids : Nat) := ⟨_, rfl⟩
      rw [← hs1] at H2 H3 H4
      rw [← hs2] at H3 H4
      rw [← hs3] at H4
      have b1 : 0 ≤ s1 ∧ s1 ≤ 800000000 := by omega
      have b2 : 0 ≤ s2 ∧ s2 ≤ 800000000 := by omega
      have b3 : 0 ≤ s3 ∧ s3 + (cntL (cntT n) x.kids : Nat) ≤ 800000000 := by omega
      have b4 : 0 ≤ s4 := by omega
      have d1 : decide (s1 < 0) = false := by simp; omega
      have d2 : decide (s2 < 0) = false := by simp; omega
      have d3 : decide (s3 < 0) = false := by simp; omega
      have d4 : decide (s4 < 0) = false := by simp; omega
      have HS := hide (And.intro hs1 (And.intro hs2 (And.intro hs3 hs4)))
      clear hs1 hs2 hs3 hs4
      go_wp2_with fail
      refine (heldB_any w _ x.name.length (q + 1) (unhide H1) (Nat.le_trans hx1 (by decide)) (by omega) (by omega)).mono ?_
      rintro e w ⟨rfl, rfl⟩
      rw [← (unhide HS).1]
      go_wp2_with fail
      refine (heldB_any w _ x.text.length s1 (unhide H2) (Nat.le_trans hx2 (by decide)) b1.1 (by omega)).mono ?_
      rintro e w ⟨rfl, rfl⟩
      rw [← (unhide HS).2.1]
      go_wp2_with fail
      refine (heldA_any w _ x.attrs s2 (unhide H3) hx3 b2.1 (by omega)).mono ?_
      rintro e w ⟨rfl, rfl⟩
      rw [← (unhide HS).2.2.1]
      go_wp2_with fail
      refine (H w _ x.kids s3 (unhide H4) hx4 b3.1 b3.2).mono ?_
      rintro e w ⟨rfl, rfl⟩
      rw [← (unhide HS).2.2.2]
      go_wp2_with fail
      go_round
      case rel =>
        refine ⟨j + 1, by omega, by go_num, ?_⟩
        obtain ⟨e1, e2, e3, e4⟩ := unhide HS
        rw [unhide HCT, unhide HCS]
        have := unhide HQ
        congr 1
        omega
      case measure => simp [intOf]; omega
    · have e : j = l.length := by omega
      subst e
      clear h
      go_wp2_with fail
      go_ret
      exact ⟨rfl, rfl⟩
theorem heldK_any (n : Nat) : HeldKSaid n := by
  induction n with
  | zero =>
    intro w v l k h _ _ _
    cases l with
    | nil => exact heldK_empty 0 w v k h
    | cons x r => exact x.elim
  | succ n ih => exact heldK_succ n ih

end Go.Proofs.YthgopknjppflhaaGreatDoor

/- heldNode, by its contract. -/
namespace Go.Proofs.YthgopknjppflhaaGreatDoor
open Go.RowKit
set_option linter.unusedVariables false
set_option maxRecDepth 100000

set_option maxHeartbeats 3200000 in
/-- heldNode. -/
theorem heldN_any (n : Nat) (w : World) (a0 a b c d : Value) (t : Tr (n + 1)) (k : Int) (h : RdNode (n + 1) w [a0, a, b, c, d] (mkT' (n + 1) t k)) (hs : cntT (n + 1) t ≤ 4194304) (h0 : 0 ≤ k) (h1 : k + (cntT (n + 1) t : Nat) ≤ 800000000) :
    Calls Tryz.prog 12 #[.agg #[a0, a, b, c, d], .int .i64 k] w fun e w' => e = .returned (.int .i64 (k + (cntT (n + 1) t : Nat))) ∧ Below w.heap.size w w' := by
  obtain ⟨_, _, _, _, e0, hk1, hk2, ha, hb, hc, hd⟩ := h
  simp only [List.cons.injEq, and_true] at e0
  obtain ⟨rfl, rfl, rfl, rfl, rfl⟩ := e0
  replace ha : Byt w a (marks k t.name.length) := ha
  replace hb : Byt w b (marks (k + (t.name.length : Nat)) t.text.length) := hb
  replace hc : RdAttrs w c (mkA t.attrs (k + (t.name.length : Nat) + (t.text.length : Nat))) := hc
  replace hd : RdKids n w d (mkK n t.kids (k + (t.name.length : Nat) + (t.text.length : Nat) + (cntA t.attrs : Nat))) := hd
  obtain ⟨z, hz⟩ : ∃ z, z = (mkT' (n + 1) t k).kind := ⟨_, rfl⟩
  rw [← hz]
  clear hz hk1 hk2
  have hcs := cntT_succ n t
  rw [hcs] at hs h1 ⊢
  obtain ⟨p1, k1, hv1, _, _⟩ := ha.shape
  obtain ⟨p2, k2, hv2, _, _⟩ := hb.shape
  obtain ⟨p3, k3, hv3, _, _⟩ := Elems.shape hc
  obtain ⟨p4, k4, hv4, _, _⟩ := Elems.shape hd
  rw [marks_len] at hv1 hv2
  rw [mkA_len] at hv3
  rw [mkK_len] at hv4
  subst hv1 hv2 hv3 hv4
  have hx1 : t.name.length ≤ 4194304 := by omega
  have hx2 : t.text.length ≤ 4194304 := by omega
  have hx3 : cntA t.attrs ≤ 4194304 := by omega
  have hx4 : cntL (cntT n) t.kids ≤ 4194304 := by omega
  have hB1 : Below w.heap.size w (w.alloc (.cells #[.int .i64 z, .slice p1 t.name.length k1, .slice p2 t.text.length k2, .slice p3 t.attrs.length k3, .slice p4 t.kids.length k4] 30)) := (Below.refl _ _).alloc (Nat.le_refl _) _
  have l1 := Loc.made w #[.int .i64 z, .slice p1 t.name.length k1, .slice p2 t.text.length k2, .slice p3 t.attrs.length k3, .slice p4 t.kids.length k4] 30
  obtain ⟨s1, hs1⟩ : ∃ s1 : Int, s1 = k + (t.name.length : Nat) := ⟨_, rfl⟩
  obtain ⟨s2, hs2⟩ : ∃ s2 : Int, s2 = s1 + (t.text.length : Nat) := ⟨_, rfl⟩
  obtain ⟨s3, hs3⟩ : ∃ s3 : Int, s3 = s2 + (cntA t.attrs : Nat) := ⟨_, rfl⟩
  obtain ⟨s4, hs4⟩ : ∃ s4 : Int, s4 = s3 + (cntL (cntT n) t.kids : Nat) := ⟨_, rfl⟩
  rw [← hs1] at hb hc hd
  rw [← hs2] at hc hd
  rw [← hs3] at hd
  have b1 : 0 ≤ s1 ∧ s1 ≤ 800000000 := by omega
  have b2 : 0 ≤ s2 ∧ s2 ≤ 800000000 := by omega
  have b3 : 0 ≤ s3 ∧ s3 + (cntL (cntT n) t.kids : Nat) ≤ 800000000 := by omega
  have b4 : 0 ≤ s4 := by omega
  have d1 : decide (s1 < 0) = false := by simp; omega
  have d2 : decide (s2 < 0) = false := by simp; omega
  have d3 : decide (s3 < 0) = false := by simp; omega
  have d4 : decide (s4 < 0) = false := by simp; omega
  have hk9 : k ≤ 1000000000 := by omega
  have HS := hide (And.intro hs1 (And.intro hs2 (And.intro hs3 hs4)))
  clear hs1 hs2 hs3 hs4 hcs
  go_enter Tryz.func12, Tryz.ntmps12
  go_wp2_with fail
  generalize (w.alloc (.cells #[.int .i64 z, .slice p1 t.name.length k1, .slice p2 t.text.length k2, .slice p3 t.attrs.length k3, .slice p4 t.kids.length k4] 30)) = w1 at *
  obtain ⟨x0, x1, x2, x3, x4⟩ := l1.five
  refine (heldB_any w1 _ t.name.length k (ha.keep hB1) (Nat.le_trans hx1 (by decide)) h0 hk9).mono ?_
  rintro e w1 ⟨rfl, rfl⟩
  rw [← (unhide HS).1]
  go_wp2_with fail
  refine (heldB_any w1 _ t.text.length s1 (hb.keep hB1) (Nat.le_trans hx2 (by decide)) b1.1 (by omega)).mono ?_
  rintro e w1 ⟨rfl, rfl⟩
  rw [← (unhide HS).2.1]
  go_wp2_with fail
  refine (heldA_any w1 _ t.attrs s2 (hc.keep hB1) hx3 b2.1 (by omega)).mono ?_
  rintro e w1 ⟨rfl, rfl⟩
  rw [← (unhide HS).2.2.1]
  go_wp2_with fail
  refine (heldK_any n w1 _ t.kids s3 (RdKids.keep hd hB1) hx4 b3.1 b3.2).mono ?_
  rintro e w1 ⟨rfl, rfl⟩
  rw [← (unhide HS).2.2.2]
  go_wp2_with fail
  go_ret
  refine ⟨?_, hB1⟩
  obtain ⟨e1, e2, e3, e4⟩ := unhide HS
  refine ret_i64 ?_
  omega
end Go.Proofs.YthgopknjppflhaaGreatDoor

/- What marks count of a tree is no more than its size. -/
namespace Go.Proofs.YthgopknjppflhaaGreatDoor
open Go.RowKit
set_option linter.unusedVariables false

theorem cntL_sum {α : Type} (f g : α → Nat) (H : ∀ x, f x ≤ g x) : ∀ l : List α, cntL f l ≤ l.length + (l.map g).sum
  | [] => by simp [cntL]
  | x :: l => by
    have h1 := cntL_sum f g H l
    have h2 := H x
    simp only [cntL, List.map_cons, List.length_cons, List.sum_cons]
    omega
theorem cntA_sum : ∀ l : List (List Int × List Int), cntA l ≤ szA l
  | [] => by simp [cntA, szA]
  | x :: l => by
    have h1 := cntA_sum l
    unfold szA at h1 ⊢
    simp only [cntA, List.map_cons, List.length_cons, List.sum_cons]
    omega
theorem cntT_sz : ∀ (n : Nat) (t : Tr n), cntT n t ≤ szT n t
  | 0, t => t.elim
  | n + 1, t => by
    have h1 := cntA_sum t.attrs
    have h2 := cntL_sum (cntT n) (szT n) (cntT_sz n) t.kids
    have h4 : szT (n + 1) t = t.name.length + t.text.length + szA t.attrs + (t.kids.length + (t.kids.map (szT n)).sum) := rfl
    rw [cntT_succ, h4]
    omega

end Go.Proofs.YthgopknjppflhaaGreatDoor

/- The laws' own comparison of two trees, where both are the same: by contracts. -/
namespace Go.Proofs.YthgopknjppflhaaGreatDoor
open Go.RowKit
set_option linter.unusedVariables false

theorem eqB_true (w : World) (u v : Value) (a : List Int) (hu : Byt w u a) (hv : Byt w v a) : Calls Tryz.prog 27 #[u, v] w fun e w' => e = .returned (.bool true) ∧ Below w.heap.size w w' := by
  refine (eqB_any w u v a a hu hv).mono ?_
  rintro e w' ⟨rfl, h⟩
  exact ⟨by simp, h⟩

set_option maxHeartbeats 1600000 in
theorem eqAttr_any (w : World) (a b c d : Value) (x : List Int × List Int) (ha : Byt w a x.1) (hb : Byt w b x.2) (hc : Byt w c x.1) (hd : Byt w d x.2) :
    Calls Tryz.prog 58 #[.agg #[a, b], .agg #[c, d]] w fun e w' => e = .returned (.bool true) ∧ Below w.heap.size w w' := by
  obtain ⟨a1, k1, rfl, _, _⟩ := ha.shape
  obtain ⟨a2, k2, rfl, _, _⟩ := hb.shape
  obtain ⟨a3, k3, rfl, _, _⟩ := hc.shape
  obtain ⟨a4, k4, rfl, _, _⟩ := hd.shape
  have hA : Below w.heap.size w ((w.alloc (.cells #[.slice a1 x.1.length k1, .slice a2 x.2.length k2] 85)).alloc (.cells #[.slice a3 x.1.length k3, .slice a4 x.2.length k4] 85)) := ((Below.refl _ _).alloc (Nat.le_refl _) _).alloc (by simp) _
  go_enter Tryz.func58, Tryz.ntmps58
  go_wp2_with fail
  refine (eqB_true _ _ _ x.1 (ha.keep hA) (hc.keep hA)).mono ?_
  rintro e w1 ⟨rfl, hB1⟩
  have hA1 := bstep hA hB1
  have e1 := cell_later hB1 (show ((w.alloc (.cells #[.slice a1 x.1.length k1, .slice a2 x.2.length k2] 85)).alloc (.cells #[.slice a3 x.1.length k3, .slice a4 x.2.length k4] 85)).cell? ⟨w.heap.size, 1, none⟩ = some (.slice a2 x.2.length k2) by simp)
  have e2 := cell_later hB1 (show ((w.alloc (.cells #[.slice a1 x.1.length k1, .slice a2 x.2.length k2] 85)).alloc (.cells #[.slice a3 x.1.length k3, .slice a4 x.2.length k4] 85)).cell? ⟨w.heap.size + 1, 1, none⟩ = some (.slice a4 x.2.length k4) by simp)
  clear hB1 hA
  go_wp2_with fail
  refine (eqB_true _ _ _ x.2 (hb.keep hA1) (hd.keep hA1)).mono ?_
  rintro e w2 ⟨rfl, hB2⟩
  have hA2 := bstep hA1 hB2
  clear hB2 hA1 e1 e2
  go_wp2
  go_ret
  exact ⟨rfl, hA2⟩

set_option maxHeartbeats 1600000 in
theorem eqAttrS_any (w : World) (u v : Value) (l : List (List Int × List Int)) (hu : RdAttrs w u l) (hv : RdAttrs w v l) :
    Calls Tryz.prog 28 #[u, v] w fun e w' => e = .returned (.bool true) ∧ Below w.heap.size w w' := by
  have hm := hu.1
  unfold maxLen at hm
  by_cases h0 : l = []
  · obtain ⟨a1, c1, rfl, _⟩ := Elems.shape hu
    obtain ⟨a2, c2, rfl, _⟩ := Elems.shape hv
    subst h0
    go_enter Tryz.func28, Tryz.ntmps28
    go_wp2
    refine wp_loop_rounds 1 ?_
    rw [rounds_succ]
    go_wp2
    go_ret
    exact ⟨rfl, Below.refl _ _⟩
  obtain ⟨_, ⟨_, e⟩ | ⟨_, _, _, _, e⟩ | ⟨b, off, cap, rfl, g1, g2, g3, g4, g5⟩⟩ := hu
  · exact absurd e h0
  · exact absurd e h0
  obtain ⟨_, ⟨_, e⟩ | ⟨_, _, _, _, e⟩ | ⟨b', off', cap', rfl, f1, f2, f3, f4, f5⟩⟩ := hv
  · exact absurd e h0
  · exact absurd e h0
  go_enter Tryz.func28, Tryz.ntmps28
  go_wp2
  go_loopw [5] (fun i wr => ∃ k : Nat, k ≤ l.length ∧ i = .int .i64 k ∧ Below w.heap.size w wr) (fun i _ => l.length - (intOf i).toNat)
  case atStart => exact ⟨0, Nat.zero_le _, rfl, Below.refl _ _⟩
  case round =>
    obtain ⟨k, hk, rfl, hB⟩ := hrel
    by_cases hlt : k < l.length
    · obtain ⟨C, hC, hcell, c0, c1, rfl, hc0, hc1⟩ := g5 k hlt
      obtain ⟨D, hD, hdell, d0, d1, rfl, hd0, hd1⟩ := f5 k hlt
      have e0 := (hB.cell (p := ⟨b, off + k * 2, none⟩) g4).trans (hcell 0 (by omega))
      have e1 := (hB.cell (p := ⟨b, off + k * 2 + 1, none⟩) g4).trans (hcell 1 (by omega))
      have e2 := (hB.cell (p := ⟨b', off' + k * 2, none⟩) f4).trans (hdell 0 (by omega))
      have e3 := (hB.cell (p := ⟨b', off' + k * 2 + 1, none⟩) f4).trans (hdell 1 (by omega))
      simp only [List.getElem?_cons_zero, List.getElem?_cons_succ] at e0 e1 e2 e3
      have hk0 : (0 : Int) ≤ (k : Int) := by omega
      have hlt' : (k : Int) < (l.length : Int) := by omega
      clear hcell hdell g5 f5 hC hD
      go_wp2
      go_region_held3 (fun w' => w'.cell? ⟨b, off + k * 2, none⟩ = some c0 ∧ w'.cell? ⟨b, off + k * 2 + 1, none⟩ = some c1 ∧ w'.cell? ⟨b', off' + k * 2, none⟩ = some d0 ∧ w'.cell? ⟨b', off' + k * 2 + 1, none⟩ = some d1) (first | exact ⟨by assumption, by assumption, by assumption, by assumption⟩ | simp [*])
        ((go_at_call 58; refine (eqAttr_any _ c0 c1 d0 d1 l[k] (by exact (hc0.keep hB).keep ((Below.refl _ _).drew)) (by exact (hc1.keep hB).keep ((Below.refl _ _).drew)) (by exact (hd0.keep hB).keep ((Below.refl _ _).drew)) (by exact (hd1.keep hB).keep ((Below.refl _ _).drew))).mono ?_; rintro e w2 ⟨rfl, hB2⟩; have s0 := cell_later hB2 e0; have s1 := cell_later hB2 e1; have s2 := cell_later hB2 e2; have s3 := cell_later hB2 e3))
      have hB3 := hB.trans ((Below.drew (Below.refl wr.heap.size wr)).trans hB2 |>.mono hB.size)
      clear e0 e1 e2 e3 s0 s1 s2 s3 hB2
      go_wp2
      go_roundw
      case rel => exact ⟨k + 1, by omega, by go_num, hB3⟩
      case measure => simp [intOf]; omega
    · clear g5 f5
      go_wp2
      go_ret
      exact ⟨rfl, hB⟩

/-- What eqNode does to two nodes of depth below n that are the same. -/
def EqNodeSaid (n : Nat) : Prop := ∀ (w : World) (a b c d e a' b' c' d' e' : Value) (t : Tr n), RdNode n w [a, b, c, d, e] t → RdNode n w [a', b', c', d', e'] t →
    Calls Tryz.prog 8 #[.agg #[a, b, c, d, e], .agg #[a', b', c', d', e']] w fun e w' => e = .returned (.bool true) ∧ Below w.heap.size w w'

set_option maxHeartbeats 3200000 in
theorem eqNodeS_any (n : Nat) (H : EqNodeSaid n) (w : World) (u v : Value) (l : List (Tr n)) (hu : RdKids n w u l) (hv : RdKids n w v l) :
    Calls Tryz.prog 29 #[u, v] w fun e w' => e = .returned (.bool true) ∧ Below w.heap.size w w' := by
  have hm := hu.1
  unfold maxLen at hm
  by_cases h0 : l = []
  · obtain ⟨a1, c1, rfl, _⟩ := Elems.shape hu
    obtain ⟨a2, c2, rfl, _⟩ := Elems.shape hv
    subst h0
    go_enter Tryz.func29, Tryz.ntmps29
    go_wp2_with fail
    refine wp_loop_rounds 1 ?_
    rw [rounds_succ]
    go_wp2_with fail
    go_ret
    exact ⟨rfl, Below.refl _ _⟩
  obtain ⟨_, ⟨_, e⟩ | ⟨_, _, _, _, e⟩ | ⟨b, off, cap, rfl, g1, g2, g3, g4, g5⟩⟩ := hu
  · exact absurd e h0
  · exact absurd e h0
  obtain ⟨_, ⟨_, e⟩ | ⟨_, _, _, _, e⟩ | ⟨b', off', cap', rfl, f1, f2, f3, f4, f5⟩⟩ := hv
  · exact absurd e h0
  · exact absurd e h0
  go_enter Tryz.func29, Tryz.ntmps29
  go_wp2_with fail
  go_loopw [5] (fun i wr => ∃ k : Nat, k ≤ l.length ∧ i = .int .i64 k ∧ Below w.heap.size w wr) (fun i _ => l.length - (intOf i).toNat)
  case atStart => exact ⟨0, Nat.zero_le _, rfl, Below.refl _ _⟩
  case round =>
    obtain ⟨k, hk, rfl, hB⟩ := hrel
    by_cases hlt : k < l.length
    · obtain ⟨c0, c1, c2, c3, c4, e0, e1, e2, e3, e4, hc⟩ := five_of (g5 k hlt)
      obtain ⟨d0, d1, d2, d3, d4, i0, i1, i2, i3, i4, hd⟩ := five_of (f5 k hlt)
      replace e0 := (hB.cell (p := ⟨b, off + k * 5, none⟩) g4).trans e0
      replace e1 := (hB.cell (p := ⟨b, off + k * 5 + 1, none⟩) g4).trans e1
      replace e2 := (hB.cell (p := ⟨b, off + k * 5 + 2, none⟩) g4).trans e2
      replace e3 := (hB.cell (p := ⟨b, off + k * 5 + 3, none⟩) g4).trans e3
      replace e4 := (hB.cell (p := ⟨b, off + k * 5 + 4, none⟩) g4).trans e4
      replace i0 := (hB.cell (p := ⟨b', off' + k * 5, none⟩) f4).trans i0
      replace i1 := (hB.cell (p := ⟨b', off' + k * 5 + 1, none⟩) f4).trans i1
      replace i2 := (hB.cell (p := ⟨b', off' + k * 5 + 2, none⟩) f4).trans i2
      replace i3 := (hB.cell (p := ⟨b', off' + k * 5 + 3, none⟩) f4).trans i3
      replace i4 := (hB.cell (p := ⟨b', off' + k * 5 + 4, none⟩) f4).trans i4
      have hk0 : (0 : Int) ≤ (k : Int) := by omega
      have hlt' : (k : Int) < (l.length : Int) := by omega
      clear g5 f5
      go_wp2_with fail
      go_region_held3 (fun w' => w'.cell? ⟨b, off + k * 5, none⟩ = some c0 ∧ w'.cell? ⟨b, off + k * 5 + 1, none⟩ = some c1 ∧ w'.cell? ⟨b, off + k * 5 + 2, none⟩ = some c2 ∧ w'.cell? ⟨b, off + k * 5 + 3, none⟩ = some c3 ∧ w'.cell? ⟨b, off + k * 5 + 4, none⟩ = some c4 ∧ w'.cell? ⟨b', off' + k * 5, none⟩ = some d0 ∧ w'.cell? ⟨b', off' + k * 5 + 1, none⟩ = some d1 ∧ w'.cell? ⟨b', off' + k * 5 + 2, none⟩ = some d2 ∧ w'.cell? ⟨b', off' + k * 5 + 3, none⟩ = some d3 ∧ w'.cell? ⟨b', off' + k * 5 + 4, none⟩ = some d4) (first | exact ⟨by assumption, by assumption, by assumption, by assumption, by assumption, by assumption, by assumption, by assumption, by assumption, by assumption⟩ | simp [*])
        ((go_at_call 8; refine (H _ c0 c1 c2 c3 c4 d0 d1 d2 d3 d4 l[k] (by exact (hc.keep hB).keep ((Below.refl _ _).drew)) (by exact (hd.keep hB).keep ((Below.refl _ _).drew))).mono ?_; rintro e w2 ⟨rfl, hB2⟩; have s0 := cell_later hB2 e0; have s1 := cell_later hB2 e1; have s2 := cell_later hB2 e2; have s3 := cell_later hB2 e3; have s4 := cell_later hB2 e4; have r0 := cell_later hB2 i0; have r1 := cell_later hB2 i1; have r2 := cell_later hB2 i2; have r3 := cell_later hB2 i3; have r4 := cell_later hB2 i4))
      have hB3 := hB.trans ((Below.drew (Below.refl wr.heap.size wr)).trans hB2 |>.mono hB.size)
      clear e0 e1 e2 e3 e4 i0 i1 i2 i3 i4 s0 s1 s2 s3 s4 r0 r1 r2 r3 r4 hB2 hc hd
      go_wp2_with fail
      go_roundw
      case rel => exact ⟨k + 1, by omega, by go_num, hB3⟩
      case measure => simp [intOf]; omega
    · clear g5 f5
      go_wp2_with fail
      go_ret
      exact ⟨rfl, hB⟩

set_option maxHeartbeats 3200000 in
theorem eqNode_succ (n : Nat) (H : EqNodeSaid n) : EqNodeSaid (n + 1) := by
  intro w a b c d e a' b' c' d' e' t hr hr'
  obtain ⟨_, _, _, _, e0, k1, k2, hb, hc, hd, he⟩ := hr
  obtain ⟨_, _, _, _, e1, _, _, hb', hc', hd', he'⟩ := hr'
  simp only [List.cons.injEq, and_true] at e0 e1
  obtain ⟨rfl, rfl, rfl, rfl, rfl⟩ := e0
  obtain ⟨rfl, rfl, rfl, rfl, rfl⟩ := e1
  obtain ⟨ab, cb, rfl, _, _⟩ := hb.shape
  obtain ⟨ac, cc, rfl, _, _⟩ := hc.shape
  obtain ⟨ad, cd, rfl, _, _⟩ := Elems.shape hd
  obtain ⟨ae, ce, rfl, _, _⟩ := Elems.shape he
  obtain ⟨ab', cb', rfl, _, _⟩ := hb'.shape
  obtain ⟨ac', cc', rfl, _, _⟩ := hc'.shape
  obtain ⟨ad', cd', rfl, _, _⟩ := Elems.shape hd'
  obtain ⟨ae', ce', rfl, _, _⟩ := Elems.shape he'
  generalize hO : (Obj.cells #[.int .i64 t.kind, .slice ab t.name.length cb, .slice ac t.text.length cc, .slice ad t.attrs.length cd, .slice ae t.kids.length ce] 30) = O
  generalize hO' : (Obj.cells #[.int .i64 t.kind, .slice ab' t.name.length cb', .slice ac' t.text.length cc', .slice ad' t.attrs.length cd', .slice ae' t.kids.length ce'] 30) = O'
  have hA : Below w.heap.size w ((w.alloc O).alloc O') := ((Below.refl _ _).alloc (Nat.le_refl _) _).alloc (by simp) _
  have p2 : ((w.alloc O).alloc O').cell? ⟨w.heap.size, 2, none⟩ = some (.slice ac t.text.length cc) := by rw [← hO, ← hO']; simp
  have q2 : ((w.alloc O).alloc O').cell? ⟨w.heap.size + 1, 2, none⟩ = some (.slice ac' t.text.length cc') := by rw [← hO, ← hO']; simp
  have p3 : ((w.alloc O).alloc O').cell? ⟨w.heap.size, 3, none⟩ = some (.slice ad t.attrs.length cd) := by rw [← hO, ← hO']; simp
  have q3 : ((w.alloc O).alloc O').cell? ⟨w.heap.size + 1, 3, none⟩ = some (.slice ad' t.attrs.length cd') := by rw [← hO, ← hO']; simp
  have p4 : ((w.alloc O).alloc O').cell? ⟨w.heap.size, 4, none⟩ = some (.slice ae t.kids.length ce) := by rw [← hO, ← hO']; simp
  have q4 : ((w.alloc O).alloc O').cell? ⟨w.heap.size + 1, 4, none⟩ = some (.slice ae' t.kids.length ce') := by rw [← hO, ← hO']; simp
  have P := hide (And.intro p2 (And.intro q2 (And.intro p3 (And.intro q3 (And.intro p4 q4)))))
  clear p2 q2 p3 q3 p4 q4
  subst hO hO'
  have HA := hide hA
  clear hA
  have hkk : (t.kind != t.kind) = false := by simp
  go_enter Tryz.func8, Tryz.ntmps8
  go_wp2_with fail
  refine (eqB_true _ _ _ t.name (hb.keep (unhide HA)) (hb'.keep (unhide HA))).mono ?_
  rintro e w1 ⟨rfl, hB1⟩
  have hA1 := bstep (unhide HA) hB1
  have p2 := cell_later hB1 (unhide P).1
  have q2 := cell_later hB1 (unhide P).2.1
  have p3 := cell_later hB1 (unhide P).2.2.1
  have q3 := cell_later hB1 (unhide P).2.2.2.1
  have p4 := cell_later hB1 (unhide P).2.2.2.2.1
  have q4 := cell_later hB1 (unhide P).2.2.2.2.2
  clear hB1 P HA
  go_wp2_with fail
  refine (eqB_true _ _ _ t.text (hc.keep hA1) (hc'.keep hA1)).mono ?_
  rintro e w2 ⟨rfl, hB2⟩
  have hA2 := bstep hA1 hB2
  replace p3 := cell_later hB2 p3
  replace q3 := cell_later hB2 q3
  replace p4 := cell_later hB2 p4
  replace q4 := cell_later hB2 q4
  clear hB2 hA1 p2 q2
  go_wp2_with fail
  refine (eqAttrS_any _ _ _ t.attrs (hd.keep hA2) (hd'.keep hA2)).mono ?_
  rintro e w3 ⟨rfl, hB3⟩
  have hA3 := bstep hA2 hB3
  replace p4 := cell_later hB3 p4
  replace q4 := cell_later hB3 q4
  clear hB3 hA2 p3 q3
  go_wp2_with fail
  refine (eqNodeS_any n H _ _ _ t.kids (RdKids.keep he hA3) (RdKids.keep he' hA3)).mono ?_
  rintro e w4 ⟨rfl, hB4⟩
  have hA4 := bstep hA3 hB4
  clear hB4 hA3 p4 q4
  go_wp2_with fail
  go_ret
  exact ⟨rfl, hA4⟩

theorem eqNode_any (n : Nat) : EqNodeSaid n := by
  induction n with
  | zero => exact fun _ _ _ _ _ _ _ _ _ _ _ t => t.elim
  | succ n ih => exact eqNode_succ n ih

end Go.Proofs.YthgopknjppflhaaGreatDoor

/- laws.eqPlace, laws.eqPlaceS, laws.eqState of two that read the same. -/
namespace Go.Proofs.YthgopknjppflhaaGreatDoor
open Go.RowKit
set_option linter.unusedVariables false
set_option maxRecDepth 100000

set_option maxHeartbeats 6400000 in
theorem eqPl_same (w : World) (u v : Value) (p : PlV) (hu : RdPl w u p) (hv : RdPl w v p) :
    Calls Tryz.prog 59 #[u, v] w fun r w' => r = .returned (.bool true) ∧ Below w.heap.size w w' := by
  obtain ⟨vk, vn, vt, va, rfl, hk1, hn1, ht1, ha1⟩ := hu
  obtain ⟨uk, un, ut, ua, rfl, hk2, hn2, ht2, ha2⟩ := hv
  obtain ⟨k1, ck1, rfl, _, _⟩ := hk1.shape
  obtain ⟨n1, cn1, rfl, _, _⟩ := hn1.shape
  obtain ⟨t1, ct1, rfl, _, _⟩ := ht1.shape
  obtain ⟨a1, ca1, rfl, _, _⟩ := Elems.shape ha1
  obtain ⟨k2, ck2, rfl, _, _⟩ := hk2.shape
  obtain ⟨n2, cn2, rfl, _, _⟩ := hn2.shape
  obtain ⟨t2, ct2, rfl, _, _⟩ := ht2.shape
  obtain ⟨a2, ca2, rfl, _, _⟩ := Elems.shape ha2
  have H := hide (And.intro hk1 (And.intro hn1 (And.intro ht1 (And.intro ha1 (And.intro hk2 (And.intro hn2 (And.intro ht2 ha2)))))))
  clear hk1 hn1 ht1 ha1 hk2 hn2 ht2 ha2
  unfold plVal
  have hA : Below w.heap.size w ((w.alloc (.cells #[.int .i64 p.idN, .int .i64 p.idR, .int .i64 p.parN, .int .i64 p.parR, .slice k1 p.key.length ck1, .int .i64 p.kind, .slice n1 p.name.length cn1, .slice t1 p.text.length ct1, .slice a1 p.attrs.length ca1] 54)).alloc (.cells #[.int .i64 p.idN, .int .i64 p.idR, .int .i64 p.parN, .int .i64 p.parR, .slice k2 p.key.length ck2, .int .i64 p.kind, .slice n2 p.name.length cn2, .slice t2 p.text.length ct2, .slice a2 p.attrs.length ca2] 54)) := ((Below.refl _ _).alloc (Nat.le_refl _) _).alloc (by simp) _
  have l0 := (Loc.made w #[.int .i64 p.idN, .int .i64 p.idR, .int .i64 p.parN, .int .i64 p.parR, .slice k1 p.key.length ck1, .int .i64 p.kind, .slice n1 p.name.length cn1, .slice t1 p.text.length ct1, .slice a1 p.attrs.length ca1] 54).alloc (.cells #[.int .i64 p.idN, .int .i64 p.idR, .int .i64 p.parN, .int .i64 p.parR, .slice k2 p.key.length ck2, .int .i64 p.kind, .slice n2 p.name.length cn2, .slice t2 p.text.length ct2, .slice a2 p.attrs.length ca2] 54)
  have l1 := Loc.made (w.alloc (.cells #[.int .i64 p.idN, .int .i64 p.idR, .int .i64 p.parN, .int .i64 p.parR, .slice k1 p.key.length ck1, .int .i64 p.kind, .slice n1 p.name.length cn1, .slice t1 p.text.length ct1, .slice a1 p.attrs.length ca1] 54)) #[.int .i64 p.idN, .int .i64 p.idR, .int .i64 p.parN, .int .i64 p.parR, .slice k2 p.key.length ck2, .int .i64 p.kind, .slice n2 p.name.length cn2, .slice t2 p.text.length ct2, .slice a2 p.attrs.length ca2] 54
  simp only [World.size_alloc] at l1
  go_enter Tryz.func59, Tryz.ntmps59
  go_wp2_with fail
  generalize ((w.alloc (.cells #[.int .i64 p.idN, .int .i64 p.idR, .int .i64 p.parN, .int .i64 p.parR, .slice k1 p.key.length ck1, .int .i64 p.kind, .slice n1 p.name.length cn1, .slice t1 p.text.length ct1, .slice a1 p.attrs.length ca1] 54)).alloc (.cells #[.int .i64 p.idN, .int .i64 p.idR, .int .i64 p.parN, .int .i64 p.parR, .slice k2 p.key.length ck2, .int .i64 p.kind, .slice n2 p.name.length cn2, .slice t2 p.text.length ct2, .slice a2 p.attrs.length ca2] 54)) = W at *
  refine (eqId_true _ p.idN p.idR).mono ?_
  rintro e w1 ⟨rfl, hB⟩
  replace hA := bstep hA hB
  replace l0 := l0.all hB
  replace l1 := l1.all hB
  clear hB
  have x2 := l0.cell 2
  have y2 := l1.cell 2
  have x3 := l0.cell 3
  have y3 := l1.cell 3
  simp at x2 y2 x3 y3
  go_wp2_with fail
  clear x2 y2 x3 y3
  refine (eqId_true _ p.parN p.parR).mono ?_
  rintro e w2 ⟨rfl, hB⟩
  replace hA := bstep hA hB
  replace l0 := l0.all hB
  replace l1 := l1.all hB
  clear hB
  have x4 := l0.cell 4
  have y4 := l1.cell 4
  simp at x4 y4
  go_wp2_with fail
  clear x4 y4
  refine (eqZ4_true _ _ _ p.key ((unhide H).1.keep hA) ((unhide H).2.2.2.2.1.keep hA)).mono ?_
  rintro e w3 ⟨rfl, hB⟩
  replace hA := bstep hA hB
  replace l0 := l0.all hB
  replace l1 := l1.all hB
  clear hB
  have x5 := l0.cell 5
  have y5 := l1.cell 5
  have x6 := l0.cell 6
  have y6 := l1.cell 6
  simp at x5 y5 x6 y6
  go_wp2_with fail
  clear x5 y5 x6 y6
  refine (eqB4_true _ _ _ p.name ((unhide H).2.1.keep hA) ((unhide H).2.2.2.2.2.1.keep hA)).mono ?_
  rintro e w4 ⟨rfl, hB⟩
  replace hA := bstep hA hB
  replace l0 := l0.all hB
  replace l1 := l1.all hB
  clear hB
  have x7 := l0.cell 7
  have y7 := l1.cell 7
  simp at x7 y7
  go_wp2_with fail
  clear x7 y7
  refine (eqB4_true _ _ _ p.text ((unhide H).2.2.1.keep hA) ((unhide H).2.2.2.2.2.2.1.keep hA)).mono ?_
  rintro e w5 ⟨rfl, hB⟩
  replace hA := bstep hA hB
  replace l0 := l0.all hB
  replace l1 := l1.all hB
  clear hB
  have x8 := l0.cell 8
  have y8 := l1.cell 8
  simp at x8 y8
  go_wp2_with fail
  clear x8 y8
  refine (eqAttrS_any _ _ _ p.attrs ((unhide H).2.2.2.1.keep hA) ((unhide H).2.2.2.2.2.2.2.keep hA)).mono ?_
  rintro e w6 ⟨rfl, hB⟩
  replace hA := bstep hA hB
  replace l0 := l0.all hB
  replace l1 := l1.all hB
  clear hB
  go_wp2_with fail
  go_ret
  exact ⟨rfl, hA⟩

set_option maxHeartbeats 6400000 in
theorem eqPls_same (w : World) (u v : Value) (l : List PlV) (hu : RdPls w u l) (hv : RdPls w v l) :
    Calls Tryz.prog 30 #[u, v] w fun e w' => e = .returned (.bool true) ∧ Below w.heap.size w w' := by
  have hm := hu.1
  unfold maxLen at hm
  obtain ⟨rfl, a, cap, rfl⟩ | ⟨b, off, cap, rfl, hnil, g4, g5⟩ := hu.cases
  · obtain ⟨a', cap', rfl, _, _⟩ := Elems.shape hv
    go_enter Tryz.func30, Tryz.ntmps30
    go_wp2_with fail
    refine wp_loop_rounds 1 ?_
    rw [rounds_succ]
    go_wp2_with fail
    go_ret
    exact ⟨rfl, Below.refl _ _⟩
  obtain ⟨rfl, _⟩ | ⟨b', off', cap', rfl, _, f4, f5⟩ := hv.cases
  · exact absurd rfl hnil
  go_enter Tryz.func30, Tryz.ntmps30
  go_wp2_with fail
  go_loopw [5] (fun i wr => ∃ k : Nat, k ≤ l.length ∧ i = .int .i64 k ∧ Below w.heap.size w wr) (fun i _ => l.length - (intOf i).toNat)
  case atStart => exact ⟨0, Nat.zero_le _, rfl, Below.refl _ _⟩
  case round =>
    obtain ⟨k, hk, rfl, hB⟩ := hrel
    by_cases hlt : k < l.length
    · have HE := hide (fun W u v (hu : RdPl W u l[k]) (hv : RdPl W v l[k]) => eqPl_same W u v l[k] hu hv)
      obtain ⟨k1, c1, n1, d1, t1, f1, a1, g1, e0, e1, e2, e3, e4, e5, e6, e7, e8, hr⟩ := plc_at hB g4 (g5 k hlt)
      obtain ⟨k2, c2, n2, d2, t2, f2, a2, g2, i0, i1, i2, i3, i4, i5, i6, i7, i8, hr'⟩ := plc_at hB f4 (f5 k hlt)
      have hlt' : (k : Int) < (l.length : Int) := by omega
      have hk0 : (0 : Int) ≤ (k : Int) := by omega
      have HR := hide hr
      have HR' := hide hr'
      unfold plVal at HR HR'
      generalize l[k] = p at *
      generalize p.key.length = nK at *
      generalize p.name.length = nN at *
      generalize p.text.length = nT at *
      generalize p.attrs.length = nA at *
      clear g5 f5 hr hr' hnil
      go_wp2_with fail
      go_region_held3 (fun w' => w'.cell? ⟨b, off + k * 9, none⟩ = some (.int .i64 p.idN) ∧ w'.cell? ⟨b, off + k * 9 + 1, none⟩ = some (.int .i64 p.idR) ∧ w'.cell? ⟨b, off + k * 9 + 2, none⟩ = some (.int .i64 p.parN) ∧ w'.cell? ⟨b, off + k * 9 + 3, none⟩ = some (.int .i64 p.parR) ∧ w'.cell? ⟨b, off + k * 9 + 4, none⟩ = some (.slice k1 nK c1) ∧ w'.cell? ⟨b, off + k * 9 + 5, none⟩ = some (.int .i64 p.kind) ∧ w'.cell? ⟨b, off + k * 9 + 6, none⟩ = some (.slice n1 nN d1) ∧ w'.cell? ⟨b, off + k * 9 + 7, none⟩ = some (.slice t1 nT f1) ∧ w'.cell? ⟨b, off + k * 9 + 8, none⟩ = some (.slice a1 nA g1) ∧ w'.cell? ⟨b', off' + k * 9, none⟩ = some (.int .i64 p.idN) ∧ w'.cell? ⟨b', off' + k * 9 + 1, none⟩ = some (.int .i64 p.idR) ∧ w'.cell? ⟨b', off' + k * 9 + 2, none⟩ = some (.int .i64 p.parN) ∧ w'.cell? ⟨b', off' + k * 9 + 3, none⟩ = some (.int .i64 p.parR) ∧ w'.cell? ⟨b', off' + k * 9 + 4, none⟩ = some (.slice k2 nK c2) ∧ w'.cell? ⟨b', off' + k * 9 + 5, none⟩ = some (.int .i64 p.kind) ∧ w'.cell? ⟨b', off' + k * 9 + 6, none⟩ = some (.slice n2 nN d2) ∧ w'.cell? ⟨b', off' + k * 9 + 7, none⟩ = some (.slice t2 nT f2) ∧ w'.cell? ⟨b', off' + k * 9 + 8, none⟩ = some (.slice a2 nA g2))
        (first | exact ⟨by assumption, by assumption, by assumption, by assumption, by assumption, by assumption, by assumption, by assumption, by assumption, by assumption, by assumption, by assumption, by assumption, by assumption, by assumption, by assumption, by assumption, by assumption⟩ | simp [*])
        ((go_at_call 59; refine (unhide HE _ _ _ ((unhide HR).keep ((Below.refl _ _).drew)) ((unhide HR').keep ((Below.refl _ _).drew))).mono ?_; rintro e w2 ⟨rfl, hB2⟩; have s0 := cell_later hB2 e0; have s1 := cell_later hB2 e1; have s2 := cell_later hB2 e2; have s3 := cell_later hB2 e3; have s4 := cell_later hB2 e4; have s5 := cell_later hB2 e5; have s6 := cell_later hB2 e6; have s7 := cell_later hB2 e7; have s8 := cell_later hB2 e8; have r0 := cell_later hB2 i0; have r1 := cell_later hB2 i1; have r2 := cell_later hB2 i2; have r3 := cell_later hB2 i3; have r4 := cell_later hB2 i4; have r5 := cell_later hB2 i5; have r6 := cell_later hB2 i6; have r7 := cell_later hB2 i7; have r8 := cell_later hB2 i8))
      have hB3 := hB.trans ((Below.drew (Below.refl wr.heap.size wr)).trans hB2 |>.mono hB.size)
      clear e0 e1 e2 e3 e4 e5 e6 e7 e8 i0 i1 i2 i3 i4 i5 i6 i7 i8 s0 s1 s2 s3 s4 s5 s6 s7 s8 r0 r1 r2 r3 r4 r5 r6 r7 r8 hB2 HR HR'
      go_wp2_with fail
      go_roundw
      case rel => exact ⟨k + 1, by omega, by go_num, hB3⟩
      case measure => simp [intOf]; omega
    · clear g5 f5
      go_wp2_with fail
      go_ret
      exact ⟨rfl, hB⟩
set_option maxHeartbeats 3200000 in
theorem eqSt_same (w : World) (u v : Value) (l : List PlV) (hu : RdPls w u l) (hv : RdPls w v l) :
    Calls Tryz.prog 9 #[.agg #[u], .agg #[v]] w fun e w' => e = .returned (.bool true) ∧ Below w.heap.size w w' := by
  have hA : Below w.heap.size w ((w.alloc (.cells #[u] 35)).alloc (.cells #[v] 35)) := ((Below.refl _ _).alloc (Nat.le_refl _) _).alloc (by simp) _
  have HE := hide (eqPls_same _ u v l (hu.keep hA) (hv.keep hA))
  obtain ⟨a, c, rfl, _, _⟩ := Elems.shape hu
  obtain ⟨a', c', rfl, _, _⟩ := Elems.shape hv
  clear hu hv
  go_enter Tryz.func9, Tryz.ntmps9
  go_wp2_with fail
  refine (unhide HE).mono ?_
  rintro e w1 ⟨rfl, hB⟩
  have hB' := bstep hA hB
  go_wp2_with fail
  go_ret
  exact ⟨rfl, hB'⟩
end Go.Proofs.YthgopknjppflhaaGreatDoor

/- laws.toPlace: the copy reads the same, in blocks of its own. -/
namespace Go.Proofs.YthgopknjppflhaaGreatDoor
open Go.RowKit
set_option linter.unusedVariables false
set_option maxRecDepth 100000

set_option maxHeartbeats 6400000 in
theorem toPl_any (w : World) (v : Value) (o : PlV) (h : RdPl w v o) (hs : szPl o ≤ 2097152) :
    Calls Tryz.prog 50 #[v] w fun e w' => ∃ ak dk an dn at1 dt as1 ds F, e = .returned (plVal o (.slice ak o.key.length dk) (.slice an o.name.length dn) (.slice at1 o.text.length dt) (.slice as1 o.attrs.length ds)) ∧ OwPlC w' [.int .i64 o.idN, .int .i64 o.idR, .int .i64 o.parN, .int .i64 o.parR, .slice ak o.key.length dk, .int .i64 o.kind, .slice an o.name.length dn, .slice at1 o.text.length dt, .slice as1 o.attrs.length ds] o F ∧ F.Nodup ∧ Rng F w.heap.size w'.heap.size ∧ Below w.heap.size w w' := by
  obtain ⟨k, n, t, s, rfl, hk, hn, ht, hs4⟩ := h
  obtain ⟨pk, ck, rfl, _, _⟩ := hk.shape
  obtain ⟨pn, cn, rfl, _, _⟩ := hn.shape
  obtain ⟨pt, ct, rfl, _, _⟩ := ht.shape
  obtain ⟨ps, cs, rfl, _, _⟩ := Elems.shape hs4
  have H := hide (And.intro hk (And.intro hn (And.intro ht hs4)))
  clear hk hn ht hs4
  unfold szPl at hs
  have HS := hide hs
  clear hs
  unfold plVal
  have l0 := (((Loc.made w #[.int .i64 o.idN, .int .i64 o.idR, .int .i64 o.parN, .int .i64 o.parR, .slice pk o.key.length ck, .int .i64 o.kind, .slice pn o.name.length cn, .slice pt o.text.length ct, .slice ps o.attrs.length cs] 76).alloc (.cells #[.int .i64 0, .int .i64 0, .int .i64 0, .int .i64 0, .slice none 0 0, .int .i64 0, .slice none 0 0, .slice none 0 0, .slice none 0 0] 54)).alloc (.cells #[.int .i64 0, .int .i64 0, .int .i64 0, .int .i64 0, .slice none 0 0, .int .i64 0, .slice none 0 0, .slice none 0 0, .slice none 0 0] 54))
  have l1 := (Loc.made (w.alloc (.cells #[.int .i64 o.idN, .int .i64 o.idR, .int .i64 o.parN, .int .i64 o.parR, .slice pk o.key.length ck, .int .i64 o.kind, .slice pn o.name.length cn, .slice pt o.text.length ct, .slice ps o.attrs.length cs] 76)) #[.int .i64 0, .int .i64 0, .int .i64 0, .int .i64 0, .slice none 0 0, .int .i64 0, .slice none 0 0, .slice none 0 0, .slice none 0 0] 54).alloc (.cells #[.int .i64 0, .int .i64 0, .int .i64 0, .int .i64 0, .slice none 0 0, .int .i64 0, .slice none 0 0, .slice none 0 0, .slice none 0 0] 54)
  have l2 := Loc.made ((w.alloc (.cells #[.int .i64 o.idN, .int .i64 o.idR, .int .i64 o.parN, .int .i64 o.parR, .slice pk o.key.length ck, .int .i64 o.kind, .slice pn o.name.length cn, .slice pt o.text.length ct, .slice ps o.attrs.length cs] 76)).alloc (.cells #[.int .i64 0, .int .i64 0, .int .i64 0, .int .i64 0, .slice none 0 0, .int .i64 0, .slice none 0 0, .slice none 0 0, .slice none 0 0] 54)) #[.int .i64 0, .int .i64 0, .int .i64 0, .int .i64 0, .slice none 0 0, .int .i64 0, .slice none 0 0, .slice none 0 0, .slice none 0 0] 54
  have hA : Below w.heap.size w (((w.alloc (.cells #[.int .i64 o.idN, .int .i64 o.idR, .int .i64 o.parN, .int .i64 o.parR, .slice pk o.key.length ck, .int .i64 o.kind, .slice pn o.name.length cn, .slice pt o.text.length ct, .slice ps o.attrs.length cs] 76)).alloc (.cells #[.int .i64 0, .int .i64 0, .int .i64 0, .int .i64 0, .slice none 0 0, .int .i64 0, .slice none 0 0, .slice none 0 0, .slice none 0 0] 54)).alloc (.cells #[.int .i64 0, .int .i64 0, .int .i64 0, .int .i64 0, .slice none 0 0, .int .i64 0, .slice none 0 0, .slice none 0 0, .slice none 0 0] 54)) := (((Below.refl _ _).alloc (Nat.le_refl _) _).alloc (by simp) _).alloc (by simp; omega) _
  simp only [World.size_alloc] at l1 l2
  have L := hide (And.intro l0 (And.intro l1 (And.intro l2 hA)))
  have x0 := l0.cell 0
  have x1 := l0.cell 1
  simp at x0 x1
  clear l0 l1 l2 hA
  go_enter Tryz.func50, Tryz.ntmps50
  go_wp2_with fail
  obtain ⟨l0, l1, l2, hA⟩ := unhide L
  clear L x0 x1
  generalize (((w.alloc (.cells #[.int .i64 o.idN, .int .i64 o.idR, .int .i64 o.parN, .int .i64 o.parR, .slice pk o.key.length ck, .int .i64 o.kind, .slice pn o.name.length cn, .slice pt o.text.length ct, .slice ps o.attrs.length cs] 76)).alloc (.cells #[.int .i64 0, .int .i64 0, .int .i64 0, .int .i64 0, .slice none 0 0, .int .i64 0, .slice none 0 0, .slice none 0 0, .slice none 0 0] 54)).alloc (.cells #[.int .i64 0, .int .i64 0, .int .i64 0, .int .i64 0, .slice none 0 0, .int .i64 0, .slice none 0 0, .slice none 0 0, .slice none 0 0] 54)) = W at *
  refine (toId_any _ o.idN o.idR).mono ?_
  rintro e w1 ⟨rfl, hB⟩
  replace l0 := l0.all hB
  replace l1 := l1.all hB
  replace l2 := l2.all hB
  replace hA := bstep hA hB
  clear hB
  have e0_2 := l0.cell 2
  have e0_3 := l0.cell 3
  have e2_0 := l2.cell 0
  have f2_0 := l2.frozen 0
  have e2_1 := l2.cell 1
  have f2_1 := l2.frozen 1
  simp at e0_2 e0_3 e2_0 e2_1
  have m0 : Loc ((w1.setCell ⟨w.heap.size + 1 + 1, 0, none⟩ (.int .i64 o.idN)).setCell ⟨w.heap.size + 1 + 1, 1, none⟩ (.int .i64 o.idR)) w.heap.size #[.int .i64 o.idN, .int .i64 o.idR, .int .i64 o.parN, .int .i64 o.parR, .slice pk o.key.length ck, .int .i64 o.kind, .slice pn o.name.length cn, .slice pt o.text.length ct, .slice ps o.attrs.length cs] 76 := ((l0.other _ _ _ (by omega)).other _ _ _ (by omega))
  have m1 : Loc ((w1.setCell ⟨w.heap.size + 1 + 1, 0, none⟩ (.int .i64 o.idN)).setCell ⟨w.heap.size + 1 + 1, 1, none⟩ (.int .i64 o.idR)) (w.heap.size + 1) #[.int .i64 0, .int .i64 0, .int .i64 0, .int .i64 0, .slice none 0 0, .int .i64 0, .slice none 0 0, .slice none 0 0, .slice none 0 0] 54 := ((l1.other _ _ _ (by omega)).other _ _ _ (by omega))
  have m2 : Loc ((w1.setCell ⟨w.heap.size + 1 + 1, 0, none⟩ (.int .i64 o.idN)).setCell ⟨w.heap.size + 1 + 1, 1, none⟩ (.int .i64 o.idR)) (w.heap.size + 1 + 1) #[.int .i64 o.idN, .int .i64 o.idR, .int .i64 0, .int .i64 0, .slice none 0 0, .int .i64 0, .slice none 0 0, .slice none 0 0, .slice none 0 0] 54 := ((l2.set 0 (.int .i64 o.idN)).set 1 (.int .i64 o.idR)).be (by simp)
  have hf : Frm w1 ((w1.setCell ⟨w.heap.size + 1 + 1, 0, none⟩ (.int .i64 o.idN)).setCell ⟨w.heap.size + 1 + 1, 1, none⟩ (.int .i64 o.idR)) [w.heap.size + 1 + 1] := ((set_frm _ _ _ _).trans (set_frm _ _ _ _))
  have hA2 : Below w.heap.size w ((w1.setCell ⟨w.heap.size + 1 + 1, 0, none⟩ (.int .i64 o.idN)).setCell ⟨w.heap.size + 1 + 1, 1, none⟩ (.int .i64 o.idR)) := hA.trans (hf.below hA.size (fun g hg => by simp at hg; omega))
  have L := hide (And.intro m0 (And.intro m1 (And.intro m2 hA2)))
  clear m0 m1 m2 hf hA2 l0 l1 l2 hA
  go_wp2_with fail
  obtain ⟨l0, l1, l2, hA⟩ := unhide L
  clear L
  clear e0_2 e0_3 e2_0 f2_0 e2_1 f2_1
  refine (toId_any _ o.parN o.parR).mono ?_
  rintro e w2 ⟨rfl, hB⟩
  replace l0 := l0.all hB
  replace l1 := l1.all hB
  replace l2 := l2.all hB
  replace hA := bstep hA hB
  clear hB
  have e0_4 := l0.cell 4
  have e2_2 := l2.cell 2
  have f2_2 := l2.frozen 2
  have e2_3 := l2.cell 3
  have f2_3 := l2.frozen 3
  simp at e0_4 e2_2 e2_3
  have m0 : Loc ((w2.setCell ⟨w.heap.size + 1 + 1, 2, none⟩ (.int .i64 o.parN)).setCell ⟨w.heap.size + 1 + 1, 3, none⟩ (.int .i64 o.parR)) w.heap.size #[.int .i64 o.idN, .int .i64 o.idR, .int .i64 o.parN, .int .i64 o.parR, .slice pk o.key.length ck, .int .i64 o.kind, .slice pn o.name.length cn, .slice pt o.text.length ct, .slice ps o.attrs.length cs] 76 := ((l0.other _ _ _ (by omega)).other _ _ _ (by omega))
  have m1 : Loc ((w2.setCell ⟨w.heap.size + 1 + 1, 2, none⟩ (.int .i64 o.parN)).setCell ⟨w.heap.size + 1 + 1, 3, none⟩ (.int .i64 o.parR)) (w.heap.size + 1) #[.int .i64 0, .int .i64 0, .int .i64 0, .int .i64 0, .slice none 0 0, .int .i64 0, .slice none 0 0, .slice none 0 0, .slice none 0 0] 54 := ((l1.other _ _ _ (by omega)).other _ _ _ (by omega))
  have m2 : Loc ((w2.setCell ⟨w.heap.size + 1 + 1, 2, none⟩ (.int .i64 o.parN)).setCell ⟨w.heap.size + 1 + 1, 3, none⟩ (.int .i64 o.parR)) (w.heap.size + 1 + 1) #[.int .i64 o.idN, .int .i64 o.idR, .int .i64 o.parN, .int .i64 o.parR, .slice none 0 0, .int .i64 0, .slice none 0 0, .slice none 0 0, .slice none 0 0] 54 := ((l2.set 2 (.int .i64 o.parN)).set 3 (.int .i64 o.parR)).be (by simp)
  have hf : Frm w2 ((w2.setCell ⟨w.heap.size + 1 + 1, 2, none⟩ (.int .i64 o.parN)).setCell ⟨w.heap.size + 1 + 1, 3, none⟩ (.int .i64 o.parR)) [w.heap.size + 1 + 1] := ((set_frm _ _ _ _).trans (set_frm _ _ _ _))
  have hA2 : Below w.heap.size w ((w2.setCell ⟨w.heap.size + 1 + 1, 2, none⟩ (.int .i64 o.parN)).setCell ⟨w.heap.size + 1 + 1, 3, none⟩ (.int .i64 o.parR)) := hA.trans (hf.below hA.size (fun g hg => by simp at hg; omega))
  have L := hide (And.intro m0 (And.intro m1 (And.intro m2 hA2)))
  clear m0 m1 m2 hf hA2 l0 l1 l2 hA
  go_wp2_with fail
  obtain ⟨l0, l1, l2, hA⟩ := unhide L
  clear L
  clear e0_4 e2_2 f2_2 e2_3 f2_3
  have zk := l2.lt
  refine (toZ_any _ _ o.key ((unhide H).1.keep hA) (by have := unhide HS; omega)).mono ?_
  rintro e w3 ⟨vk, rfl, ok, _, hB⟩
  obtain ⟨ak, dk, hvk, _, _⟩ := ok.ints.shape
  subst hvk
  have rk := ok.rng
  have sk := hB.size
  replace l0 := l0.all hB
  replace l1 := l1.all hB
  replace l2 := l2.all hB
  replace hA := bstep hA hB
  clear hB
  have e0_5 := l0.cell 5
  have e0_6 := l0.cell 6
  have e2_4 := l2.cell 4
  have f2_4 := l2.frozen 4
  have e2_5 := l2.cell 5
  have f2_5 := l2.frozen 5
  simp at e0_5 e0_6 e2_4 e2_5
  have m0 : Loc ((w3.setCell ⟨w.heap.size + 1 + 1, 4, none⟩ (.slice ak o.key.length dk)).setCell ⟨w.heap.size + 1 + 1, 5, none⟩ (.int .i64 o.kind)) w.heap.size #[.int .i64 o.idN, .int .i64 o.idR, .int .i64 o.parN, .int .i64 o.parR, .slice pk o.key.length ck, .int .i64 o.kind, .slice pn o.name.length cn, .slice pt o.text.length ct, .slice ps o.attrs.length cs] 76 := ((l0.other _ _ _ (by omega)).other _ _ _ (by omega))
  have m1 : Loc ((w3.setCell ⟨w.heap.size + 1 + 1, 4, none⟩ (.slice ak o.key.length dk)).setCell ⟨w.heap.size + 1 + 1, 5, none⟩ (.int .i64 o.kind)) (w.heap.size + 1) #[.int .i64 0, .int .i64 0, .int .i64 0, .int .i64 0, .slice none 0 0, .int .i64 0, .slice none 0 0, .slice none 0 0, .slice none 0 0] 54 := ((l1.other _ _ _ (by omega)).other _ _ _ (by omega))
  have m2 : Loc ((w3.setCell ⟨w.heap.size + 1 + 1, 4, none⟩ (.slice ak o.key.length dk)).setCell ⟨w.heap.size + 1 + 1, 5, none⟩ (.int .i64 o.kind)) (w.heap.size + 1 + 1) #[.int .i64 o.idN, .int .i64 o.idR, .int .i64 o.parN, .int .i64 o.parR, .slice ak o.key.length dk, .int .i64 o.kind, .slice none 0 0, .slice none 0 0, .slice none 0 0] 54 := ((l2.set 4 (.slice ak o.key.length dk)).set 5 (.int .i64 o.kind)).be (by simp)
  have hf : Frm w3 ((w3.setCell ⟨w.heap.size + 1 + 1, 4, none⟩ (.slice ak o.key.length dk)).setCell ⟨w.heap.size + 1 + 1, 5, none⟩ (.int .i64 o.kind)) [w.heap.size + 1 + 1] := ((set_frm _ _ _ _).trans (set_frm _ _ _ _))
  have hA2 : Below w.heap.size w ((w3.setCell ⟨w.heap.size + 1 + 1, 4, none⟩ (.slice ak o.key.length dk)).setCell ⟨w.heap.size + 1 + 1, 5, none⟩ (.int .i64 o.kind)) := hA.trans (hf.below hA.size (fun g hg => by simp at hg; omega))
  have qk := ok.frm hf (fun g hg => by have := rk g hg; simp; omega)
  have L := hide (And.intro qk (And.intro m0 (And.intro m1 (And.intro m2 hA2))))
  clear m0 m1 m2 hf hA2 l0 l1 l2 hA qk ok
  go_wp2_with fail
  obtain ⟨ok, l0, l1, l2, hA⟩ := unhide L
  clear L
  clear e0_5 e0_6 e2_4 f2_4 e2_5 f2_5
  have zn := l2.lt
  refine (toB_any _ _ o.name ((unhide H).2.1.keep hA) (by have := unhide HS; omega)).mono ?_
  rintro e w4 ⟨vn, rfl, on, _, hB⟩
  obtain ⟨an, dn, hvn, _, _⟩ := on.byt.shape
  subst hvn
  have rn := on.rng
  replace ok := ok.keep hB
  have sn := hB.size
  replace l0 := l0.all hB
  replace l1 := l1.all hB
  replace l2 := l2.all hB
  replace hA := bstep hA hB
  clear hB
  have e0_7 := l0.cell 7
  have e2_6 := l2.cell 6
  have f2_6 := l2.frozen 6
  simp at e0_7 e2_6
  have m0 : Loc (w4.setCell ⟨w.heap.size + 1 + 1, 6, none⟩ (.slice an o.name.length dn)) w.heap.size #[.int .i64 o.idN, .int .i64 o.idR, .int .i64 o.parN, .int .i64 o.parR, .slice pk o.key.length ck, .int .i64 o.kind, .slice pn o.name.length cn, .slice pt o.text.length ct, .slice ps o.attrs.length cs] 76 := (l0.other _ _ _ (by omega))
  have m1 : Loc (w4.setCell ⟨w.heap.size + 1 + 1, 6, none⟩ (.slice an o.name.length dn)) (w.heap.size + 1) #[.int .i64 0, .int .i64 0, .int .i64 0, .int .i64 0, .slice none 0 0, .int .i64 0, .slice none 0 0, .slice none 0 0, .slice none 0 0] 54 := (l1.other _ _ _ (by omega))
  have m2 : Loc (w4.setCell ⟨w.heap.size + 1 + 1, 6, none⟩ (.slice an o.name.length dn)) (w.heap.size + 1 + 1) #[.int .i64 o.idN, .int .i64 o.idR, .int .i64 o.parN, .int .i64 o.parR, .slice ak o.key.length dk, .int .i64 o.kind, .slice an o.name.length dn, .slice none 0 0, .slice none 0 0] 54 := (l2.set 6 (.slice an o.name.length dn)).be (by simp)
  have hf : Frm w4 (w4.setCell ⟨w.heap.size + 1 + 1, 6, none⟩ (.slice an o.name.length dn)) [w.heap.size + 1 + 1] := (set_frm _ _ _ _)
  have hA2 : Below w.heap.size w (w4.setCell ⟨w.heap.size + 1 + 1, 6, none⟩ (.slice an o.name.length dn)) := hA.trans (hf.below hA.size (fun g hg => by simp at hg; omega))
  have qk := ok.frm hf (fun g hg => by have := rk g hg; simp; omega)
  have qn := on.frm hf (fun g hg => by have := rn g hg; simp; omega)
  have L := hide (And.intro qn (And.intro qk (And.intro m0 (And.intro m1 (And.intro m2 hA2)))))
  clear m0 m1 m2 hf hA2 l0 l1 l2 hA qk ok qn on
  go_wp2_with fail
  obtain ⟨on, ok, l0, l1, l2, hA⟩ := unhide L
  clear L
  clear e0_7 e2_6 f2_6
  have zt := l2.lt
  refine (toB_any _ _ o.text ((unhide H).2.2.1.keep hA) (by have := unhide HS; omega)).mono ?_
  rintro e w5 ⟨vt, rfl, ot, _, hB⟩
  obtain ⟨at1, dt, hvt, _, _⟩ := ot.byt.shape
  subst hvt
  have rt := ot.rng
  replace ok := ok.keep hB
  replace on := on.keep hB
  have st := hB.size
  replace l0 := l0.all hB
  replace l1 := l1.all hB
  replace l2 := l2.all hB
  replace hA := bstep hA hB
  clear hB
  have e0_8 := l0.cell 8
  have e2_7 := l2.cell 7
  have f2_7 := l2.frozen 7
  simp at e0_8 e2_7
  have m0 : Loc (w5.setCell ⟨w.heap.size + 1 + 1, 7, none⟩ (.slice at1 o.text.length dt)) w.heap.size #[.int .i64 o.idN, .int .i64 o.idR, .int .i64 o.parN, .int .i64 o.parR, .slice pk o.key.length ck, .int .i64 o.kind, .slice pn o.name.length cn, .slice pt o.text.length ct, .slice ps o.attrs.length cs] 76 := (l0.other _ _ _ (by omega))
  have m1 : Loc (w5.setCell ⟨w.heap.size + 1 + 1, 7, none⟩ (.slice at1 o.text.length dt)) (w.heap.size + 1) #[.int .i64 0, .int .i64 0, .int .i64 0, .int .i64 0, .slice none 0 0, .int .i64 0, .slice none 0 0, .slice none 0 0, .slice none 0 0] 54 := (l1.other _ _ _ (by omega))
  have m2 : Loc (w5.setCell ⟨w.heap.size + 1 + 1, 7, none⟩ (.slice at1 o.text.length dt)) (w.heap.size + 1 + 1) #[.int .i64 o.idN, .int .i64 o.idR, .int .i64 o.parN, .int .i64 o.parR, .slice ak o.key.length dk, .int .i64 o.kind, .slice an o.name.length dn, .slice at1 o.text.length dt, .slice none 0 0] 54 := (l2.set 7 (.slice at1 o.text.length dt)).be (by simp)
  have hf : Frm w5 (w5.setCell ⟨w.heap.size + 1 + 1, 7, none⟩ (.slice at1 o.text.length dt)) [w.heap.size + 1 + 1] := (set_frm _ _ _ _)
  have hA2 : Below w.heap.size w (w5.setCell ⟨w.heap.size + 1 + 1, 7, none⟩ (.slice at1 o.text.length dt)) := hA.trans (hf.below hA.size (fun g hg => by simp at hg; omega))
  have qk := ok.frm hf (fun g hg => by have := rk g hg; simp; omega)
  have qn := on.frm hf (fun g hg => by have := rn g hg; simp; omega)
  have qt := ot.frm hf (fun g hg => by have := rt g hg; simp; omega)
  have L := hide (And.intro qt (And.intro qn (And.intro qk (And.intro m0 (And.intro m1 (And.intro m2 hA2))))))
  clear m0 m1 m2 hf hA2 l0 l1 l2 hA qk ok qn on qt ot
  go_wp2_with fail
  obtain ⟨ot, on, ok, l0, l1, l2, hA⟩ := unhide L
  clear L
  clear e0_8 e2_7 f2_7
  have zs := l2.lt
  refine (toAttrS_any _ _ o.attrs ((unhide H).2.2.2.keep hA) (by have := unhide HS; omega)).mono ?_
  rintro e w6 ⟨as1, ds, rfl, Fs, os, nds, rs, hB⟩
  replace ok := ok.keep hB
  replace on := on.keep hB
  replace ot := ot.keep hB
  have ss := hB.size
  replace l1 := l1.all hB
  replace l2 := l2.all hB
  replace hA := bstep hA hB
  clear hB l0
  have e2_0 := l2.cell 0
  have e2_1 := l2.cell 1
  have e2_2 := l2.cell 2
  have e2_3 := l2.cell 3
  have e2_4 := l2.cell 4
  have e2_5 := l2.cell 5
  have e2_6 := l2.cell 6
  have e2_7 := l2.cell 7
  have e2_8 := l2.cell 8
  have f2_8 := l2.frozen 8
  have e1_0 := l1.cell 0
  have f1_0 := l1.frozen 0
  have e1_1 := l1.cell 1
  have f1_1 := l1.frozen 1
  have e1_2 := l1.cell 2
  have f1_2 := l1.frozen 2
  have e1_3 := l1.cell 3
  have f1_3 := l1.frozen 3
  have e1_4 := l1.cell 4
  have f1_4 := l1.frozen 4
  have e1_5 := l1.cell 5
  have f1_5 := l1.frozen 5
  have e1_6 := l1.cell 6
  have f1_6 := l1.frozen 6
  have e1_7 := l1.cell 7
  have f1_7 := l1.frozen 7
  have e1_8 := l1.cell 8
  have f1_8 := l1.frozen 8
  simp at e2_0 e2_1 e2_2 e2_3 e2_4 e2_5 e2_6 e2_7 e2_8 e1_0 e1_1 e1_2 e1_3 e1_4 e1_5 e1_6 e1_7 e1_8
  have hf : Frm w6 ((((((((((w6.setCell ⟨w.heap.size + 1 + 1, 8, none⟩ (.slice as1 o.attrs.length ds)).setCell ⟨w.heap.size + 1, 0, none⟩ (.int .i64 o.idN)).setCell ⟨w.heap.size + 1, 1, none⟩ (.int .i64 o.idR)).setCell ⟨w.heap.size + 1, 2, none⟩ (.int .i64 o.parN)).setCell ⟨w.heap.size + 1, 3, none⟩ (.int .i64 o.parR)).setCell ⟨w.heap.size + 1, 4, none⟩ (.slice ak o.key.length dk)).setCell ⟨w.heap.size + 1, 5, none⟩ (.int .i64 o.kind)).setCell ⟨w.heap.size + 1, 6, none⟩ (.slice an o.name.length dn)).setCell ⟨w.heap.size + 1, 7, none⟩ (.slice at1 o.text.length dt)).setCell ⟨w.heap.size + 1, 8, none⟩ (.slice as1 o.attrs.length ds)) [w.heap.size + 1 + 1, w.heap.size + 1] := (((((((((((set_frm _ _ _ _).mono (by simp)).trans ((set_frm _ _ _ _).mono (by simp))).trans ((set_frm _ _ _ _).mono (by simp))).trans ((set_frm _ _ _ _).mono (by simp))).trans ((set_frm _ _ _ _).mono (by simp))).trans ((set_frm _ _ _ _).mono (by simp))).trans ((set_frm _ _ _ _).mono (by simp))).trans ((set_frm _ _ _ _).mono (by simp))).trans ((set_frm _ _ _ _).mono (by simp))).trans ((set_frm _ _ _ _).mono (by simp)))
  have hA2 : Below w.heap.size w ((((((((((w6.setCell ⟨w.heap.size + 1 + 1, 8, none⟩ (.slice as1 o.attrs.length ds)).setCell ⟨w.heap.size + 1, 0, none⟩ (.int .i64 o.idN)).setCell ⟨w.heap.size + 1, 1, none⟩ (.int .i64 o.idR)).setCell ⟨w.heap.size + 1, 2, none⟩ (.int .i64 o.parN)).setCell ⟨w.heap.size + 1, 3, none⟩ (.int .i64 o.parR)).setCell ⟨w.heap.size + 1, 4, none⟩ (.slice ak o.key.length dk)).setCell ⟨w.heap.size + 1, 5, none⟩ (.int .i64 o.kind)).setCell ⟨w.heap.size + 1, 6, none⟩ (.slice an o.name.length dn)).setCell ⟨w.heap.size + 1, 7, none⟩ (.slice at1 o.text.length dt)).setCell ⟨w.heap.size + 1, 8, none⟩ (.slice as1 o.attrs.length ds)) := hA.trans (hf.below hA.size (fun g hg => by simp at hg; omega))
  have qk := (ok.frm hf (fun g hg => by have := rk g hg; simp; omega)).mono (base' := 0) (Nat.zero_le _)
  have qn := (on.frm hf (fun g hg => by have := rn g hg; simp; omega)).mono (base' := 0) (Nat.zero_le _)
  have qt := (ot.frm hf (fun g hg => by have := rt g hg; simp; omega)).mono (base' := 0) (Nat.zero_le _)
  have qs := OwAttrs.frm os hf (fun g hg => by have := rs g hg; simp; omega)
  have hsz := hf.size
  simp at sn st ss
  have hR : Rng (FB (.slice ak o.key.length dk) ++ FB (.slice an o.name.length dn) ++ FB (.slice at1 o.text.length dt) ++ Fs) w.heap.size w6.heap.size :=
    ((Rng.app (Rng.app (rk.mono (by omega) (by omega)) (rn.mono (by omega) (by omega))) (rt.mono (by omega) (by omega))).app (rs.mono (by omega) (Nat.le_refl _)))
  have hnd : (FB (.slice ak o.key.length dk) ++ FB (.slice an o.name.length dn) ++ FB (.slice at1 o.text.length dt) ++ Fs).Nodup := by
    refine nodup_app (lo := 0) (nodup_app (lo := 0) (nodup_app (FB_nodup _) (FB_nodup _) rk (rn.mono (by simp) (Nat.le_refl _))) (FB_nodup _) ((rk.mono (Nat.zero_le _) (by omega)).app (rn.mono (Nat.zero_le _) (Nat.le_refl _))) (rt.mono (by simp) (Nat.le_refl _))) nds (((rk.mono (Nat.zero_le _) (by omega)).app (rn.mono (Nat.zero_le _) (by omega))).app (rt.mono (Nat.zero_le _) (Nat.le_refl _))) (rs.mono (by simp) (Nat.le_refl _))
  have L := hide (And.intro qk (And.intro qn (And.intro qt (And.intro qs (And.intro hnd (And.intro hA2 (hR.mono (Nat.le_refl _) hsz)))))))
  clear qk qn qt qs hnd hA2 hf l1 l2 hA ok on ot os rk rn rt rs H nds hR hsz zk zn zt zs sk sn st ss
  go_wp2_with fail
  obtain ⟨qk, qn, qt, qs, hnd, hA2, hR⟩ := unhide L
  exact bodyPost_ret (v := plVal o (.slice ak o.key.length dk) (.slice an o.name.length dn) (.slice at1 o.text.length dt) (.slice as1 o.attrs.length ds)) (by simp [results, Tryz.results50, go_sem, plVal, e1_0, e1_1, e1_2, e1_3, e1_4, e1_5, e1_6, e1_7, e1_8]) rfl ⟨_, _, _, _, _, _, _, _, _, rfl, ⟨_, _, _, _, _, rfl, qk, qn, qt, qs, rfl⟩, hnd, hR, hA2⟩
end Go.Proofs.YthgopknjppflhaaGreatDoor

/- The laws' own count of how great a state is. -/
namespace Go.Proofs.YthgopknjppflhaaGreatDoor
open Go.RowKit
set_option linter.unusedVariables false
set_option maxRecDepth 100000

theorem ret_i64P {a b : Int} (h : a = b) : Ending.returned (.int .i64 a) = .returned (.int .i64 b) := by rw [h]
def sumP (l : List PlV) (k : Nat) : Nat := ((l.take k).map szPl).sum
theorem sumP_step (l : List PlV) (k : Nat) (h : k < l.length) : sumP l (k + 1) = sumP l k + szPl l[k] := by
  unfold sumP
  rw [List.take_succ_eq_append_getElem h, List.map_append, List.sum_append]
  simp
theorem sumP_all (l : List PlV) : sumP l l.length = (l.map szPl).sum := by simp [sumP]
theorem sumP_le (l : List PlV) (k : Nat) : sumP l k ≤ (l.map szPl).sum := by
  unfold sumP
  have h : (l.map szPl).sum = ((l.take k).map szPl).sum + ((l.drop k).map szPl).sum := by rw [← List.sum_append, ← List.map_append, List.take_append_drop]
  omega
theorem szPl_le (l : List PlV) (k : Nat) (h : k < l.length) : szPl l[k] ≤ (l.map szPl).sum := by
  have := sumP_step l k h
  have := sumP_le l (k + 1)
  omega

set_option maxHeartbeats 3200000 in
theorem szPl_any (w : World) (v : Value) (o : PlV) (left : Int) (h : RdPl w v o) (h0 : 0 ≤ left) (h1 : left ≤ 1000000000) :
    Calls Tryz.prog 38 #[v, .int .i64 left] w fun e w' => e = .returned (.int .i64 (rest (szPl o) left)) ∧ Below w.heap.size w w' := by
  obtain ⟨k, n, t, s, rfl, hk, hn, ht, hs⟩ := h
  have m1 := hk.2.1
  have m2 := hn.2.1
  have m3 := ht.2.1
  obtain ⟨pk, ck, rfl, _, _⟩ := hk.shape
  obtain ⟨pn, cn, rfl, _, _⟩ := hn.shape
  obtain ⟨pt, ct, rfl, _, _⟩ := ht.shape
  obtain ⟨ps, cs, rfl, _, _⟩ := Elems.shape hs
  have hA := (Below.refl w.heap.size w).alloc (Nat.le_refl _) (.cells #[.int .i64 o.idN, .int .i64 o.idR, .int .i64 o.parN, .int .i64 o.parR, .slice pk o.key.length ck, .int .i64 o.kind, .slice pn o.name.length cn, .slice pt o.text.length ct, .slice ps o.attrs.length cs] 76)
  have HS := hide (fun left' h0 h1 => szAttrS_any _ _ o.attrs left' (hs.keep hA) h0 h1)
  have HA := hide hA
  clear hk hn ht hs hA
  unfold plVal szPl
  generalize szA o.attrs = nS at *
  generalize hgK : o.key.length = nK at *
  generalize hgN : o.name.length = nN at *
  generalize hgT : o.text.length = nT at *
  generalize hgS : o.attrs.length = nL at *
  clear hgK hgN hgT hgS
  go_enter Tryz.func38, Tryz.ntmps38
  go_wp2_with fail
  refine (szZ4_any _ _ _ _ left m1 h0 h1).mono ?_
  rintro e w1 ⟨rfl, rfl⟩
  by_cases h2 : (nK : Int) ≤ left
  · rw [left4_in h2]
    have hd : ¬ left - (nK : Int) < 0 := by omega
    go_wp2_with fail
    refine (szB_any _ _ _ _ (left - (nK : Int)) m2 (by omega) (by omega)).mono ?_
    rintro e w2 ⟨rfl, rfl⟩
    by_cases h3 : (nN : Int) ≤ left - (nK : Int)
    · rw [rest_in h3]
      have hd2 : ¬ left - (nK : Int) - (nN : Int) < 0 := by omega
      go_wp2_with fail
      refine (szB_any _ _ _ _ (left - (nK : Int) - (nN : Int)) m3 (by omega) (by omega)).mono ?_
      rintro e w2 ⟨rfl, rfl⟩
      by_cases h4 : (nT : Int) ≤ left - (nK : Int) - (nN : Int)
      · rw [rest_in h4]
        have hd3 : ¬ left - (nK : Int) - (nN : Int) - (nT : Int) < 0 := by omega
        go_wp2_with fail
        refine (unhide HS (left - (nK : Int) - (nN : Int) - (nT : Int)) (by omega) (by omega)).mono ?_
        rintro e w3 ⟨rfl, hB3⟩
        have HB := hide (bstep (unhide HA) hB3)
        by_cases h5 : (nS : Int) ≤ left - (nK : Int) - (nN : Int) - (nT : Int)
        · rw [rest_in h5]
          have hd4 : ¬ left - (nK : Int) - (nN : Int) - (nT : Int) - (nS : Int) < 0 := by omega
          have HR := hide (show rest (nK + nN + nT + nS) left = left - (nK : Int) - (nN : Int) - (nT : Int) - (nS : Int) by rw [rest_in (by omega)]; omega)
          go_wp2_with fail
          go_ret
          exact ⟨by rw [unhide HR]; rfl, unhide HB⟩
        · rw [rest_out h5]
          have HR := hide (show rest (nK + nN + nT + nS) left = -1 by rw [rest_out (by omega)])
          go_wp2_with fail
          go_ret
          exact ⟨by rw [unhide HR]; rfl, unhide HB⟩
      · rw [rest_out h4]
        have HR := hide (show rest (nK + nN + nT + nS) left = -1 by rw [rest_out (by omega)])
        go_wp2_with fail
        go_ret
        exact ⟨by rw [unhide HR]; rfl, unhide HA⟩
    · rw [rest_out h3]
      have HR := hide (show rest (nK + nN + nT + nS) left = -1 by rw [rest_out (by omega)])
      go_wp2_with fail
      go_ret
      exact ⟨by rw [unhide HR]; rfl, unhide HA⟩
  · rw [left4_out h2]
    have HR := hide (show rest (nK + nN + nT + nS) left = -1 by rw [rest_out (by omega)])
    go_wp2_with fail
    go_ret
    exact ⟨by rw [unhide HR]; rfl, unhide HA⟩

set_option maxHeartbeats 1600000 in
theorem szPls_any (w : World) (v : Value) (l : List PlV) (left : Int) (h : RdPls w v l) (h0 : 0 ≤ left) (h1 : left ≤ 1000000000) :
    Calls Tryz.prog 13 #[v, .int .i64 left] w fun e w' => e = .returned (.int .i64 (rest (szPls l) left)) ∧ Below w.heap.size w w' := by
  have hm := h.1
  unfold maxLen at hm
  by_cases h2 : (l.length : Int) ≤ left
  · have hd : ¬ left - (l.length : Int) < 0 := by omega
    obtain ⟨_, ⟨rfl, rfl⟩ | ⟨x, cap, rfl, hc, rfl⟩ | ⟨b, off, cap, rfl, g1, g2, g3, g4, g5⟩⟩ := h
    · go_enter Tryz.func13, Tryz.ntmps13
      go_wp2_with fail
      refine wp_loop_rounds 1 ?_
      rw [rounds_succ]
      go_wp2_with fail
      go_ret
      exact ⟨ret_i64P (by rw [rest_in (by simpa [szPls] using h0)]; simp [szPls]), Below.refl _ _⟩
    · go_enter Tryz.func13, Tryz.ntmps13
      go_wp2_with fail
      refine wp_loop_rounds 1 ?_
      rw [rounds_succ]
      go_wp2_with fail
      go_ret
      exact ⟨ret_i64P (by rw [rest_in (by simpa [szPls] using h0)]; simp [szPls]), Below.refl _ _⟩
    · have HE := hide (rest_rest (b := (l.map szPl).sum) h2)
      go_enter Tryz.func13, Tryz.ntmps13
      go_wp2_with fail
      go_loopw [1, 5] (fun q i wr => ∃ k : Nat, k ≤ l.length ∧ i = .int .i64 k ∧ ((sumP l k : Nat) : Int) ≤ left - (l.length : Int) ∧ q = .int .i64 (left - (l.length : Int) - (sumP l k : Nat)) ∧ Below w.heap.size w wr) (fun _ i _ => l.length - (intOf i).toNat)
      case atStart => exact ⟨0, Nat.zero_le _, rfl, by simp [sumP]; omega, by simp [sumP], Below.refl _ _⟩
      case round =>
        obtain ⟨k, hk, rfl, hs, rfl, hB⟩ := hrel
        by_cases hlt : k < l.length
        · obtain ⟨a1, c1, a2, c2, a3, c3, a4, c4, e0, e1, e2, e3, e4, e5, e6, e7, e8, hr⟩ := plc_at hB g4 (g5 k hlt)
          have hlt' : (k : Int) < (l.length : Int) := by omega
          have hst := sumP_step l k hlt
          have hle := sumP_le l (k + 1)
          rw [hst] at hle
          have HR := hide (szPl_any wr _ l[k] (left - (l.length : Int) - (sumP l k : Nat)) hr (by omega) (by omega))
          change Hid (Calls _ _ _ _ fun e w' => e = .returned (.int .i64 (rest (szPl l[k]) _)) ∧ _) at HR
          unfold plVal at HR
          generalize l[k] = o at *
          generalize o.key.length = nK at *
          generalize o.name.length = nN at *
          generalize o.text.length = nT at *
          generalize o.attrs.length = nS at *
          generalize hq : sumP l k = q at *
          have HQ := hide hq
          have HST := hide hst
          clear g5 hq hst hr
          go_wp2_with fail
          refine (unhide HR).mono ?_
          rintro e w2 ⟨rfl, hB2⟩
          have hB3 := hB.trans (hB2.mono hB.size)
          clear e0 e1 e2 e3 e4 e5 e6 e7 e8 HR
          generalize szPl o = m at *
          by_cases h3 : (m : Int) ≤ left - (l.length : Int) - (q : Int)
          · rw [rest_in h3]
            have hd3 : ¬ left - (l.length : Int) - (q : Int) - (m : Int) < 0 := by omega
            go_wp2_with fail
            go_roundw
            case rel => exact ⟨k + 1, by omega, by go_num, by rw [unhide HST]; omega, by rw [unhide HST]; exact congrArg (Value.int .i64) (by omega), hB3⟩
            case measure => simp [intOf]; omega
          · rw [rest_out h3]
            have HF := hide (show rest (szPls l) left = -1 by unfold szPls; rw [unhide HE, rest_out (by omega)])
            go_wp2_with fail
            go_ret
            exact ⟨by rw [unhide HF]; rfl, hB3⟩
        · have e : k = l.length := by omega
          subst e
          rw [sumP_all] at hs ⊢
          have HF := hide (show rest (szPls l) left = left - (l.length : Int) - ((l.map szPl).sum : Nat) by unfold szPls; rw [unhide HE, rest_in hs])
          go_wp2_with fail
          go_ret
          exact ⟨by rw [unhide HF]; rfl, hB⟩
  · have HF := hide (show rest (szPls l) left = -1 from rest_bad h2)
    obtain ⟨a, cap, rfl, _, _⟩ := Elems.shape h
    have hd : left - (l.length : Int) < 0 := by omega
    go_enter Tryz.func13, Tryz.ntmps13
    go_wp2_with fail
    go_ret
    exact ⟨by rw [unhide HF]; rfl, Below.refl _ _⟩

set_option maxHeartbeats 1600000 in
theorem szSt_any (w : World) (v : Value) (l : List PlV) (left : Int) (h : RdPls w v l) (h0 : 0 ≤ left) (h1 : left ≤ 1000000000) :
    Calls Tryz.prog 4 #[.agg #[v], .int .i64 left] w fun e w' => e = .returned (.int .i64 (rest (szPls l) left)) ∧ Below w.heap.size w w' := by
  have hA := (Below.refl w.heap.size w).alloc (Nat.le_refl _) (.cells #[v] 24)
  have HS := hide (szPls_any _ v l left (h.keep hA) h0 h1)
  have HA := hide hA
  clear hA h0 h1
  obtain ⟨a, c, rfl, _, _⟩ := Elems.shape h
  clear h
  go_enter Tryz.func4, Tryz.ntmps4
  go_wp2_with fail
  refine (unhide HS).mono ?_
  rintro e w1 ⟨rfl, hB⟩
  have HB := hide (bstep (unhide HA) hB)
  have hr1 : ¬ rest (szPls l) left < 0 ∨ rest (szPls l) left = -1 := by
    by_cases h2 : ((szPls l : Nat) : Int) ≤ left
    · rw [rest_in h2]; exact .inl (by omega)
    · exact .inr (rest_out h2)
  generalize hr : rest (szPls l) left = r at *
  have HR := hide hr
  clear hr
  rcases hr1 with hd | rfl
  · go_wp2_with fail
    go_ret
    exact ⟨by rw [unhide HR]; rfl, unhide HB⟩
  · go_wp2_with fail
    go_ret
    exact ⟨by rw [unhide HR]; rfl, unhide HB⟩
end Go.Proofs.YthgopknjppflhaaGreatDoor

/- The laws' own copy of a row of places. -/
namespace Go.Proofs.YthgopknjppflhaaGreatDoor
open Go.RowKit
set_option linter.unusedVariables false
set_option maxRecDepth 100000

theorem Tryz.infoPl : (Tryz.prog.info? 54).map (fun i => (i.zero, i.size, i.bytes)) = some (some (.agg #[.int .i64 0, .int .i64 0, .int .i64 0, .int .i64 0, .slice none 0 0, .int .i64 0, .slice none 0 0, .slice none 0 0, .slice none 0 0]), 9, 136) := by kernel_rfl
set_option maxHeartbeats 3200000 in
theorem take_nineP (xs : List Value) (m : Nat) (v0 v1 v2 v3 v4 v5 v6 v7 v8 : Value) (h : m + 9 ≤ xs.length) :
    (((((((((xs.set (m) v0).set (m + 1) v1).set (m + 2) v2).set (m + 3) v3).set (m + 4) v4).set (m + 5) v5).set (m + 6) v6).set (m + 7) v7).set (m + 8) v8).take (m + 9) = xs.take m ++ [v0, v1, v2, v3, v4, v5, v6, v7, v8] := by
  have h0 := take_more xs m 0 _ v0 rfl (by omega)
  have h1 := take_more (xs.set (m) v0) m 1 _ v1 h0 (by simp; omega)
  have h2 := take_more ((xs.set (m) v0).set (m + 1) v1) m 2 _ v2 h1 (by simp; omega)
  have h3 := take_more (((xs.set (m) v0).set (m + 1) v1).set (m + 2) v2) m 3 _ v3 h2 (by simp; omega)
  have h4 := take_more ((((xs.set (m) v0).set (m + 1) v1).set (m + 2) v2).set (m + 3) v3) m 4 _ v4 h3 (by simp; omega)
  have h5 := take_more (((((xs.set (m) v0).set (m + 1) v1).set (m + 2) v2).set (m + 3) v3).set (m + 4) v4) m 5 _ v5 h4 (by simp; omega)
  have h6 := take_more ((((((xs.set (m) v0).set (m + 1) v1).set (m + 2) v2).set (m + 3) v3).set (m + 4) v4).set (m + 5) v5) m 6 _ v6 h5 (by simp; omega)
  have h7 := take_more (((((((xs.set (m) v0).set (m + 1) v1).set (m + 2) v2).set (m + 3) v3).set (m + 4) v4).set (m + 5) v5).set (m + 6) v6) m 7 _ v7 h6 (by simp; omega)
  have h8 := take_more ((((((((xs.set (m) v0).set (m + 1) v1).set (m + 2) v2).set (m + 3) v3).set (m + 4) v4).set (m + 5) v5).set (m + 6) v6).set (m + 7) v7) m 8 _ v8 h7 (by simp; omega)
  simpa using h8
set_option maxHeartbeats 12800000 in
theorem toPls_any (w : World) (v : Value) (l : List PlV) (h : RdPls w v l) (hs : szPls l ≤ 2097152) :
    Calls Tryz.prog 17 #[v] w fun e w' => ∃ a c, e = .returned (.slice a l.length c) ∧ ∃ F, OwPls w' (.slice a l.length c) l F ∧ F.Nodup ∧ Rng F w.heap.size w'.heap.size ∧ Below w.heap.size w w' := by
  obtain ⟨i0, hi, hz0, hz1, hz2⟩ := info_parts Tryz.infoPl
  have hm := h.1
  have hlen : l.length ≤ 2097152 := by unfold szPls at hs; omega
  by_cases h0 : l = []
  · obtain ⟨a, cap, rfl, _⟩ := Elems.shape h
    subst h0
    go_enter Tryz.func17, Tryz.ntmps17
    go_wp2_with (at_make; refine wpList_make_full _ rfl _ _ 33 rfl w.heap.size 54 i0 _ 9 Tryz.underlying33 hi hz0 hz1 .i64 .i64 _ _ 0 rfl rfl rfl rfl ?c1 ?c2 ?c3 ?_)
    case c1 => rw [hz2]; omega
    case c2 => exact Nat.zero_le _
    case c3 => exact Nat.le_refl _
    intro w1 hown hgrow
    have hB1 := Below.ofGrown hgrow
    have hH := (Half.start (α := PlV) (l := []) (R := OwPlC w1) (w.heap.size + 1) (ownsRow_base hown 0 (Nat.zero_le _))).whole rfl (by omega)
    have HH := hide hH
    clear hown hgrow hH
    go_wp2_with fail
    refine wp_loop_rounds 1 ?_
    rw [rounds_succ]
    go_wp2_with fail
    go_ret
    obtain ⟨F, hF, hnd, hr⟩ := unhide HH
    exact ⟨_, _, rfl, F, hF, hnd, hr, hB1⟩
  obtain ⟨_, ⟨_, e⟩ | ⟨_, _, _, _, e⟩ | ⟨b, off, cap, rfl, g1, g2, g3, g4, g5⟩⟩ := h
  · exact absurd e h0
  · exact absurd e h0
  have hone : ∀ i (hi : i < l.length), szPl l[i] ≤ 2097152 := fun i hi => by have := szPl_le l i hi; unfold szPls at hs; omega
  go_enter Tryz.func17, Tryz.ntmps17
  go_wp2_with (at_make; refine wpList_make_full _ rfl _ _ 33 rfl w.heap.size 54 i0 _ 9 Tryz.underlying33 hi hz0 hz1 .i64 .i64 _ _ l.length rfl rfl rfl rfl ?c1 ?c2 ?c3 ?_)
  case c1 => rw [hz2]; omega
  case c2 => exact hm
  case c3 => exact Nat.le_refl _
  intro w1 hown hgrow
  have hB1 := Below.ofGrown hgrow
  have hH := Half.start (α := PlV) (l := l) (R := OwPlC w1) (w.heap.size + 1) (ownsRow_base hown 0 (Nat.zero_le _))
  have hlt1 := (hown.lt w.heap.size rfl).2
  clear hown hgrow
  go_wp2_with fail
  go_loopw [4] (fun i wr => ∃ k : Nat, k ≤ l.length ∧ i = .int .i64 k ∧ Half wr 54 9 w.heap.size l.length l (OwPlC wr) (w.heap.size + 1) k ∧ Below w.heap.size w wr ∧ w.heap.size + 1 ≤ wr.heap.size) (fun i _ => l.length - (intOf i).toNat)
  case atStart => exact ⟨0, Nat.zero_le _, rfl, hH, hB1, by omega⟩
  case round =>
    obtain ⟨k, hk, rfl, hr, hB, hsz⟩ := hrel
    clear hH hB1 hlt1
    by_cases hlt : k < l.length
    · obtain ⟨p1, u1, p2, u2, p3, u3, p4, u4, e0, e1, e2, e3, e4, e5, e6, e7, e8, hro⟩ := plc_at hB g4 (g5 k hlt)
      have hlt' : (k : Int) < (l.length : Int) := by omega
      have HT := hide (toPl_any wr _ l[k] hro (hone k hlt))
      have HR0 := hide hr
      have HRW := hide (fun (w2 : World) (hB2 : Below wr.heap.size wr w2) => (show ∃ xs : List Value, w2.ownsRow 0 54 9 (.slice (some ⟨w.heap.size, 0, none⟩) l.length l.length) l.length xs by
        obtain ⟨_, _, xs, _, _, _, h4, _⟩ := hr.laid
        exact ⟨xs, ownsRow_frm h4 (Frm.ofBelow hB2 []) (fun _ _ => by simp)⟩))
      unfold plVal at HT
      generalize hoo : l[k] = o at *
      have HOO := hide hoo.symm
      clear g5 hoo hr hro hone
      go_wp2_with fail
      clear e0 e1 e2 e3 e4 e5 e6 e7 e8
      refine (unhide HT).mono ?_
      rintro e w2 ⟨ak, dk, an, dn, at1, dt, as1, ds, G, rfl, hO, hGn, hrg, hB2⟩
      generalize hnK : o.key.length = nK at *
      generalize hnN : o.name.length = nN at *
      generalize hnT : o.text.length = nT at *
      generalize hnS : o.attrs.length = nS at *
      clear hnK hnN hnT hnS
      obtain ⟨xs, hx⟩ := unhide HRW w2 hB2
      have hxl := hx.1
      have hcell : ∀ j, j < 9 → ∃ y, w2.cell? ⟨w.heap.size, k * 9 + j, none⟩ = some y := fun j hj => ⟨xs[k * 9 + j]'(by omega), by rw [hx.cellAt (k * 9 + j) (by omega), List.getElem?_eq_getElem (by omega)]⟩
      obtain ⟨y0, q0⟩ := hcell 0 (by omega)
      obtain ⟨y1, q1⟩ := hcell 1 (by omega)
      obtain ⟨y2, q2⟩ := hcell 2 (by omega)
      obtain ⟨y3, q3⟩ := hcell 3 (by omega)
      obtain ⟨y4, q4⟩ := hcell 4 (by omega)
      obtain ⟨y5, q5⟩ := hcell 5 (by omega)
      obtain ⟨y6, q6⟩ := hcell 6 (by omega)
      obtain ⟨y7, q7⟩ := hcell 7 (by omega)
      obtain ⟨y8, q8⟩ := hcell 8 (by omega)
      rw [Nat.add_zero] at q0
      have f0 := hx.frozenAt (k * 9)
      have f1 := hx.frozenAt (k * 9 + 1)
      have f2 := hx.frozenAt (k * 9 + 2)
      have f3 := hx.frozenAt (k * 9 + 3)
      have f4 := hx.frozenAt (k * 9 + 4)
      have f5 := hx.frozenAt (k * 9 + 5)
      have f6 := hx.frozenAt (k * 9 + 6)
      have f7 := hx.frozenAt (k * 9 + 7)
      have f8 := hx.frozenAt (k * 9 + 8)
      obtain ⟨W, hW⟩ : ∃ W, W = (((((((((w2.setCell ⟨w.heap.size, k * 9, none⟩ (.int .i64 o.idN)).setCell ⟨w.heap.size, k * 9 + 1, none⟩ (.int .i64 o.idR)).setCell ⟨w.heap.size, k * 9 + 2, none⟩ (.int .i64 o.parN)).setCell ⟨w.heap.size, k * 9 + 3, none⟩ (.int .i64 o.parR)).setCell ⟨w.heap.size, k * 9 + 4, none⟩ (.slice ak nK dk)).setCell ⟨w.heap.size, k * 9 + 5, none⟩ (.int .i64 o.kind)).setCell ⟨w.heap.size, k * 9 + 6, none⟩ (.slice an nN dn)).setCell ⟨w.heap.size, k * 9 + 7, none⟩ (.slice at1 nT dt)).setCell ⟨w.heap.size, k * 9 + 8, none⟩ (.slice as1 nS ds)) := ⟨_, rfl⟩
      have hf : Frm w2 W [w.heap.size] := by rw [hW]; exact (((((((((set_frm w2 _ _ _).trans (set_frm _ _ _ _)).trans (set_frm _ _ _ _)).trans (set_frm _ _ _ _)).trans (set_frm _ _ _ _)).trans (set_frm _ _ _ _)).trans (set_frm _ _ _ _)).trans (set_frm _ _ _ _)).trans (set_frm _ _ _ _))
      have hstep : Half W 54 9 w.heap.size l.length l (OwPlC W) (w.heap.size + 1) (k + 1) := by
        refine (unhide HR0).step hlt (by omega) hsz hB2 [.int .i64 o.idN, .int .i64 o.idR, .int .i64 o.parN, .int .i64 o.parR, .slice ak nK dk, .int .i64 o.kind, .slice an nN dn, .slice at1 nT dt, .slice as1 nS ds] G rfl ?_ hGn hrg ?_ hf ?_
        · rw [← unhide HOO]
          exact OwPlC.frm (w := w2) hO hf (fun g hg => by have := hrg g hg; simp; omega)
        · intro C x G' hx' hne
          exact OwPlC.frm hx' ((Frm.ofBelow hB2 [w.heap.size]).trans hf) (fun g hg => by have := hne g hg; simp; omega)
        · intro zs hz
          have hzl := hz.1
          have t0 := (hz.stored (k * 9) (.int .i64 o.idN)).1
          have t1 := (t0.stored (k * 9 + 1) (.int .i64 o.idR)).1
          have t2 := (t1.stored (k * 9 + 2) (.int .i64 o.parN)).1
          have t3 := (t2.stored (k * 9 + 3) (.int .i64 o.parR)).1
          have t4 := (t3.stored (k * 9 + 4) (.slice ak nK dk)).1
          have t5 := (t4.stored (k * 9 + 5) (.int .i64 o.kind)).1
          have t6 := (t5.stored (k * 9 + 6) (.slice an nN dn)).1
          have t7 := (t6.stored (k * 9 + 7) (.slice at1 nT dt)).1
          have t8 := (t7.stored (k * 9 + 8) (.slice as1 nS ds)).1
          rw [hW]
          exact ⟨_, t8, take_nineP zs (k * 9) _ _ _ _ _ _ _ _ _ (by omega)⟩
      have HB0 := hB.trans ((hB2.mono hB.size).trans (hf.below (by have := hB2.size; have := hB.size; omega) (fun g hg => by simp at hg; omega)))
      have hs2 : w.heap.size + 1 ≤ W.heap.size := by have := hf.size; have := hB2.size; omega
      subst hW
      have HS := hide hstep
      have HB := hide HB0
      have HS2 := hide hs2
      clear hstep hf hx hO hGn hB2 hB HB0 hs2 hrg hcell HT HR0 HRW HOO
      go_wp2_with fail
      go_roundw
      case rel => exact ⟨k + 1, by omega, by go_num, unhide HS, unhide HB, unhide HS2⟩
      case measure => simp [intOf]; omega
    · have e : k = l.length := by omega
      subst e
      have HW := hide (hr.whole rfl (by omega))
      clear hr g5 hone
      go_wp2_with fail
      go_ret
      obtain ⟨F, hF, hnd, hrg⟩ := unhide HW
      exact ⟨_, _, rfl, F, hF, hnd, hrg, hB⟩

set_option maxHeartbeats 1600000 in
theorem toSt_any (w : World) (v : Value) (l : List PlV) (h : RdPls w v l) (hs : szPls l ≤ 2097152) :
    Calls Tryz.prog 6 #[.agg #[v]] w fun e w' => ∃ a c, e = .returned (.agg #[.slice a l.length c]) ∧ ∃ F, OwPls w' (.slice a l.length c) l F ∧ F.Nodup ∧ Rng F w.heap.size w'.heap.size ∧ Below w.heap.size w w' := by
  have l1 := (Loc.made (w.alloc (.cells #[v] 24)) #[.slice none 0 0] 35).alloc (.cells #[.slice none 0 0] 35)
  have l2 := Loc.made ((w.alloc (.cells #[v] 24)).alloc (.cells #[.slice none 0 0] 35)) #[.slice none 0 0] 35
  have hA : Below w.heap.size w (((w.alloc (.cells #[v] 24)).alloc (.cells #[.slice none 0 0] 35)).alloc (.cells #[.slice none 0 0] 35)) := (((Below.refl _ _).alloc (Nat.le_refl _) _).alloc (by simp) _).alloc (by simp; omega) _
  simp only [World.size_alloc] at l1 l2
  have HS := hide (toPls_any _ v l (h.keep hA) hs)
  have L := hide (And.intro l1 (And.intro l2 hA))
  clear l1 l2 hA
  obtain ⟨a, c, rfl, _, _⟩ := Elems.shape h
  clear h
  go_enter Tryz.func6, Tryz.ntmps6
  go_wp2_with fail
  obtain ⟨l1, l2, hA⟩ := unhide L
  clear L
  generalize (((w.alloc (.cells #[Value.slice a l.length c] 24)).alloc (.cells #[.slice none 0 0] 35)).alloc (.cells #[.slice none 0 0] 35)) = W at *
  have hW := l2.lt
  refine (unhide HS).mono ?_
  rintro e w2 ⟨a2, c2, rfl, F, hF, hnd, hR, hB⟩
  replace l1 := l1.all hB
  replace l2 := l2.all hB
  have e2 := l2.cell 0
  have f2 := l2.frozen 0
  have e1 := l1.cell 0
  have f1 := l1.frozen 0
  simp at e1 e2
  have hf : Frm w2 ((w2.setCell ⟨w.heap.size + 1 + 1, 0, none⟩ (.slice a2 l.length c2)).setCell ⟨w.heap.size + 1, 0, none⟩ (.slice a2 l.length c2)) [w.heap.size + 1 + 1, w.heap.size + 1] := (((set_frm _ _ _ _).mono (by simp)).trans ((set_frm _ _ _ _).mono (by simp)))
  have q := OwPls.frm hF hf (fun g hg => by have := hR g hg; simp; omega)
  have hB2 := bstep hA hB
  have hA2 := hB2.trans (hf.below hB2.size (fun g hg => by simp at hg; omega))
  have HE := hide (And.intro q (And.intro hnd (And.intro (hR.mono (show w.heap.size ≤ _ by omega) hf.size) hA2)))
  clear q hf hB2 hA2 hF hnd hR hB l1 l2 HS hA
  go_wp2_with fail
  obtain ⟨q, hnd, hR, hA2⟩ := unhide HE
  exact bodyPost_ret (v := .agg #[.slice a2 l.length c2]) (by simp [results, Tryz.results6, go_sem, e1]) rfl ⟨_, _, rfl, F, q, hnd, hR, hA2⟩
end Go.Proofs.YthgopknjppflhaaGreatDoor

/- Rows of places: small facts. No function of the program. -/
namespace Go.Proofs.YthgopknjppflhaaGreatDoor
open Go.RowKit
set_option linter.unusedVariables false
set_option maxRecDepth 100000

theorem OwPls.toM {w : World} {v : Value} {l : List PlV} {F : List Nat} (h : OwPls w v l F) : OwPlsM w v l F := by
  obtain ⟨Cs, Fs, h1, h2, h3, h4, h5⟩ := h
  refine ⟨Cs, Fs, h1, h2, fun i hi => ⟨(h3 i hi).1, ?_⟩, h4, h5⟩
  obtain ⟨k, n, t, a, Fa, e, g1, g2, g3, g4, g5⟩ := (h3 i hi).2
  exact ⟨k, n, t, a, Fa, e, g1, g2.rowm, g3, g4, g5⟩
theorem OwPlsM.keep {w w' : World} {v : Value} {l : List PlV} {F : List Nat} (h : OwPlsM w v l F) (hb : Below w.heap.size w w') : OwPlsM w' v l F := OwPlsM.frm h (Frm.ofBelow hb []) (fun _ _ => by simp)
theorem cntA_szA : ∀ (l : List (List Int × List Int)), cntA l ≤ szA l
  | [] => by simp [cntA, szA]
  | x :: r => by
    have := cntA_szA r
    unfold szA at this ⊢
    simp only [cntA, List.length_cons, List.map_cons, List.sum_cons]
    omega
theorem cntPls_sz : ∀ (l : List PlV), cntPls l ≤ 5 * szPls l
  | [] => by simp [cntPls]
  | x :: r => by
    have h2 := cntPls_sz r
    have h3 := cntA_szA x.attrs
    unfold szPls at h2 ⊢
    simp only [cntPls, szP, szPl, List.length_cons, List.map_cons, List.sum_cons]
    omega
theorem cntPls_each {l : List PlV} {x : PlV} (h : x ∈ l) : cntA x.attrs ≤ szPls l := by
  have h3 := cntA_szA x.attrs
  have h4 : szPl x ≤ (l.map szPl).sum := by
    clear h3
    induction l with
    | nil => cases h
    | cons y r ih =>
      rcases List.mem_cons.1 h with rfl | h
      · simp only [List.map_cons, List.sum_cons]; omega
      · have := ih h
        simp only [List.map_cons, List.sum_cons]; omega
  have h5 : szA x.attrs ≤ szPl x := by unfold szPl; omega
  unfold szPls
  generalize (l.map szPl).sum = z at *
  omega
end Go.Proofs.YthgopknjppflhaaGreatDoor

/- An argument of a law that can be read as data is a row of numbers, a stamp, an operation: what the data's readings open to. No condition. -/
namespace Go.Proofs.YthgopknjppflhaaGreatDoor
open Go.RowKit Go.ChangeShapes
set_option linter.unusedVariables false
set_option maxRecDepth 100000

variable {H : Type} {enc : TypeId × Value → H} {W : World} {held : Bool}

theorem open_bytesO {fuel : Nat} {cs : List Value} {x : DataW H × List MemPlace} (h : DataW.trod enc Tryz.prog W 0 (fun _ => true) held fuel 26 cs = some x) :
    ∃ v l, cs = [v] ∧ Byt W v l := by
  rcases open_ints Tryz.underlying26 Tryz.underlying5 (by kernel_rfl) h with ⟨hcs, _⟩ | ⟨a, len, cap, zs, hcs, _, hl, hm, hz, _, hcell, hwz⟩
  · exact ⟨_, _, hcs, byt_of_row (zs := []) (.inl ⟨rfl, rfl, rfl, rfl⟩)⟩
  · exact ⟨_, _, hcs, byt_of_row (.inr ⟨_, rfl, hl, hm, by simpa using hz, hcell, hwz⟩)⟩
theorem open_intsO {fuel : Nat} {cs : List Value} {x : DataW H × List MemPlace} (h : DataW.trod enc Tryz.prog W 0 (fun _ => true) held fuel 52 cs = some x) :
    ∃ v l, cs = [v] ∧ Ints W v l := by
  rcases open_ints Tryz.underlying52 Tryz.underlying3 (by kernel_rfl) h with ⟨hcs, _⟩ | ⟨a, len, cap, zs, hcs, _, hl, hm, hz, _, hcell, hwz⟩
  · exact ⟨_, _, hcs, ints_of_row (zs := []) (.inl ⟨rfl, rfl, rfl, rfl⟩)⟩
  · exact ⟨_, _, hcs, ints_of_row (.inr ⟨_, rfl, hl, hm, by simpa using hz, hcell, hwz⟩)⟩

theorem some_atO {α : Type} {l : List α} {n i : Nat} (h : l.length = n) (hi : i < n) : ∃ y, l[i]? = some y := ⟨l[i]'(by omega), List.getElem?_eq_getElem (by omega)⟩

end Go.Proofs.YthgopknjppflhaaGreatDoor

/- An argument of a law that can be read as data is a state: what the data's reading opens to. No condition. -/
namespace Go.Proofs.YthgopknjppflhaaGreatDoor
open Go.RowKit Go.ChangeShapes
set_option linter.unusedVariables false
set_option maxRecDepth 100000

variable {H : Type} {enc : TypeId × Value → H} {W : World} {held : Bool}

/-- What numbers of a place are. -/
def bndP (p : PlV) : Prop := (-9223372036854775808 ≤ p.kind ∧ p.kind ≤ 9223372036854775807) ∧ okI p.id ∧ okI p.par
theorem open_idB {fuel : Nat} {cs : List Value} {x : DataW H × List MemPlace} (h : DataW.trod enc Tryz.prog W 0 (fun _ => true) held fuel 73 cs = some x) : ∃ n r : Int, cs = [.int .i64 n, .int .i64 r] ∧ okI (n, r) := by
  obtain ⟨xs, n, _, _, hlen, hxs, hf⟩ := DataW.trod_struct Tryz.underlying73 h
  have hlen2 : cs.length = 2 := hlen.trans (by kernel_rfl)
  match cs, hlen2 with
  | [c0, c1], _ =>
    obtain ⟨y0, e0⟩ := some_atO (i := 0) hxs (by simp)
    obtain ⟨y1, e1⟩ := some_atO (i := 1) hxs (by simp)
    have h0 : DataW.trod enc Tryz.prog W 0 (fun _ => true) held n 3 (([c0, c1].drop 0).take (Tryz.prog.cellsOf 3)) = some y0 := (hf 0 _ rfl).trans e0
    have h1 : DataW.trod enc Tryz.prog W 0 (fun _ => true) held n 3 (([c0, c1].drop 1).take (Tryz.prog.cellsOf 3)) = some y1 := (hf 1 _ rfl).trans e1
    have ki : Tryz.prog.cellsOf 3 = 1 := by kernel_rfl
    simp only [ki, List.drop, List.take] at h0 h1
    obtain ⟨z0, g0, _, b0⟩ := DataW.trod_int Tryz.underlying3 h0
    obtain ⟨z1, g1, _, b1⟩ := DataW.trod_int Tryz.underlying3 h1
    simp at g0 g1
    subst g0; subst g1
    exact ⟨z0, z1, rfl, b0, b1⟩
theorem open_place {fuel : Nat} {cs : List Value} {x : DataW H × List MemPlace} (h : DataW.trod enc Tryz.prog W 0 (fun _ => true) held fuel 76 cs = some x) : ∃ p, RdPlC W cs p ∧ bndP p := by
  obtain ⟨xs, n, _, _, hlen, hxs, hf⟩ := DataW.trod_struct Tryz.underlying76 h
  have hlen2 : cs.length = 9 := hlen.trans (by kernel_rfl)
  match cs, hlen2 with
  | [c0, c1, c2, c3, c4, c5, c6, c7, c8], _ =>
    obtain ⟨y0, e0⟩ := some_atO (i := 0) hxs (by simp)
    obtain ⟨y1, e1⟩ := some_atO (i := 1) hxs (by simp)
    obtain ⟨y2, e2⟩ := some_atO (i := 2) hxs (by simp)
    obtain ⟨y3, e3⟩ := some_atO (i := 3) hxs (by simp)
    obtain ⟨y4, e4⟩ := some_atO (i := 4) hxs (by simp)
    obtain ⟨y5, e5⟩ := some_atO (i := 5) hxs (by simp)
    obtain ⟨y6, e6⟩ := some_atO (i := 6) hxs (by simp)
    have h0 : DataW.trod enc Tryz.prog W 0 (fun _ => true) held n 73 (([c0, c1, c2, c3, c4, c5, c6, c7, c8].drop 0).take (Tryz.prog.cellsOf 73)) = some y0 := (hf 0 _ rfl).trans e0
    have h1 : DataW.trod enc Tryz.prog W 0 (fun _ => true) held n 73 (([c0, c1, c2, c3, c4, c5, c6, c7, c8].drop 2).take (Tryz.prog.cellsOf 73)) = some y1 := (hf 1 _ rfl).trans e1
    have h2 : DataW.trod enc Tryz.prog W 0 (fun _ => true) held n 52 (([c0, c1, c2, c3, c4, c5, c6, c7, c8].drop 4).take (Tryz.prog.cellsOf 52)) = some y2 := (hf 2 _ rfl).trans e2
    have h3 : DataW.trod enc Tryz.prog W 0 (fun _ => true) held n 3 (([c0, c1, c2, c3, c4, c5, c6, c7, c8].drop 5).take (Tryz.prog.cellsOf 3)) = some y3 := (hf 3 _ rfl).trans e3
    have h4 : DataW.trod enc Tryz.prog W 0 (fun _ => true) held n 26 (([c0, c1, c2, c3, c4, c5, c6, c7, c8].drop 6).take (Tryz.prog.cellsOf 26)) = some y4 := (hf 4 _ rfl).trans e4
    have h5 : DataW.trod enc Tryz.prog W 0 (fun _ => true) held n 26 (([c0, c1, c2, c3, c4, c5, c6, c7, c8].drop 7).take (Tryz.prog.cellsOf 26)) = some y5 := (hf 5 _ rfl).trans e5
    have h6 : DataW.trod enc Tryz.prog W 0 (fun _ => true) held n 74 (([c0, c1, c2, c3, c4, c5, c6, c7, c8].drop 8).take (Tryz.prog.cellsOf 74)) = some y6 := (hf 6 _ rfl).trans e6
    have ki : Tryz.prog.cellsOf 3 = 1 := by kernel_rfl
    have k1 : Tryz.prog.cellsOf 26 = 1 := by kernel_rfl
    have k2 : Tryz.prog.cellsOf 52 = 1 := by kernel_rfl
    have k3 : Tryz.prog.cellsOf 73 = 2 := by kernel_rfl
    have k4 : Tryz.prog.cellsOf 74 = 1 := by kernel_rfl
    simp only [ki, k1, k2, k3, k4, List.drop, List.take] at h0 h1 h2 h3 h4 h5 h6
    obtain ⟨z0, z1, g0, b0⟩ := open_idB h0
    obtain ⟨z2, z3, g1, b1⟩ := open_idB h1
    obtain ⟨v4, l4, g2, b4⟩ := open_intsO h2
    obtain ⟨z5, g3, _, hk⟩ := DataW.trod_int Tryz.underlying3 h3
    obtain ⟨v6, l6, g4, b6⟩ := open_bytesO h4
    obtain ⟨v7, l7, g5, b7⟩ := open_bytesO h5
    obtain ⟨v8, l8, g6, b8⟩ := open_elems (sz := 2) Tryz.underlying74 (by kernel_rfl) (by omega) (fun n C y _ hy => open_attr hy) h6
    simp at g0 g1 g2 g3 g4 g5 g6
    obtain ⟨rfl, rfl⟩ := g0
    obtain ⟨rfl, rfl⟩ := g1
    subst g2; subst g3; subst g4; subst g5; subst g6
    exact ⟨⟨z0, z1, z2, z3, l4, z5, l6, l7, l8⟩, ⟨_, _, _, _, rfl, b4, b6, b7, b8⟩, bounds_i64 hk, b0, b1⟩
theorem elems_part {α : Type} {w : World} {size : Nat} {v : Value} {l : List α} {R : List Value → α → Prop} {P : α → Prop} (h : Elems w size v l (fun C x => R C x ∧ P x)) : Elems w size v l R ∧ ∀ x ∈ l, P x := by
  obtain ⟨h1, h2 | h2 | ⟨b, off, cap, e, g1, g2, g3, g4, g5⟩⟩ := h
  · exact ⟨⟨h1, .inl h2⟩, fun x hx => by rw [h2.2] at hx; cases hx⟩
  · obtain ⟨y, cap, e, hc, e2⟩ := h2
    exact ⟨⟨h1, .inr (.inl ⟨y, cap, e, hc, e2⟩)⟩, fun x hx => by rw [e2] at hx; cases hx⟩
  · refine ⟨⟨h1, .inr (.inr ⟨b, off, cap, e, g1, g2, g3, g4, fun i hi => ?_⟩)⟩, fun x hx => ?_⟩
    · obtain ⟨C, c1, c2, c3, _⟩ := g5 i hi
      exact ⟨C, c1, c2, c3⟩
    · obtain ⟨i, hi, rfl⟩ := List.getElem_of_mem hx
      obtain ⟨C, c1, c2, _, c4⟩ := g5 i hi
      exact c4
theorem open_state {fuel : Nat} {cs : List Value} {x : DataW H × List MemPlace} (h : DataW.trod enc Tryz.prog W 0 (fun _ => true) held fuel 24 cs = some x) : ∃ v l, cs = [v] ∧ RdPls W v l ∧ ∀ p ∈ l, bndP p := by
  obtain ⟨xs, n, _, _, hlen, hxs, hf⟩ := DataW.trod_struct Tryz.underlying24 h
  have hlen2 : cs.length = 1 := hlen.trans (by kernel_rfl)
  match cs, hlen2 with
  | [c0], _ =>
    obtain ⟨y0, e0⟩ := some_atO (i := 0) hxs (by simp)
    have h0 : DataW.trod enc Tryz.prog W 0 (fun _ => true) held n 22 (([c0].drop 0).take (Tryz.prog.cellsOf 22)) = some y0 := (hf 0 _ rfl).trans e0
    have k1 : Tryz.prog.cellsOf 22 = 1 := by kernel_rfl
    simp only [k1, List.drop, List.take] at h0
    obtain ⟨v, l, g0, b0⟩ := open_elems (sz := 9) (R := fun C p => RdPlC W C p ∧ bndP p) Tryz.underlying22 (by kernel_rfl) (by omega) (fun n C y _ hy => open_place hy) h0
    obtain ⟨b1, b2⟩ := elems_part b0
    exact ⟨v, l, g0, b1, b2⟩
/-- An argument that is a state. -/
theorem arg_state {r : Reach} {base : Nat} {v : Value} {x : DataW H} {p : List MemPlace} (hv : Value.okWide Tryz.prog W r base 24 v) (h : DataW.Trod enc Tryz.prog W 0 (fun _ => true) held 24 v x p) : ∃ u l, v = .agg #[u] ∧ RdPls W u l ∧ ∀ p ∈ l, bndP p := by
  obtain ⟨cs, rfl, hsz⟩ := WideShapes.okWide_struct Tryz.underlying24 hv
  obtain ⟨fuel, hf⟩ := h
  obtain ⟨l⟩ := cs
  obtain ⟨u, l', e, h1, h2⟩ := open_state hf
  exact ⟨u, l', by rw [show l = [u] from e], h1, h2⟩
end Go.Proofs.YthgopknjppflhaaGreatDoor
