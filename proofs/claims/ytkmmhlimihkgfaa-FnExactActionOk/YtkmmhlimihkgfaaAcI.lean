/- impl.isZeroEdit, impl.editOk, impl.countOk, impl.ActionOk answer what the plain tests say. -/
import Derived.Test.YtkmmhlimihkgfaaAcT
namespace Go.Proofs.Ytkmmhlimihkgfaa
open Go.RowKit
set_option linter.unusedVariables false
set_option maxRecDepth 100000

set_option maxHeartbeats 6400000 in
theorem zeI_any (w : World) (e : EdV) (a1 a2 : Option Addr) (c1 c2 : Nat) :
    Calls Try.prog 15 #[edVal e (.slice a1 e.name.length c1) (.slice a2 e.text.length c2)] w fun r w' => r = .returned (.bool (zeB e)) ∧ Below w.heap.size w w' := by
  unfold edVal
  go_enter Try.func15, Try.ntmps15
  go_wp2_with fail
  all_goals
    go_ret
    exact ⟨by simp [zeB, zeroB, *], (Below.refl w.heap.size w).alloc (Nat.le_refl _) _⟩

set_option maxHeartbeats 6400000 in
theorem edI_0 (w : World) (nn nr tn tr i el : Int) (nm tx : List Int) (g : Bool) (a1 a2 : Option Addr) (c1 c2 : Nat) (hn : Byt w (.slice a1 nm.length c1) nm) (ht : Byt w (.slice a2 tx.length c2) tx) :
    Calls Try.prog 14 #[.agg #[.int .i64 0, .int .i64 nn, .int .i64 nr, .int .i64 tn, .int .i64 tr, .int .i64 i, .int .i64 el, .slice a1 nm.length c1, .slice a2 tx.length c2, .bool g]] w fun e w' => e = .returned (.bool (ed0 nn nr tn tr i el nm tx g)) ∧ Below w.heap.size w w' := by
  have hE := ed0_eq nn nr tn tr i el nm tx g
  have HM := hide hn
  have HX := hide ht
  clear hn ht
  go_enter Try.func14, Try.ntmps14
  go_wp2_with fail
  refine (idI_any _ nn nr).mono ?_
  rintro e w1 ⟨rfl, ew⟩
  obtain rfl := ew
  cases hx : idB nn nr
  · rw [hx] at hE
    clear hx
    have HF := hide (show ed0 nn nr tn tr i el nm tx g = false by rw [hE]; rfl)
    clear hE
    go_wp2_with fail
    go_ret
    exact ⟨by rw [unhide HF]; rfl, (by repeat (first | exact Below.refl _ _ | refine balloc ?_))⟩
  rw [hx] at hE
  clear hx
  go_wp2_with fail
  refine (loneI_any _ el _ _ nm tx ((unhide HM).keep (by repeat (first | exact Below.refl _ _ | refine balloc ?_))) ((unhide HX).keep (by repeat (first | exact Below.refl _ _ | refine balloc ?_)))).mono ?_
  rintro e w1 ⟨rfl, ew⟩
  obtain rfl := ew
  cases hx : loneB el nm tx
  · rw [hx] at hE
    clear hx
    have HF := hide (show ed0 nn nr tn tr i el nm tx g = false by rw [hE]; rfl)
    clear hE
    go_wp2_with fail
    go_ret
    exact ⟨by rw [unhide HF]; rfl, (by repeat (first | exact Below.refl _ _ | refine balloc ?_))⟩
  rw [hx] at hE
  clear hx
  have HF := hide (show ed0 nn nr tn tr i el nm tx g = zeB ⟨0, 0, 0, tn, tr, 0, 0, [], [], g⟩ by rw [hE]; rfl)
  clear hE
  go_wp2_with fail
  refine (zeI_any _ ⟨0, 0, 0, tn, tr, 0, 0, [], [], g⟩ none none 0 0).mono ?_
  rintro e w1 ⟨rfl, hB1⟩
  have hA := bstep (a := w) (by repeat (first | exact Below.refl _ _ | refine balloc ?_)) hB1
  clear hB1
  go_wp2_with fail
  go_ret
  exact ⟨by rw [unhide HF]; rfl, hA⟩
set_option maxHeartbeats 6400000 in
theorem edI_1 (w : World) (nn nr tn tr i el : Int) (nm tx : List Int) (g : Bool) (a1 a2 : Option Addr) (c1 c2 : Nat) (hn : Byt w (.slice a1 nm.length c1) nm) (ht : Byt w (.slice a2 tx.length c2) tx) :
    Calls Try.prog 14 #[.agg #[.int .i64 1, .int .i64 nn, .int .i64 nr, .int .i64 tn, .int .i64 tr, .int .i64 i, .int .i64 el, .slice a1 nm.length c1, .slice a2 tx.length c2, .bool g]] w fun e w' => e = .returned (.bool (ed1 nn nr tn tr i el nm tx g)) ∧ Below w.heap.size w w' := by
  have hE := ed1_eq nn nr tn tr i el nm tx g
  have HM := hide hn
  have HX := hide ht
  clear hn ht
  go_enter Try.func14, Try.ntmps14
  go_wp2_with fail
  refine (idI_any _ nn nr).mono ?_
  rintro e w1 ⟨rfl, ew⟩
  obtain rfl := ew
  cases hx : idB nn nr
  · rw [hx] at hE
    clear hx
    have HF := hide (show ed1 nn nr tn tr i el nm tx g = false by rw [hE]; rfl)
    clear hE
    go_wp2_with fail
    go_ret
    exact ⟨by rw [unhide HF]; rfl, (by repeat (first | exact Below.refl _ _ | refine balloc ?_))⟩
  rw [hx] at hE
  clear hx
  go_wp2_with fail
  refine (idI_any _ tn tr).mono ?_
  rintro e w1 ⟨rfl, ew⟩
  obtain rfl := ew
  cases hx : idB tn tr
  · rw [hx] at hE
    clear hx
    have HF := hide (show ed1 nn nr tn tr i el nm tx g = false by rw [hE]; rfl)
    clear hE
    go_wp2_with fail
    go_ret
    exact ⟨by rw [unhide HF]; rfl, (by repeat (first | exact Below.refl _ _ | refine balloc ?_))⟩
  rw [hx] at hE
  clear hx
  have HF := hide (show ed1 nn nr tn tr i el nm tx g = zeB ⟨0, 0, 0, 0, 0, 0, el, nm, tx, g⟩ by rw [hE]; rfl)
  clear hE
  go_wp2_with fail
  refine (zeI_any _ ⟨0, 0, 0, 0, 0, 0, el, nm, tx, g⟩ a1 a2 c1 c2).mono ?_
  rintro e w1 ⟨rfl, hB1⟩
  have hA := bstep (a := w) (by repeat (first | exact Below.refl _ _ | refine balloc ?_)) hB1
  clear hB1
  go_wp2_with fail
  go_ret
  exact ⟨by rw [unhide HF]; rfl, hA⟩
set_option maxHeartbeats 6400000 in
theorem edI_2 (w : World) (nn nr tn tr i el : Int) (nm tx : List Int) (g : Bool) (a1 a2 : Option Addr) (c1 c2 : Nat) (hn : Byt w (.slice a1 nm.length c1) nm) (ht : Byt w (.slice a2 tx.length c2) tx) :
    Calls Try.prog 14 #[.agg #[.int .i64 2, .int .i64 nn, .int .i64 nr, .int .i64 tn, .int .i64 tr, .int .i64 i, .int .i64 el, .slice a1 nm.length c1, .slice a2 tx.length c2, .bool g]] w fun e w' => e = .returned (.bool (ed2 nn nr tn tr i el nm tx g)) ∧ Below w.heap.size w w' := by
  have hE := ed2_eq nn nr tn tr i el nm tx g
  have HM := hide hn
  have HX := hide ht
  clear hn ht
  go_enter Try.func14, Try.ntmps14
  go_wp2_with fail
  refine (idI_any _ nn nr).mono ?_
  rintro e w1 ⟨rfl, ew⟩
  obtain rfl := ew
  cases hx : idB nn nr
  · rw [hx] at hE
    clear hx
    have HF := hide (show ed2 nn nr tn tr i el nm tx g = false by rw [hE]; rfl)
    clear hE
    go_wp2_with fail
    go_ret
    exact ⟨by rw [unhide HF]; rfl, (by repeat (first | exact Below.refl _ _ | refine balloc ?_))⟩
  rw [hx] at hE
  clear hx
  have HF := hide (show ed2 nn nr tn tr i el nm tx g = zeB ⟨0, 0, 0, tn, tr, i, el, nm, tx, g⟩ by rw [hE]; rfl)
  clear hE
  go_wp2_with fail
  refine (zeI_any _ ⟨0, 0, 0, tn, tr, i, el, nm, tx, g⟩ a1 a2 c1 c2).mono ?_
  rintro e w1 ⟨rfl, hB1⟩
  have hA := bstep (a := w) (by repeat (first | exact Below.refl _ _ | refine balloc ?_)) hB1
  clear hB1
  go_wp2_with fail
  go_ret
  exact ⟨by rw [unhide HF]; rfl, hA⟩
set_option maxHeartbeats 6400000 in
theorem edI_3 (w : World) (nn nr tn tr i el : Int) (nm tx : List Int) (g : Bool) (a1 a2 : Option Addr) (c1 c2 : Nat) (hn : Byt w (.slice a1 nm.length c1) nm) (ht : Byt w (.slice a2 tx.length c2) tx) :
    Calls Try.prog 14 #[.agg #[.int .i64 3, .int .i64 nn, .int .i64 nr, .int .i64 tn, .int .i64 tr, .int .i64 i, .int .i64 el, .slice a1 nm.length c1, .slice a2 tx.length c2, .bool g]] w fun e w' => e = .returned (.bool (ed3 nn nr tn tr i el nm tx g)) ∧ Below w.heap.size w w' := by
  have hE := ed3_eq nn nr tn tr i el nm tx g
  have HM := hide hn
  have HX := hide ht
  clear hn ht
  go_enter Try.func14, Try.ntmps14
  go_wp2_with fail
  refine (idI_any _ nn nr).mono ?_
  rintro e w1 ⟨rfl, ew⟩
  obtain rfl := ew
  cases hx : idB nn nr
  · rw [hx] at hE
    clear hx
    have HF := hide (show ed3 nn nr tn tr i el nm tx g = false by rw [hE]; rfl)
    clear hE
    go_wp2_with fail
    go_ret
    exact ⟨by rw [unhide HF]; rfl, (by repeat (first | exact Below.refl _ _ | refine balloc ?_))⟩
  rw [hx] at hE
  clear hx
  go_wp2_with fail
  refine (textI_b _ _ tx ((unhide HX).keep (by repeat (first | exact Below.refl _ _ | refine balloc ?_)))).mono ?_
  rintro e w1 ⟨rfl, ew⟩
  obtain rfl := ew
  cases hx : textB tx
  · rw [hx] at hE
    clear hx
    have HF := hide (show ed3 nn nr tn tr i el nm tx g = false by rw [hE]; rfl)
    clear hE
    go_wp2_with fail
    go_ret
    exact ⟨by rw [unhide HF]; rfl, (by repeat (first | exact Below.refl _ _ | refine balloc ?_))⟩
  rw [hx] at hE
  clear hx
  have HF := hide (show ed3 nn nr tn tr i el nm tx g = zeB ⟨0, 0, 0, tn, tr, i, el, nm, [], g⟩ by rw [hE]; rfl)
  clear hE
  go_wp2_with fail
  refine (zeI_any _ ⟨0, 0, 0, tn, tr, i, el, nm, [], g⟩ a1 none c1 0).mono ?_
  rintro e w1 ⟨rfl, hB1⟩
  have hA := bstep (a := w) (by repeat (first | exact Below.refl _ _ | refine balloc ?_)) hB1
  clear hB1
  go_wp2_with fail
  go_ret
  exact ⟨by rw [unhide HF]; rfl, hA⟩
set_option maxHeartbeats 6400000 in
theorem edI_4 (w : World) (nn nr tn tr i el : Int) (nm tx : List Int) (g : Bool) (a1 a2 : Option Addr) (c1 c2 : Nat) (hn : Byt w (.slice a1 nm.length c1) nm) (ht : Byt w (.slice a2 tx.length c2) tx) :
    Calls Try.prog 14 #[.agg #[.int .i64 4, .int .i64 nn, .int .i64 nr, .int .i64 tn, .int .i64 tr, .int .i64 i, .int .i64 el, .slice a1 nm.length c1, .slice a2 tx.length c2, .bool g]] w fun e w' => e = .returned (.bool (ed4 nn nr tn tr i el nm tx g)) ∧ Below w.heap.size w w' := by
  have hE := ed4_eq nn nr tn tr i el nm tx g
  have HM := hide hn
  have HX := hide ht
  clear hn ht
  go_enter Try.func14, Try.ntmps14
  go_wp2_with fail
  refine (idI_any _ nn nr).mono ?_
  rintro e w1 ⟨rfl, ew⟩
  obtain rfl := ew
  cases hx : idB nn nr
  · rw [hx] at hE
    clear hx
    have HF := hide (show ed4 nn nr tn tr i el nm tx g = false by rw [hE]; rfl)
    clear hE
    go_wp2_with fail
    go_ret
    exact ⟨by rw [unhide HF]; rfl, (by repeat (first | exact Below.refl _ _ | refine balloc ?_))⟩
  rw [hx] at hE
  clear hx
  go_wp2_with fail
  refine (nameI_b _ _ nm ((unhide HM).keep (by repeat (first | exact Below.refl _ _ | refine balloc ?_)))).mono ?_
  rintro e w1 ⟨rfl, ew⟩
  obtain rfl := ew
  cases hx : nameB nm
  · rw [hx] at hE
    clear hx
    have HF := hide (show ed4 nn nr tn tr i el nm tx g = false by rw [hE]; rfl)
    clear hE
    go_wp2_with fail
    go_ret
    exact ⟨by rw [unhide HF]; rfl, (by repeat (first | exact Below.refl _ _ | refine balloc ?_))⟩
  rw [hx] at hE
  clear hx
  go_wp2_with fail
  refine (valI_any _ _ tx g ((unhide HX).keep (by repeat (first | exact Below.refl _ _ | refine balloc ?_)))).mono ?_
  rintro e w1 ⟨rfl, ew⟩
  obtain rfl := ew
  cases hx : valB tx g
  · rw [hx] at hE
    clear hx
    have HF := hide (show ed4 nn nr tn tr i el nm tx g = false by rw [hE]; rfl)
    clear hE
    go_wp2_with fail
    go_ret
    exact ⟨by rw [unhide HF]; rfl, (by repeat (first | exact Below.refl _ _ | refine balloc ?_))⟩
  rw [hx] at hE
  clear hx
  have HF := hide (show ed4 nn nr tn tr i el nm tx g = zeB ⟨0, 0, 0, tn, tr, i, el, [], [], false⟩ by rw [hE]; rfl)
  clear hE
  go_wp2_with fail
  refine (zeI_any _ ⟨0, 0, 0, tn, tr, i, el, [], [], false⟩ none none 0 0).mono ?_
  rintro e w1 ⟨rfl, hB1⟩
  have hA := bstep (a := w) (by repeat (first | exact Below.refl _ _ | refine balloc ?_)) hB1
  clear hB1
  go_wp2_with fail
  go_ret
  exact ⟨by rw [unhide HF]; rfl, hA⟩
set_option maxHeartbeats 6400000 in
theorem edI_5 (w : World) (nn nr tn tr i el : Int) (nm tx : List Int) (g : Bool) (a1 a2 : Option Addr) (c1 c2 : Nat) (hn : Byt w (.slice a1 nm.length c1) nm) (ht : Byt w (.slice a2 tx.length c2) tx) :
    Calls Try.prog 14 #[.agg #[.int .i64 5, .int .i64 nn, .int .i64 nr, .int .i64 tn, .int .i64 tr, .int .i64 i, .int .i64 el, .slice a1 nm.length c1, .slice a2 tx.length c2, .bool g]] w fun e w' => e = .returned (.bool (ed5 nn nr tn tr i el nm tx g)) ∧ Below w.heap.size w w' := by
  have hE := ed5_eq nn nr tn tr i el nm tx g
  clear hn ht
  by_cases n0 : nn = 0
  · by_cases n1 : nr = 0
    · subst n0 n1
      have HF := hide (show ed5 0 0 tn tr i el nm tx g = zeB ⟨0, 0, 0, tn, tr, i, el, nm, tx, g⟩ by rw [hE]; rfl)
      clear hE
      go_enter Try.func14, Try.ntmps14
      go_wp2_with fail
      refine (idI_any _ 0 0).mono ?_
      rintro e w1 ⟨rfl, ew⟩
      obtain rfl := ew
      generalize idB 0 0 = bb
      go_wp2_with fail
      refine (zeI_any _ ⟨0, 0, 0, tn, tr, i, el, nm, tx, g⟩ a1 a2 c1 c2).mono ?_
      rintro e w1 ⟨rfl, hB1⟩
      have hA := bstep (a := w) (by repeat (first | exact Below.refl _ _ | refine balloc ?_)) hB1
      clear hB1
      go_wp2_with fail
      go_ret
      exact ⟨by rw [unhide HF]; rfl, hA⟩
    · subst n0
      have q : (nr == 0) = false := by simpa using n1
      have HF := hide (show ed5 0 nr tn tr i el nm tx g = false by rw [hE]; simp [zeroB, n1])
      clear hE
      go_enter Try.func14, Try.ntmps14
      go_wp2_with fail
      refine (idI_any _ 0 nr).mono ?_
      rintro e w1 ⟨rfl, ew⟩
      obtain rfl := ew
      generalize idB 0 nr = bb
      go_wp2_with fail
      all_goals
        go_ret
        exact ⟨by rw [unhide HF]; rfl, (by repeat (first | exact Below.refl _ _ | refine balloc ?_))⟩
  · have q : (nn == 0) = false := by simpa using n0
    have HF := hide (show ed5 nn nr tn tr i el nm tx g = false by rw [hE]; simp [zeroB, n0])
    clear hE
    go_enter Try.func14, Try.ntmps14
    go_wp2_with fail
    refine (idI_any _ nn nr).mono ?_
    rintro e w1 ⟨rfl, ew⟩
    obtain rfl := ew
    generalize idB nn nr = bb
    go_wp2_with fail
    all_goals
      go_ret
      exact ⟨by rw [unhide HF]; rfl, (by repeat (first | exact Below.refl _ _ | refine balloc ?_))⟩
set_option maxHeartbeats 6400000 in
theorem edI_6 (w : World) (k : Int) (nn nr tn tr i el : Int) (nm tx : List Int) (g : Bool) (a1 a2 : Option Addr) (c1 c2 : Nat) (k0 : k ≠ 0) (k1 : k ≠ 1) (k2 : k ≠ 2) (k3 : k ≠ 3) (k4 : k ≠ 4) (k5 : k ≠ 5) :
    Calls Try.prog 14 #[.agg #[.int .i64 k, .int .i64 nn, .int .i64 nr, .int .i64 tn, .int .i64 tr, .int .i64 i, .int .i64 el, .slice a1 nm.length c1, .slice a2 tx.length c2, .bool g]] w fun e w' => e = .returned (.bool false) ∧ Below w.heap.size w w' := by
  have q0 : (k == 0) = false := by simpa using k0
  have q1 : (k == 1) = false := by simpa using k1
  have q2 : (k == 2) = false := by simpa using k2
  have q3 : (k == 3) = false := by simpa using k3
  have q4 : (k == 4) = false := by simpa using k4
  have q5 : (k == 5) = false := by simpa using k5
  clear k0 k1 k2 k3 k4 k5
  go_enter Try.func14, Try.ntmps14
  go_wp2_with fail
  refine (idI_any _ nn nr).mono ?_
  rintro e w1 ⟨rfl, ew⟩
  obtain rfl := ew
  generalize idB nn nr = bb
  go_wp2_with fail
  go_ret
  exact ⟨rfl, (by repeat (first | exact Below.refl _ _ | refine balloc ?_))⟩
/-- impl.editOk, whatever it is asked. -/
theorem edI_any (w : World) (v : Value) (e : EdV) (h : RdEd w v e) :
    Calls Try.prog 14 #[v] w fun r w' => r = .returned (.bool (edB e)) ∧ Below w.heap.size w w' := by
  obtain ⟨n, t, rfl, hn, ht⟩ := h
  obtain ⟨a1, c1, rfl, _, _⟩ := hn.shape
  obtain ⟨a2, c2, rfl, _, _⟩ := ht.shape
  obtain ⟨k, nn, nr, tn, tr, i, el, nm, tx, g⟩ := e
  unfold edVal edB
  dsimp only at *
  by_cases k0 : k = 0
  · subst k0
    rw [if_pos rfl]
    exact edI_0 w nn nr tn tr i el nm tx g a1 a2 c1 c2 hn ht
  by_cases k1 : k = 1
  · subst k1
    rw [if_neg (by decide), if_pos rfl]
    exact edI_1 w nn nr tn tr i el nm tx g a1 a2 c1 c2 hn ht
  by_cases k2 : k = 2
  · subst k2
    rw [if_neg (by decide), if_neg (by decide), if_pos rfl]
    exact edI_2 w nn nr tn tr i el nm tx g a1 a2 c1 c2 hn ht
  by_cases k3 : k = 3
  · subst k3
    rw [if_neg (by decide), if_neg (by decide), if_neg (by decide), if_pos rfl]
    exact edI_3 w nn nr tn tr i el nm tx g a1 a2 c1 c2 hn ht
  by_cases k4 : k = 4
  · subst k4
    rw [if_neg (by decide), if_neg (by decide), if_neg (by decide), if_neg (by decide), if_pos rfl]
    exact edI_4 w nn nr tn tr i el nm tx g a1 a2 c1 c2 hn ht
  by_cases k5 : k = 5
  · subst k5
    rw [if_neg (by decide), if_neg (by decide), if_neg (by decide), if_neg (by decide), if_neg (by decide), if_pos rfl]
    exact edI_5 w nn nr tn tr i el nm tx g a1 a2 c1 c2 hn ht
  rw [if_neg k0, if_neg k1, if_neg k2, if_neg k3, if_neg k4, if_neg k5]
  exact edI_6 w k nn nr tn tr i el nm tx g a1 a2 c1 c2 k0 k1 k2 k3 k4 k5

def cntB (n : Int) : Bool := decide (0 ≤ n) && decide (n ≤ 2147483647)
theorem cntI_any (w : World) (n : Int) : Calls Try.prog 13 #[.int .i64 n] w fun r w' => r = .returned (.bool (cntB n)) ∧ w' = w := by
  cases h1 : decide (0 ≤ n)
  · have HE := hide (show cntB n = false by unfold cntB; rw [h1]; rfl)
    go_enter Try.func13, Try.ntmps13
    go_wp2_with fail
    go_ret
    exact ⟨by rw [unhide HE]; rfl, rfl⟩
  · have HE := hide (show cntB n = decide (n ≤ 2147483647) by unfold cntB; rw [h1]; rfl)
    go_enter Try.func13, Try.ntmps13
    go_wp2_with fail
    go_ret
    exact ⟨by rw [unhide HE]; rfl, rfl⟩
theorem acHead_eq (c : AcV) : acHead c = (!decide (c.kind < 0) && (!decide (5 < c.kind) && (cntB c.a && cntB c.b))) := by
  unfold acHead cntB
  have e1 : decide (0 ≤ c.kind) = !decide (c.kind < 0) := by rw [Bool.eq_iff_iff]; simp
  have e2 : decide (c.kind ≤ 5) = !decide (5 < c.kind) := by rw [Bool.eq_iff_iff]; simp
  rw [e1, e2]
  simp [Bool.and_assoc]

set_option maxHeartbeats 12800000 in
theorem acI_any (w : World) (v : Value) (c : AcV) (h : RdAc w v c) :
    Calls Try.prog 7 #[v] w fun r w' => r = .returned (.bool (acB c)) ∧ Below w.heap.size w w' := by
  obtain ⟨n, t, rfl, hn, ht⟩ := h
  obtain ⟨a1, c1, rfl, _, _⟩ := hn.shape
  obtain ⟨a2, c2, rfl, _, _⟩ := ht.shape
  have hE : acB c = ((!decide (c.kind < 0) && (!decide (5 < c.kind) && (cntB c.a && cntB c.b))) && (if c.kind = 0 then edB c.e else zeB c.e)) := by unfold acB; rw [acHead_eq]
  obtain ⟨k, a, b, ⟨ek, nn, nr, tn, tr, i, el, nm, tx, g⟩⟩ := c
  have HS := hide (fun W (hW : Below w.heap.size w W) => edI_any W (edVal ⟨ek, nn, nr, tn, tr, i, el, nm, tx, g⟩ (.slice a1 nm.length c1) (.slice a2 tx.length c2)) ⟨ek, nn, nr, tn, tr, i, el, nm, tx, g⟩ ⟨_, _, rfl, hn.keep hW, ht.keep hW⟩)
  have HZ := hide (fun W => zeI_any W ⟨ek, nn, nr, tn, tr, i, el, nm, tx, g⟩ a1 a2 c1 c2)
  clear hn ht
  unfold edVal at HS HZ
  unfold acVal
  dsimp only at *
  have hA := (Below.refl w.heap.size w).alloc (Nat.le_refl _) (.cells #[.int .i64 k, .int .i64 a, .int .i64 b, .int .i64 ek, .int .i64 nn, .int .i64 nr, .int .i64 tn, .int .i64 tr, .int .i64 i, .int .i64 el, .slice a1 nm.length c1, .slice a2 tx.length c2, .bool g] 35)
  go_enter Try.func7, Try.ntmps7
  cases q0 : decide (k < 0)
  case true =>
    have HE := hide (show acB ⟨k, a, b, ⟨ek, nn, nr, tn, tr, i, el, nm, tx, g⟩⟩ = false by rw [hE, q0]; rfl)
    clear hE
    go_wp2_with fail
    go_ret
    exact ⟨by rw [unhide HE]; rfl, hA⟩
  rw [q0] at hE
  cases q1 : decide (5 < k)
  case true =>
    have HE := hide (show acB ⟨k, a, b, ⟨ek, nn, nr, tn, tr, i, el, nm, tx, g⟩⟩ = false by rw [hE, q1]; rfl)
    clear hE
    go_wp2_with fail
    go_ret
    exact ⟨by rw [unhide HE]; rfl, hA⟩
  rw [q1] at hE
  go_wp2_with fail
  refine (cntI_any _ a).mono ?_
  rintro e w1 ⟨rfl, ew⟩
  obtain rfl := ew
  cases x1 : cntB a
  · have HE := hide (show acB ⟨k, a, b, ⟨ek, nn, nr, tn, tr, i, el, nm, tx, g⟩⟩ = false by rw [hE, x1]; rfl)
    clear hE x1
    go_wp2_with fail
    go_ret
    exact ⟨by rw [unhide HE]; rfl, hA⟩
  rw [x1] at hE
  clear x1
  go_wp2_with fail
  refine (cntI_any _ b).mono ?_
  rintro e w1 ⟨rfl, ew⟩
  obtain rfl := ew
  cases x1 : cntB b
  · have HE := hide (show acB ⟨k, a, b, ⟨ek, nn, nr, tn, tr, i, el, nm, tx, g⟩⟩ = false by rw [hE, x1]; rfl)
    clear hE x1
    go_wp2_with fail
    go_ret
    exact ⟨by rw [unhide HE]; rfl, hA⟩
  rw [x1] at hE
  clear x1
  by_cases k0 : k = 0
  · have HE := hide (show acB ⟨k, a, b, ⟨ek, nn, nr, tn, tr, i, el, nm, tx, g⟩⟩ = edB ⟨ek, nn, nr, tn, tr, i, el, nm, tx, g⟩ by rw [hE, if_pos k0]; rfl)
    clear hE
    subst k0
    go_wp2_with fail
    refine (unhide HS _ hA).mono ?_
    rintro e w1 ⟨rfl, hB⟩
    have hB' := bstep hA hB
    go_wp2_with fail
    go_ret
    exact ⟨by rw [unhide HE]; rfl, hB'⟩
  · have q6 : (k == 0) = false := by simpa using k0
    have HE := hide (show acB ⟨k, a, b, ⟨ek, nn, nr, tn, tr, i, el, nm, tx, g⟩⟩ = zeB ⟨ek, nn, nr, tn, tr, i, el, nm, tx, g⟩ by rw [hE, if_neg k0]; rfl)
    clear hE k0
    go_wp2_with fail
    refine (unhide HZ _).mono ?_
    rintro e w1 ⟨rfl, hB⟩
    have hB' := bstep hA hB
    go_wp2_with fail
    go_ret
    exact ⟨by rw [unhide HE]; rfl, hB'⟩
end Go.Proofs.Ytkmmhlimihkgfaa
