/- spec.l6editOk and spec.ActionOk answer what the plain tests say. -/
import Derived.Test.YtkmmhlimihkgfaaAcT
import Derived.Test.YtkmmhlimihkgfaaNameB
namespace Go.Proofs.Ytkmmhlimihkgfaa
open Go.RowKit
set_option linter.unusedVariables false
set_option maxRecDepth 100000

set_option maxHeartbeats 6400000 in
theorem edS_0 (w : World) (nn nr tn tr i el : Int) (nm tx : List Int) (g : Bool) (a1 a2 : Option Addr) (c1 c2 : Nat) (hn : Byt w (.slice a1 nm.length c1) nm) (ht : Byt w (.slice a2 tx.length c2) tx) :
    Calls Try.prog 10 #[.agg #[.int .i64 0, .int .i64 nn, .int .i64 nr, .int .i64 tn, .int .i64 tr, .int .i64 i, .int .i64 el, .slice a1 nm.length c1, .slice a2 tx.length c2, .bool g]] w fun e w' => e = .returned (.bool (ed0 nn nr tn tr i el nm tx g)) ∧ Below w.heap.size w w' := by
  have HM := hide hn
  have HX := hide ht
  clear hn ht
  cases g
  · have hE : ed0 nn nr tn tr i el nm tx false = (textB tx && (idB nn nr && (!false && (zeroB tn tr && (if el == 1 then (nm.length : Int) == 0 else (el == 0 && (nameB nm && (tx.length : Int) == 0))))))) := rfl
    go_enter Try.func10, Try.ntmps10
    go_wp2_with fail
    refine (textS_b _ _ tx ((unhide HX).keep (by repeat (first | exact Below.refl _ _ | refine balloc ?_)))).mono ?_
    rintro e w1 ⟨rfl, ew⟩
    obtain rfl := ew
    cases xtext : textB tx
    · have HE := hide (show ed0 nn nr tn tr i el nm tx false = false by rw [hE, xtext]; rfl)
      clear hE xtext
      go_wp2_with fail
      go_ret
      exact ⟨by rw [unhide HE]; rfl, (by repeat (first | exact Below.refl _ _ | refine balloc ?_))⟩
    rw [xtext, Bool.true_and] at hE
    clear xtext
    go_wp2_with fail
    refine (idS_any _ nn nr).mono ?_
    rintro e w1 ⟨rfl, ew⟩
    obtain rfl := ew
    cases xnode : idB nn nr
    · have HE := hide (show ed0 nn nr tn tr i el nm tx false = false by rw [hE, xnode]; rfl)
      clear hE xnode
      go_wp2_with fail
      go_ret
      exact ⟨by rw [unhide HE]; rfl, (by repeat (first | exact Below.refl _ _ | refine balloc ?_))⟩
    rw [xnode, Bool.true_and] at hE
    clear xnode
    simp only [Bool.not_false, Bool.true_and] at hE
    go_wp2_with fail
    refine (zeroS_any _ tn tr).mono ?_
    rintro e w1 ⟨rfl, ew⟩
    obtain rfl := ew
    cases xzto : zeroB tn tr
    · have HE := hide (show ed0 nn nr tn tr i el nm tx false = false by rw [hE, xzto]; rfl)
      clear hE xzto
      go_wp2_with fail
      go_ret
      exact ⟨by rw [unhide HE]; rfl, (by repeat (first | exact Below.refl _ _ | refine balloc ?_))⟩
    rw [xzto, Bool.true_and] at hE
    clear xzto
    rcases Bool.eq_false_or_eq_true (el == 1) with x1 | x1
    · rw [x1] at hE
      replace hE : ed0 nn nr tn tr i el nm tx false = ((nm.length : Int) == 0) := hE
      have HE := hide hE
      clear hE
      go_wp2_with fail
      go_ret
      exact ⟨by rw [unhide HE]; rfl, (by repeat (first | exact Below.refl _ _ | refine balloc ?_))⟩
    rw [x1] at hE
    replace hE : ed0 nn nr tn tr i el nm tx false = (el == 0 && (nameB nm && (tx.length : Int) == 0)) := hE
    cases xelem : (el == 0)
    · have HE := hide (show ed0 nn nr tn tr i el nm tx false = false by rw [hE, xelem]; rfl)
      clear hE
      go_wp2_with fail
      go_ret
      exact ⟨by rw [unhide HE]; rfl, (by repeat (first | exact Below.refl _ _ | refine balloc ?_))⟩
    rw [xelem, Bool.true_and] at hE
    go_wp2_with fail
    refine (nameS_b _ _ nm ((unhide HM).keep (by repeat (first | exact Below.refl _ _ | refine balloc ?_)))).mono ?_
    rintro e w1 ⟨rfl, ew⟩
    obtain rfl := ew
    cases xname : nameB nm
    · have HE := hide (show ed0 nn nr tn tr i el nm tx false = false by rw [hE, xname]; rfl)
      clear hE xname
      go_wp2_with fail
      go_ret
      exact ⟨by rw [unhide HE]; rfl, (by repeat (first | exact Below.refl _ _ | refine balloc ?_))⟩
    rw [xname, Bool.true_and] at hE
    clear xname
    have HE := hide hE
    clear hE
    go_wp2_with fail
    go_ret
    exact ⟨by rw [unhide HE]; rfl, (by repeat (first | exact Below.refl _ _ | refine balloc ?_))⟩
  · have hE : ed0 nn nr tn tr i el nm tx true = (textB tx && (idB nn nr && (!true && (zeroB tn tr && (if el == 1 then (nm.length : Int) == 0 else (el == 0 && (nameB nm && (tx.length : Int) == 0))))))) := rfl
    go_enter Try.func10, Try.ntmps10
    go_wp2_with fail
    refine (textS_b _ _ tx ((unhide HX).keep (by repeat (first | exact Below.refl _ _ | refine balloc ?_)))).mono ?_
    rintro e w1 ⟨rfl, ew⟩
    obtain rfl := ew
    cases xtext : textB tx
    · have HE := hide (show ed0 nn nr tn tr i el nm tx true = false by rw [hE, xtext]; rfl)
      clear hE xtext
      go_wp2_with fail
      go_ret
      exact ⟨by rw [unhide HE]; rfl, (by repeat (first | exact Below.refl _ _ | refine balloc ?_))⟩
    rw [xtext, Bool.true_and] at hE
    clear xtext
    go_wp2_with fail
    refine (idS_any _ nn nr).mono ?_
    rintro e w1 ⟨rfl, ew⟩
    obtain rfl := ew
    cases xnode : idB nn nr
    · have HE := hide (show ed0 nn nr tn tr i el nm tx true = false by rw [hE, xnode]; rfl)
      clear hE xnode
      go_wp2_with fail
      go_ret
      exact ⟨by rw [unhide HE]; rfl, (by repeat (first | exact Below.refl _ _ | refine balloc ?_))⟩
    rw [xnode, Bool.true_and] at hE
    clear xnode
    have HE := hide (show ed0 nn nr tn tr i el nm tx true = false by rw [hE]; rfl)
    clear hE
    go_wp2_with fail
    go_ret
    exact ⟨by rw [unhide HE]; rfl, (by repeat (first | exact Below.refl _ _ | refine balloc ?_))⟩
set_option maxHeartbeats 6400000 in
theorem edS_1 (w : World) (nn nr tn tr i el : Int) (nm tx : List Int) (g : Bool) (a1 a2 : Option Addr) (c1 c2 : Nat) (hn : Byt w (.slice a1 nm.length c1) nm) (ht : Byt w (.slice a2 tx.length c2) tx) :
    Calls Try.prog 10 #[.agg #[.int .i64 1, .int .i64 nn, .int .i64 nr, .int .i64 tn, .int .i64 tr, .int .i64 i, .int .i64 el, .slice a1 nm.length c1, .slice a2 tx.length c2, .bool g]] w fun e w' => e = .returned (.bool (ed1 nn nr tn tr i el nm tx g)) ∧ Below w.heap.size w w' := by
  have HM := hide hn
  have HX := hide ht
  clear hn ht
  cases g
  · have hE : ed1 nn nr tn tr i el nm tx false = (textB tx && (idB nn nr && (el == 0 && (!false && (idB tn tr && ((nm.length : Int) == 0 && (tx.length : Int) == 0)))))) := rfl
    go_enter Try.func10, Try.ntmps10
    go_wp2_with fail
    refine (textS_b _ _ tx ((unhide HX).keep (by repeat (first | exact Below.refl _ _ | refine balloc ?_)))).mono ?_
    rintro e w1 ⟨rfl, ew⟩
    obtain rfl := ew
    cases xtext : textB tx
    · have HE := hide (show ed1 nn nr tn tr i el nm tx false = false by rw [hE, xtext]; rfl)
      clear hE xtext
      go_wp2_with fail
      go_ret
      exact ⟨by rw [unhide HE]; rfl, (by repeat (first | exact Below.refl _ _ | refine balloc ?_))⟩
    rw [xtext, Bool.true_and] at hE
    clear xtext
    go_wp2_with fail
    refine (idS_any _ nn nr).mono ?_
    rintro e w1 ⟨rfl, ew⟩
    obtain rfl := ew
    cases xnode : idB nn nr
    · have HE := hide (show ed1 nn nr tn tr i el nm tx false = false by rw [hE, xnode]; rfl)
      clear hE xnode
      go_wp2_with fail
      go_ret
      exact ⟨by rw [unhide HE]; rfl, (by repeat (first | exact Below.refl _ _ | refine balloc ?_))⟩
    rw [xnode, Bool.true_and] at hE
    clear xnode
    cases xelem : (el == 0)
    · have HE := hide (show ed1 nn nr tn tr i el nm tx false = false by rw [hE, xelem]; rfl)
      have ne : ¬ el = 0 := by simpa using xelem
      clear hE
      go_wp2_with fail
      go_ret
      exact ⟨by rw [unhide HE]; rfl, (by repeat (first | exact Below.refl _ _ | refine balloc ?_))⟩
    rw [xelem, Bool.true_and] at hE
    have xe : el = 0 := by simpa using xelem
    clear xelem
    subst xe
    simp only [Bool.not_false, Bool.true_and] at hE
    go_wp2_with fail
    refine (idS_any _ tn tr).mono ?_
    rintro e w1 ⟨rfl, ew⟩
    obtain rfl := ew
    cases xto : idB tn tr
    · have HE := hide (show ed1 nn nr tn tr i 0 nm tx false = false by rw [hE, xto]; rfl)
      clear hE xto
      go_wp2_with fail
      go_ret
      exact ⟨by rw [unhide HE]; rfl, (by repeat (first | exact Below.refl _ _ | refine balloc ?_))⟩
    rw [xto, Bool.true_and] at hE
    clear xto
    cases xnm0 : ((nm.length : Int) == 0)
    · have HE := hide (show ed1 nn nr tn tr i 0 nm tx false = false by rw [hE, xnm0]; rfl)
      clear hE
      go_wp2_with fail
      go_ret
      exact ⟨by rw [unhide HE]; rfl, (by repeat (first | exact Below.refl _ _ | refine balloc ?_))⟩
    rw [xnm0, Bool.true_and] at hE
    have HE := hide hE
    clear hE
    go_wp2_with fail
    go_ret
    exact ⟨by rw [unhide HE]; rfl, (by repeat (first | exact Below.refl _ _ | refine balloc ?_))⟩
  · have hE : ed1 nn nr tn tr i el nm tx true = (textB tx && (idB nn nr && (el == 0 && (!true && (idB tn tr && ((nm.length : Int) == 0 && (tx.length : Int) == 0)))))) := rfl
    go_enter Try.func10, Try.ntmps10
    go_wp2_with fail
    refine (textS_b _ _ tx ((unhide HX).keep (by repeat (first | exact Below.refl _ _ | refine balloc ?_)))).mono ?_
    rintro e w1 ⟨rfl, ew⟩
    obtain rfl := ew
    cases xtext : textB tx
    · have HE := hide (show ed1 nn nr tn tr i el nm tx true = false by rw [hE, xtext]; rfl)
      clear hE xtext
      go_wp2_with fail
      go_ret
      exact ⟨by rw [unhide HE]; rfl, (by repeat (first | exact Below.refl _ _ | refine balloc ?_))⟩
    rw [xtext, Bool.true_and] at hE
    clear xtext
    go_wp2_with fail
    refine (idS_any _ nn nr).mono ?_
    rintro e w1 ⟨rfl, ew⟩
    obtain rfl := ew
    cases xnode : idB nn nr
    · have HE := hide (show ed1 nn nr tn tr i el nm tx true = false by rw [hE, xnode]; rfl)
      clear hE xnode
      go_wp2_with fail
      go_ret
      exact ⟨by rw [unhide HE]; rfl, (by repeat (first | exact Below.refl _ _ | refine balloc ?_))⟩
    rw [xnode, Bool.true_and] at hE
    clear xnode
    cases xelem : (el == 0)
    · have HE := hide (show ed1 nn nr tn tr i el nm tx true = false by rw [hE, xelem]; rfl)
      have ne : ¬ el = 0 := by simpa using xelem
      clear hE
      go_wp2_with fail
      go_ret
      exact ⟨by rw [unhide HE]; rfl, (by repeat (first | exact Below.refl _ _ | refine balloc ?_))⟩
    rw [xelem, Bool.true_and] at hE
    have xe : el = 0 := by simpa using xelem
    clear xelem
    subst xe
    have HE := hide (show ed1 nn nr tn tr i 0 nm tx true = false by rw [hE]; rfl)
    clear hE
    go_wp2_with fail
    go_ret
    exact ⟨by rw [unhide HE]; rfl, (by repeat (first | exact Below.refl _ _ | refine balloc ?_))⟩
set_option maxHeartbeats 6400000 in
theorem edS_2 (w : World) (nn nr tn tr i el : Int) (nm tx : List Int) (g : Bool) (a1 a2 : Option Addr) (c1 c2 : Nat) (hn : Byt w (.slice a1 nm.length c1) nm) (ht : Byt w (.slice a2 tx.length c2) tx) :
    Calls Try.prog 10 #[.agg #[.int .i64 2, .int .i64 nn, .int .i64 nr, .int .i64 tn, .int .i64 tr, .int .i64 i, .int .i64 el, .slice a1 nm.length c1, .slice a2 tx.length c2, .bool g]] w fun e w' => e = .returned (.bool (ed2 nn nr tn tr i el nm tx g)) ∧ Below w.heap.size w w' := by
  have HM := hide hn
  have HX := hide ht
  clear hn ht
  cases g
  · have hE : ed2 nn nr tn tr i el nm tx false = (textB tx && (idB nn nr && (el == 0 && (i == 0 && (!false && (zeroB tn tr && ((nm.length : Int) == 0 && (tx.length : Int) == 0))))))) := rfl
    go_enter Try.func10, Try.ntmps10
    go_wp2_with fail
    refine (textS_b _ _ tx ((unhide HX).keep (by repeat (first | exact Below.refl _ _ | refine balloc ?_)))).mono ?_
    rintro e w1 ⟨rfl, ew⟩
    obtain rfl := ew
    cases xtext : textB tx
    · have HE := hide (show ed2 nn nr tn tr i el nm tx false = false by rw [hE, xtext]; rfl)
      clear hE xtext
      go_wp2_with fail
      go_ret
      exact ⟨by rw [unhide HE]; rfl, (by repeat (first | exact Below.refl _ _ | refine balloc ?_))⟩
    rw [xtext, Bool.true_and] at hE
    clear xtext
    go_wp2_with fail
    refine (idS_any _ nn nr).mono ?_
    rintro e w1 ⟨rfl, ew⟩
    obtain rfl := ew
    cases xnode : idB nn nr
    · have HE := hide (show ed2 nn nr tn tr i el nm tx false = false by rw [hE, xnode]; rfl)
      clear hE xnode
      go_wp2_with fail
      go_ret
      exact ⟨by rw [unhide HE]; rfl, (by repeat (first | exact Below.refl _ _ | refine balloc ?_))⟩
    rw [xnode, Bool.true_and] at hE
    clear xnode
    cases xelem : (el == 0)
    · have HE := hide (show ed2 nn nr tn tr i el nm tx false = false by rw [hE, xelem]; rfl)
      have ne : ¬ el = 0 := by simpa using xelem
      clear hE
      go_wp2_with fail
      go_ret
      exact ⟨by rw [unhide HE]; rfl, (by repeat (first | exact Below.refl _ _ | refine balloc ?_))⟩
    rw [xelem, Bool.true_and] at hE
    have xe : el = 0 := by simpa using xelem
    clear xelem
    subst xe
    cases xi : (i == 0)
    · have HE := hide (show ed2 nn nr tn tr i 0 nm tx false = false by rw [hE, xi]; rfl)
      have ne : ¬ i = 0 := by simpa using xi
      clear hE
      go_wp2_with fail
      go_ret
      exact ⟨by rw [unhide HE]; rfl, (by repeat (first | exact Below.refl _ _ | refine balloc ?_))⟩
    rw [xi, Bool.true_and] at hE
    have xe : i = 0 := by simpa using xi
    clear xi
    subst xe
    simp only [Bool.not_false, Bool.true_and] at hE
    go_wp2_with fail
    refine (zeroS_any _ tn tr).mono ?_
    rintro e w1 ⟨rfl, ew⟩
    obtain rfl := ew
    cases xzto : zeroB tn tr
    · have HE := hide (show ed2 nn nr tn tr 0 0 nm tx false = false by rw [hE, xzto]; rfl)
      clear hE xzto
      go_wp2_with fail
      go_ret
      exact ⟨by rw [unhide HE]; rfl, (by repeat (first | exact Below.refl _ _ | refine balloc ?_))⟩
    rw [xzto, Bool.true_and] at hE
    clear xzto
    cases xnm0 : ((nm.length : Int) == 0)
    · have HE := hide (show ed2 nn nr tn tr 0 0 nm tx false = false by rw [hE, xnm0]; rfl)
      clear hE
      go_wp2_with fail
      go_ret
      exact ⟨by rw [unhide HE]; rfl, (by repeat (first | exact Below.refl _ _ | refine balloc ?_))⟩
    rw [xnm0, Bool.true_and] at hE
    have HE := hide hE
    clear hE
    go_wp2_with fail
    go_ret
    exact ⟨by rw [unhide HE]; rfl, (by repeat (first | exact Below.refl _ _ | refine balloc ?_))⟩
  · have hE : ed2 nn nr tn tr i el nm tx true = (textB tx && (idB nn nr && (el == 0 && (i == 0 && (!true && (zeroB tn tr && ((nm.length : Int) == 0 && (tx.length : Int) == 0))))))) := rfl
    go_enter Try.func10, Try.ntmps10
    go_wp2_with fail
    refine (textS_b _ _ tx ((unhide HX).keep (by repeat (first | exact Below.refl _ _ | refine balloc ?_)))).mono ?_
    rintro e w1 ⟨rfl, ew⟩
    obtain rfl := ew
    cases xtext : textB tx
    · have HE := hide (show ed2 nn nr tn tr i el nm tx true = false by rw [hE, xtext]; rfl)
      clear hE xtext
      go_wp2_with fail
      go_ret
      exact ⟨by rw [unhide HE]; rfl, (by repeat (first | exact Below.refl _ _ | refine balloc ?_))⟩
    rw [xtext, Bool.true_and] at hE
    clear xtext
    go_wp2_with fail
    refine (idS_any _ nn nr).mono ?_
    rintro e w1 ⟨rfl, ew⟩
    obtain rfl := ew
    cases xnode : idB nn nr
    · have HE := hide (show ed2 nn nr tn tr i el nm tx true = false by rw [hE, xnode]; rfl)
      clear hE xnode
      go_wp2_with fail
      go_ret
      exact ⟨by rw [unhide HE]; rfl, (by repeat (first | exact Below.refl _ _ | refine balloc ?_))⟩
    rw [xnode, Bool.true_and] at hE
    clear xnode
    cases xelem : (el == 0)
    · have HE := hide (show ed2 nn nr tn tr i el nm tx true = false by rw [hE, xelem]; rfl)
      have ne : ¬ el = 0 := by simpa using xelem
      clear hE
      go_wp2_with fail
      go_ret
      exact ⟨by rw [unhide HE]; rfl, (by repeat (first | exact Below.refl _ _ | refine balloc ?_))⟩
    rw [xelem, Bool.true_and] at hE
    have xe : el = 0 := by simpa using xelem
    clear xelem
    subst xe
    cases xi : (i == 0)
    · have HE := hide (show ed2 nn nr tn tr i 0 nm tx true = false by rw [hE, xi]; rfl)
      have ne : ¬ i = 0 := by simpa using xi
      clear hE
      go_wp2_with fail
      go_ret
      exact ⟨by rw [unhide HE]; rfl, (by repeat (first | exact Below.refl _ _ | refine balloc ?_))⟩
    rw [xi, Bool.true_and] at hE
    have xe : i = 0 := by simpa using xi
    clear xi
    subst xe
    have HE := hide (show ed2 nn nr tn tr 0 0 nm tx true = false by rw [hE]; rfl)
    clear hE
    go_wp2_with fail
    go_ret
    exact ⟨by rw [unhide HE]; rfl, (by repeat (first | exact Below.refl _ _ | refine balloc ?_))⟩
set_option maxHeartbeats 6400000 in
theorem edS_3 (w : World) (nn nr tn tr i el : Int) (nm tx : List Int) (g : Bool) (a1 a2 : Option Addr) (c1 c2 : Nat) (hn : Byt w (.slice a1 nm.length c1) nm) (ht : Byt w (.slice a2 tx.length c2) tx) :
    Calls Try.prog 10 #[.agg #[.int .i64 3, .int .i64 nn, .int .i64 nr, .int .i64 tn, .int .i64 tr, .int .i64 i, .int .i64 el, .slice a1 nm.length c1, .slice a2 tx.length c2, .bool g]] w fun e w' => e = .returned (.bool (ed3 nn nr tn tr i el nm tx g)) ∧ Below w.heap.size w w' := by
  have HM := hide hn
  have HX := hide ht
  clear hn ht
  cases g
  · have hE : ed3 nn nr tn tr i el nm tx false = (textB tx && (idB nn nr && (el == 0 && (i == 0 && (!false && (zeroB tn tr && (nm.length : Int) == 0)))))) := rfl
    go_enter Try.func10, Try.ntmps10
    go_wp2_with fail
    refine (textS_b _ _ tx ((unhide HX).keep (by repeat (first | exact Below.refl _ _ | refine balloc ?_)))).mono ?_
    rintro e w1 ⟨rfl, ew⟩
    obtain rfl := ew
    cases xtext : textB tx
    · have HE := hide (show ed3 nn nr tn tr i el nm tx false = false by rw [hE, xtext]; rfl)
      clear hE xtext
      go_wp2_with fail
      go_ret
      exact ⟨by rw [unhide HE]; rfl, (by repeat (first | exact Below.refl _ _ | refine balloc ?_))⟩
    rw [xtext, Bool.true_and] at hE
    clear xtext
    go_wp2_with fail
    refine (idS_any _ nn nr).mono ?_
    rintro e w1 ⟨rfl, ew⟩
    obtain rfl := ew
    cases xnode : idB nn nr
    · have HE := hide (show ed3 nn nr tn tr i el nm tx false = false by rw [hE, xnode]; rfl)
      clear hE xnode
      go_wp2_with fail
      go_ret
      exact ⟨by rw [unhide HE]; rfl, (by repeat (first | exact Below.refl _ _ | refine balloc ?_))⟩
    rw [xnode, Bool.true_and] at hE
    clear xnode
    cases xelem : (el == 0)
    · have HE := hide (show ed3 nn nr tn tr i el nm tx false = false by rw [hE, xelem]; rfl)
      have ne : ¬ el = 0 := by simpa using xelem
      clear hE
      go_wp2_with fail
      go_ret
      exact ⟨by rw [unhide HE]; rfl, (by repeat (first | exact Below.refl _ _ | refine balloc ?_))⟩
    rw [xelem, Bool.true_and] at hE
    have xe : el = 0 := by simpa using xelem
    clear xelem
    subst xe
    cases xi : (i == 0)
    · have HE := hide (show ed3 nn nr tn tr i 0 nm tx false = false by rw [hE, xi]; rfl)
      have ne : ¬ i = 0 := by simpa using xi
      clear hE
      go_wp2_with fail
      go_ret
      exact ⟨by rw [unhide HE]; rfl, (by repeat (first | exact Below.refl _ _ | refine balloc ?_))⟩
    rw [xi, Bool.true_and] at hE
    have xe : i = 0 := by simpa using xi
    clear xi
    subst xe
    simp only [Bool.not_false, Bool.true_and] at hE
    go_wp2_with fail
    refine (zeroS_any _ tn tr).mono ?_
    rintro e w1 ⟨rfl, ew⟩
    obtain rfl := ew
    cases xzto : zeroB tn tr
    · have HE := hide (show ed3 nn nr tn tr 0 0 nm tx false = false by rw [hE, xzto]; rfl)
      clear hE xzto
      go_wp2_with fail
      go_ret
      exact ⟨by rw [unhide HE]; rfl, (by repeat (first | exact Below.refl _ _ | refine balloc ?_))⟩
    rw [xzto, Bool.true_and] at hE
    clear xzto
    have HE := hide hE
    clear hE
    go_wp2_with fail
    go_ret
    exact ⟨by rw [unhide HE]; rfl, (by repeat (first | exact Below.refl _ _ | refine balloc ?_))⟩
  · have hE : ed3 nn nr tn tr i el nm tx true = (textB tx && (idB nn nr && (el == 0 && (i == 0 && (!true && (zeroB tn tr && (nm.length : Int) == 0)))))) := rfl
    go_enter Try.func10, Try.ntmps10
    go_wp2_with fail
    refine (textS_b _ _ tx ((unhide HX).keep (by repeat (first | exact Below.refl _ _ | refine balloc ?_)))).mono ?_
    rintro e w1 ⟨rfl, ew⟩
    obtain rfl := ew
    cases xtext : textB tx
    · have HE := hide (show ed3 nn nr tn tr i el nm tx true = false by rw [hE, xtext]; rfl)
      clear hE xtext
      go_wp2_with fail
      go_ret
      exact ⟨by rw [unhide HE]; rfl, (by repeat (first | exact Below.refl _ _ | refine balloc ?_))⟩
    rw [xtext, Bool.true_and] at hE
    clear xtext
    go_wp2_with fail
    refine (idS_any _ nn nr).mono ?_
    rintro e w1 ⟨rfl, ew⟩
    obtain rfl := ew
    cases xnode : idB nn nr
    · have HE := hide (show ed3 nn nr tn tr i el nm tx true = false by rw [hE, xnode]; rfl)
      clear hE xnode
      go_wp2_with fail
      go_ret
      exact ⟨by rw [unhide HE]; rfl, (by repeat (first | exact Below.refl _ _ | refine balloc ?_))⟩
    rw [xnode, Bool.true_and] at hE
    clear xnode
    cases xelem : (el == 0)
    · have HE := hide (show ed3 nn nr tn tr i el nm tx true = false by rw [hE, xelem]; rfl)
      have ne : ¬ el = 0 := by simpa using xelem
      clear hE
      go_wp2_with fail
      go_ret
      exact ⟨by rw [unhide HE]; rfl, (by repeat (first | exact Below.refl _ _ | refine balloc ?_))⟩
    rw [xelem, Bool.true_and] at hE
    have xe : el = 0 := by simpa using xelem
    clear xelem
    subst xe
    cases xi : (i == 0)
    · have HE := hide (show ed3 nn nr tn tr i 0 nm tx true = false by rw [hE, xi]; rfl)
      have ne : ¬ i = 0 := by simpa using xi
      clear hE
      go_wp2_with fail
      go_ret
      exact ⟨by rw [unhide HE]; rfl, (by repeat (first | exact Below.refl _ _ | refine balloc ?_))⟩
    rw [xi, Bool.true_and] at hE
    have xe : i = 0 := by simpa using xi
    clear xi
    subst xe
    have HE := hide (show ed3 nn nr tn tr 0 0 nm tx true = false by rw [hE]; rfl)
    clear hE
    go_wp2_with fail
    go_ret
    exact ⟨by rw [unhide HE]; rfl, (by repeat (first | exact Below.refl _ _ | refine balloc ?_))⟩
set_option maxHeartbeats 6400000 in
theorem edS_4 (w : World) (nn nr tn tr i el : Int) (nm tx : List Int) (g : Bool) (a1 a2 : Option Addr) (c1 c2 : Nat) (hn : Byt w (.slice a1 nm.length c1) nm) (ht : Byt w (.slice a2 tx.length c2) tx) :
    Calls Try.prog 10 #[.agg #[.int .i64 4, .int .i64 nn, .int .i64 nr, .int .i64 tn, .int .i64 tr, .int .i64 i, .int .i64 el, .slice a1 nm.length c1, .slice a2 tx.length c2, .bool g]] w fun e w' => e = .returned (.bool (ed4 nn nr tn tr i el nm tx g)) ∧ Below w.heap.size w w' := by
  have HM := hide hn
  have HX := hide ht
  clear hn ht
  cases g
  · have hE : ed4 nn nr tn tr i el nm tx false = (textB tx && (idB nn nr && (el == 0 && (i == 0 && (zeroB tn tr && (nameB nm && (!false || (tx.length : Int) == 0))))))) := rfl
    go_enter Try.func10, Try.ntmps10
    go_wp2_with fail
    refine (textS_b _ _ tx ((unhide HX).keep (by repeat (first | exact Below.refl _ _ | refine balloc ?_)))).mono ?_
    rintro e w1 ⟨rfl, ew⟩
    obtain rfl := ew
    cases xtext : textB tx
    · have HE := hide (show ed4 nn nr tn tr i el nm tx false = false by rw [hE, xtext]; rfl)
      clear hE xtext
      go_wp2_with fail
      go_ret
      exact ⟨by rw [unhide HE]; rfl, (by repeat (first | exact Below.refl _ _ | refine balloc ?_))⟩
    rw [xtext, Bool.true_and] at hE
    clear xtext
    go_wp2_with fail
    refine (idS_any _ nn nr).mono ?_
    rintro e w1 ⟨rfl, ew⟩
    obtain rfl := ew
    cases xnode : idB nn nr
    · have HE := hide (show ed4 nn nr tn tr i el nm tx false = false by rw [hE, xnode]; rfl)
      clear hE xnode
      go_wp2_with fail
      go_ret
      exact ⟨by rw [unhide HE]; rfl, (by repeat (first | exact Below.refl _ _ | refine balloc ?_))⟩
    rw [xnode, Bool.true_and] at hE
    clear xnode
    cases xelem : (el == 0)
    · have HE := hide (show ed4 nn nr tn tr i el nm tx false = false by rw [hE, xelem]; rfl)
      have ne : ¬ el = 0 := by simpa using xelem
      clear hE
      go_wp2_with fail
      go_ret
      exact ⟨by rw [unhide HE]; rfl, (by repeat (first | exact Below.refl _ _ | refine balloc ?_))⟩
    rw [xelem, Bool.true_and] at hE
    have xe : el = 0 := by simpa using xelem
    clear xelem
    subst xe
    cases xi : (i == 0)
    · have HE := hide (show ed4 nn nr tn tr i 0 nm tx false = false by rw [hE, xi]; rfl)
      have ne : ¬ i = 0 := by simpa using xi
      clear hE
      go_wp2_with fail
      go_ret
      exact ⟨by rw [unhide HE]; rfl, (by repeat (first | exact Below.refl _ _ | refine balloc ?_))⟩
    rw [xi, Bool.true_and] at hE
    have xe : i = 0 := by simpa using xi
    clear xi
    subst xe
    go_wp2_with fail
    refine (zeroS_any _ tn tr).mono ?_
    rintro e w1 ⟨rfl, ew⟩
    obtain rfl := ew
    cases xzto : zeroB tn tr
    · have HE := hide (show ed4 nn nr tn tr 0 0 nm tx false = false by rw [hE, xzto]; rfl)
      clear hE xzto
      go_wp2_with fail
      go_ret
      exact ⟨by rw [unhide HE]; rfl, (by repeat (first | exact Below.refl _ _ | refine balloc ?_))⟩
    rw [xzto, Bool.true_and] at hE
    clear xzto
    go_wp2_with fail
    refine (nameS_b _ _ nm ((unhide HM).keep (by repeat (first | exact Below.refl _ _ | refine balloc ?_)))).mono ?_
    rintro e w1 ⟨rfl, ew⟩
    obtain rfl := ew
    cases xname : nameB nm
    · have HE := hide (show ed4 nn nr tn tr 0 0 nm tx false = false by rw [hE, xname]; rfl)
      clear hE xname
      go_wp2_with fail
      go_ret
      exact ⟨by rw [unhide HE]; rfl, (by repeat (first | exact Below.refl _ _ | refine balloc ?_))⟩
    rw [xname, Bool.true_and] at hE
    clear xname
    have HE := hide hE
    clear hE
    go_wp2_with fail
    go_ret
    exact ⟨by rw [unhide HE]; rfl, (by repeat (first | exact Below.refl _ _ | refine balloc ?_))⟩
  · have hE : ed4 nn nr tn tr i el nm tx true = (textB tx && (idB nn nr && (el == 0 && (i == 0 && (zeroB tn tr && (nameB nm && (!true || (tx.length : Int) == 0))))))) := rfl
    go_enter Try.func10, Try.ntmps10
    go_wp2_with fail
    refine (textS_b _ _ tx ((unhide HX).keep (by repeat (first | exact Below.refl _ _ | refine balloc ?_)))).mono ?_
    rintro e w1 ⟨rfl, ew⟩
    obtain rfl := ew
    cases xtext : textB tx
    · have HE := hide (show ed4 nn nr tn tr i el nm tx true = false by rw [hE, xtext]; rfl)
      clear hE xtext
      go_wp2_with fail
      go_ret
      exact ⟨by rw [unhide HE]; rfl, (by repeat (first | exact Below.refl _ _ | refine balloc ?_))⟩
    rw [xtext, Bool.true_and] at hE
    clear xtext
    go_wp2_with fail
    refine (idS_any _ nn nr).mono ?_
    rintro e w1 ⟨rfl, ew⟩
    obtain rfl := ew
    cases xnode : idB nn nr
    · have HE := hide (show ed4 nn nr tn tr i el nm tx true = false by rw [hE, xnode]; rfl)
      clear hE xnode
      go_wp2_with fail
      go_ret
      exact ⟨by rw [unhide HE]; rfl, (by repeat (first | exact Below.refl _ _ | refine balloc ?_))⟩
    rw [xnode, Bool.true_and] at hE
    clear xnode
    cases xelem : (el == 0)
    · have HE := hide (show ed4 nn nr tn tr i el nm tx true = false by rw [hE, xelem]; rfl)
      have ne : ¬ el = 0 := by simpa using xelem
      clear hE
      go_wp2_with fail
      go_ret
      exact ⟨by rw [unhide HE]; rfl, (by repeat (first | exact Below.refl _ _ | refine balloc ?_))⟩
    rw [xelem, Bool.true_and] at hE
    have xe : el = 0 := by simpa using xelem
    clear xelem
    subst xe
    cases xi : (i == 0)
    · have HE := hide (show ed4 nn nr tn tr i 0 nm tx true = false by rw [hE, xi]; rfl)
      have ne : ¬ i = 0 := by simpa using xi
      clear hE
      go_wp2_with fail
      go_ret
      exact ⟨by rw [unhide HE]; rfl, (by repeat (first | exact Below.refl _ _ | refine balloc ?_))⟩
    rw [xi, Bool.true_and] at hE
    have xe : i = 0 := by simpa using xi
    clear xi
    subst xe
    go_wp2_with fail
    refine (zeroS_any _ tn tr).mono ?_
    rintro e w1 ⟨rfl, ew⟩
    obtain rfl := ew
    cases xzto : zeroB tn tr
    · have HE := hide (show ed4 nn nr tn tr 0 0 nm tx true = false by rw [hE, xzto]; rfl)
      clear hE xzto
      go_wp2_with fail
      go_ret
      exact ⟨by rw [unhide HE]; rfl, (by repeat (first | exact Below.refl _ _ | refine balloc ?_))⟩
    rw [xzto, Bool.true_and] at hE
    clear xzto
    go_wp2_with fail
    refine (nameS_b _ _ nm ((unhide HM).keep (by repeat (first | exact Below.refl _ _ | refine balloc ?_)))).mono ?_
    rintro e w1 ⟨rfl, ew⟩
    obtain rfl := ew
    cases xname : nameB nm
    · have HE := hide (show ed4 nn nr tn tr 0 0 nm tx true = false by rw [hE, xname]; rfl)
      clear hE xname
      go_wp2_with fail
      go_ret
      exact ⟨by rw [unhide HE]; rfl, (by repeat (first | exact Below.refl _ _ | refine balloc ?_))⟩
    rw [xname, Bool.true_and] at hE
    clear xname
    have HE := hide hE
    clear hE
    go_wp2_with fail
    go_ret
    exact ⟨by rw [unhide HE]; rfl, (by repeat (first | exact Below.refl _ _ | refine balloc ?_))⟩
set_option maxHeartbeats 6400000 in
theorem edS_5 (w : World) (nn nr tn tr i el : Int) (nm tx : List Int) (g : Bool) (a1 a2 : Option Addr) (c1 c2 : Nat) (hn : Byt w (.slice a1 nm.length c1) nm) (ht : Byt w (.slice a2 tx.length c2) tx) :
    Calls Try.prog 10 #[.agg #[.int .i64 5, .int .i64 nn, .int .i64 nr, .int .i64 tn, .int .i64 tr, .int .i64 i, .int .i64 el, .slice a1 nm.length c1, .slice a2 tx.length c2, .bool g]] w fun e w' => e = .returned (.bool (ed5 nn nr tn tr i el nm tx g)) ∧ Below w.heap.size w w' := by
  have HM := hide hn
  have HX := hide ht
  clear hn ht
  cases g
  · have hE : ed5 nn nr tn tr i el nm tx false = (textB tx && (el == 0 && (i == 0 && (!false && (zeroB tn tr && (zeroB nn nr && ((nm.length : Int) == 0 && (tx.length : Int) == 0))))))) := rfl
    go_enter Try.func10, Try.ntmps10
    go_wp2_with fail
    refine (textS_b _ _ tx ((unhide HX).keep (by repeat (first | exact Below.refl _ _ | refine balloc ?_)))).mono ?_
    rintro e w1 ⟨rfl, ew⟩
    obtain rfl := ew
    cases xtext : textB tx
    · have HE := hide (show ed5 nn nr tn tr i el nm tx false = false by rw [hE, xtext]; rfl)
      clear hE xtext
      go_wp2_with fail
      go_ret
      exact ⟨by rw [unhide HE]; rfl, (by repeat (first | exact Below.refl _ _ | refine balloc ?_))⟩
    rw [xtext, Bool.true_and] at hE
    clear xtext
    cases xelem : (el == 0)
    · have HE := hide (show ed5 nn nr tn tr i el nm tx false = false by rw [hE, xelem]; rfl)
      have ne : ¬ el = 0 := by simpa using xelem
      clear hE
      go_wp2_with fail
      go_ret
      exact ⟨by rw [unhide HE]; rfl, (by repeat (first | exact Below.refl _ _ | refine balloc ?_))⟩
    rw [xelem, Bool.true_and] at hE
    have xe : el = 0 := by simpa using xelem
    clear xelem
    subst xe
    cases xi : (i == 0)
    · have HE := hide (show ed5 nn nr tn tr i 0 nm tx false = false by rw [hE, xi]; rfl)
      have ne : ¬ i = 0 := by simpa using xi
      clear hE
      go_wp2_with fail
      go_ret
      exact ⟨by rw [unhide HE]; rfl, (by repeat (first | exact Below.refl _ _ | refine balloc ?_))⟩
    rw [xi, Bool.true_and] at hE
    have xe : i = 0 := by simpa using xi
    clear xi
    subst xe
    simp only [Bool.not_false, Bool.true_and] at hE
    go_wp2_with fail
    refine (zeroS_any _ tn tr).mono ?_
    rintro e w1 ⟨rfl, ew⟩
    obtain rfl := ew
    cases xzto : zeroB tn tr
    · have HE := hide (show ed5 nn nr tn tr 0 0 nm tx false = false by rw [hE, xzto]; rfl)
      clear hE xzto
      go_wp2_with fail
      go_ret
      exact ⟨by rw [unhide HE]; rfl, (by repeat (first | exact Below.refl _ _ | refine balloc ?_))⟩
    rw [xzto, Bool.true_and] at hE
    clear xzto
    go_wp2_with fail
    refine (zeroS_any _ nn nr).mono ?_
    rintro e w1 ⟨rfl, ew⟩
    obtain rfl := ew
    cases xznode : zeroB nn nr
    · have HE := hide (show ed5 nn nr tn tr 0 0 nm tx false = false by rw [hE, xznode]; rfl)
      clear hE xznode
      go_wp2_with fail
      go_ret
      exact ⟨by rw [unhide HE]; rfl, (by repeat (first | exact Below.refl _ _ | refine balloc ?_))⟩
    rw [xznode, Bool.true_and] at hE
    clear xznode
    cases xnm0 : ((nm.length : Int) == 0)
    · have HE := hide (show ed5 nn nr tn tr 0 0 nm tx false = false by rw [hE, xnm0]; rfl)
      clear hE
      go_wp2_with fail
      go_ret
      exact ⟨by rw [unhide HE]; rfl, (by repeat (first | exact Below.refl _ _ | refine balloc ?_))⟩
    rw [xnm0, Bool.true_and] at hE
    have HE := hide hE
    clear hE
    go_wp2_with fail
    go_ret
    exact ⟨by rw [unhide HE]; rfl, (by repeat (first | exact Below.refl _ _ | refine balloc ?_))⟩
  · have hE : ed5 nn nr tn tr i el nm tx true = (textB tx && (el == 0 && (i == 0 && (!true && (zeroB tn tr && (zeroB nn nr && ((nm.length : Int) == 0 && (tx.length : Int) == 0))))))) := rfl
    go_enter Try.func10, Try.ntmps10
    go_wp2_with fail
    refine (textS_b _ _ tx ((unhide HX).keep (by repeat (first | exact Below.refl _ _ | refine balloc ?_)))).mono ?_
    rintro e w1 ⟨rfl, ew⟩
    obtain rfl := ew
    cases xtext : textB tx
    · have HE := hide (show ed5 nn nr tn tr i el nm tx true = false by rw [hE, xtext]; rfl)
      clear hE xtext
      go_wp2_with fail
      go_ret
      exact ⟨by rw [unhide HE]; rfl, (by repeat (first | exact Below.refl _ _ | refine balloc ?_))⟩
    rw [xtext, Bool.true_and] at hE
    clear xtext
    cases xelem : (el == 0)
    · have HE := hide (show ed5 nn nr tn tr i el nm tx true = false by rw [hE, xelem]; rfl)
      have ne : ¬ el = 0 := by simpa using xelem
      clear hE
      go_wp2_with fail
      go_ret
      exact ⟨by rw [unhide HE]; rfl, (by repeat (first | exact Below.refl _ _ | refine balloc ?_))⟩
    rw [xelem, Bool.true_and] at hE
    have xe : el = 0 := by simpa using xelem
    clear xelem
    subst xe
    cases xi : (i == 0)
    · have HE := hide (show ed5 nn nr tn tr i 0 nm tx true = false by rw [hE, xi]; rfl)
      have ne : ¬ i = 0 := by simpa using xi
      clear hE
      go_wp2_with fail
      go_ret
      exact ⟨by rw [unhide HE]; rfl, (by repeat (first | exact Below.refl _ _ | refine balloc ?_))⟩
    rw [xi, Bool.true_and] at hE
    have xe : i = 0 := by simpa using xi
    clear xi
    subst xe
    have HE := hide (show ed5 nn nr tn tr 0 0 nm tx true = false by rw [hE]; rfl)
    clear hE
    go_wp2_with fail
    go_ret
    exact ⟨by rw [unhide HE]; rfl, (by repeat (first | exact Below.refl _ _ | refine balloc ?_))⟩
set_option maxHeartbeats 6400000 in
theorem edS_6 (w : World) (k : Int) (nn nr tn tr i el : Int) (nm tx : List Int) (g : Bool) (a1 a2 : Option Addr) (c1 c2 : Nat) (hk : k < 0 ∨ 5 < k) :
    Calls Try.prog 10 #[.agg #[.int .i64 k, .int .i64 nn, .int .i64 nr, .int .i64 tn, .int .i64 tr, .int .i64 i, .int .i64 el, .slice a1 nm.length c1, .slice a2 tx.length c2, .bool g]] w fun e w' => e = .returned (.bool false) ∧ Below w.heap.size w w' := by
  rcases hk with hk | hk
  · have q1 : decide (k < 0) = true := by simpa using hk
    clear hk
    go_enter Try.func10, Try.ntmps10
    go_wp2_with fail
    go_ret
    exact ⟨rfl, (by repeat (first | exact Below.refl _ _ | refine balloc ?_))⟩
  · have q1 : decide (k < 0) = false := by simp; omega
    have q2 : decide (5 < k) = true := by simpa using hk
    clear hk
    go_enter Try.func10, Try.ntmps10
    go_wp2_with fail
    go_ret
    exact ⟨rfl, (by repeat (first | exact Below.refl _ _ | refine balloc ?_))⟩
/-- spec.l6editOk, whatever it is asked. -/
theorem edS_any (w : World) (v : Value) (e : EdV) (h : RdEd w v e) :
    Calls Try.prog 10 #[v] w fun r w' => r = .returned (.bool (edB e)) ∧ Below w.heap.size w w' := by
  obtain ⟨n, t, rfl, hn, ht⟩ := h
  obtain ⟨a1, c1, rfl, _, _⟩ := hn.shape
  obtain ⟨a2, c2, rfl, _, _⟩ := ht.shape
  obtain ⟨k, nn, nr, tn, tr, i, el, nm, tx, g⟩ := e
  unfold edVal edB
  dsimp only at *
  by_cases k0 : k = 0
  · subst k0
    rw [if_pos rfl]
    exact edS_0 w nn nr tn tr i el nm tx g a1 a2 c1 c2 hn ht
  by_cases k1 : k = 1
  · subst k1
    rw [if_neg (by decide), if_pos rfl]
    exact edS_1 w nn nr tn tr i el nm tx g a1 a2 c1 c2 hn ht
  by_cases k2 : k = 2
  · subst k2
    rw [if_neg (by decide), if_neg (by decide), if_pos rfl]
    exact edS_2 w nn nr tn tr i el nm tx g a1 a2 c1 c2 hn ht
  by_cases k3 : k = 3
  · subst k3
    rw [if_neg (by decide), if_neg (by decide), if_neg (by decide), if_pos rfl]
    exact edS_3 w nn nr tn tr i el nm tx g a1 a2 c1 c2 hn ht
  by_cases k4 : k = 4
  · subst k4
    rw [if_neg (by decide), if_neg (by decide), if_neg (by decide), if_neg (by decide), if_pos rfl]
    exact edS_4 w nn nr tn tr i el nm tx g a1 a2 c1 c2 hn ht
  by_cases k5 : k = 5
  · subst k5
    rw [if_neg (by decide), if_neg (by decide), if_neg (by decide), if_neg (by decide), if_neg (by decide), if_pos rfl]
    exact edS_5 w nn nr tn tr i el nm tx g a1 a2 c1 c2 hn ht
  rw [if_neg k0, if_neg k1, if_neg k2, if_neg k3, if_neg k4, if_neg k5]
  exact edS_6 w k nn nr tn tr i el nm tx g a1 a2 c1 c2 (by omega)
theorem acHead_cases (c : AcV) :
    (acHead c = false ∧ decide (c.kind < 0) = true) ∨ (acHead c = false ∧ decide (c.kind < 0) = false ∧ decide (5 < c.kind) = true) ∨ (acHead c = false ∧ decide (c.kind < 0) = false ∧ decide (5 < c.kind) = false ∧ decide (c.a < 0) = true) ∨ (acHead c = false ∧ decide (c.kind < 0) = false ∧ decide (5 < c.kind) = false ∧ decide (c.a < 0) = false ∧ decide (2147483647 < c.a) = true) ∨ (acHead c = false ∧ decide (c.kind < 0) = false ∧ decide (5 < c.kind) = false ∧ decide (c.a < 0) = false ∧ decide (2147483647 < c.a) = false ∧ decide (c.b < 0) = true) ∨ (acHead c = false ∧ decide (c.kind < 0) = false ∧ decide (5 < c.kind) = false ∧ decide (c.a < 0) = false ∧ decide (2147483647 < c.a) = false ∧ decide (c.b < 0) = false ∧ decide (2147483647 < c.b) = true) ∨ (acHead c = true ∧ decide (c.kind < 0) = false ∧ decide (5 < c.kind) = false ∧ decide (c.a < 0) = false ∧ decide (2147483647 < c.a) = false ∧ decide (c.b < 0) = false ∧ decide (2147483647 < c.b) = false) := by
  unfold acHead
  have e1 : decide (0 ≤ c.kind) = !decide (c.kind < 0) := by rw [Bool.eq_iff_iff]; simp
  have e2 : decide (c.kind ≤ 5) = !decide (5 < c.kind) := by rw [Bool.eq_iff_iff]; simp
  have e3 : decide (0 ≤ c.a) = !decide (c.a < 0) := by rw [Bool.eq_iff_iff]; simp
  have e4 : decide (c.a ≤ 2147483647) = !decide (2147483647 < c.a) := by rw [Bool.eq_iff_iff]; simp
  have e5 : decide (0 ≤ c.b) = !decide (c.b < 0) := by rw [Bool.eq_iff_iff]; simp
  have e6 : decide (c.b ≤ 2147483647) = !decide (2147483647 < c.b) := by rw [Bool.eq_iff_iff]; simp
  rw [e1, e2, e3, e4, e5, e6]
  cases decide (c.kind < 0) <;> cases decide (5 < c.kind) <;> cases decide (c.a < 0) <;> cases decide (2147483647 < c.a) <;> cases decide (c.b < 0) <;> cases decide (2147483647 < c.b) <;> simp

set_option maxHeartbeats 12800000 in
theorem acS_any (w : World) (v : Value) (c : AcV) (h : RdAc w v c) :
    Calls Try.prog 5 #[v] w fun r w' => r = .returned (.bool (acB c)) ∧ Below w.heap.size w w' := by
  obtain ⟨n, t, rfl, hn, ht⟩ := h
  obtain ⟨a1, c1, rfl, _, _⟩ := hn.shape
  obtain ⟨a2, c2, rfl, _, _⟩ := ht.shape
  have hc := acHead_cases c
  obtain ⟨k, a, b, ⟨ek, nn, nr, tn, tr, i, el, nm, tx, g⟩⟩ := c
  have HS := hide (fun W (hW : Below w.heap.size w W) => edS_any W (edVal ⟨ek, nn, nr, tn, tr, i, el, nm, tx, g⟩ (.slice a1 nm.length c1) (.slice a2 tx.length c2)) ⟨ek, nn, nr, tn, tr, i, el, nm, tx, g⟩ ⟨_, _, rfl, hn.keep hW, ht.keep hW⟩)
  clear hn ht
  unfold edVal at HS
  unfold acVal
  dsimp only at *
  rcases hc with ⟨hh, q0⟩ | ⟨hh, q0, q1⟩ | ⟨hh, q0, q1, q2⟩ | ⟨hh, q0, q1, q2, q3⟩ | ⟨hh, q0, q1, q2, q3, q4⟩ | ⟨hh, q0, q1, q2, q3, q4, q5⟩ | ⟨hh, q0, q1, q2, q3, q4, q5⟩
  iterate 6
    · have HE := hide (show acB ⟨k, a, b, ⟨ek, nn, nr, tn, tr, i, el, nm, tx, g⟩⟩ = false by unfold acB; rw [hh]; rfl)
      clear hh
      go_enter Try.func5, Try.ntmps5
      go_wp2_with fail
      go_ret
      exact ⟨by rw [unhide HE]; rfl, (by repeat (first | exact Below.refl _ _ | refine balloc ?_))⟩
  by_cases k0 : k = 0
  · subst k0
    have HE := hide (show acB ⟨0, a, b, ⟨ek, nn, nr, tn, tr, i, el, nm, tx, g⟩⟩ = edB ⟨ek, nn, nr, tn, tr, i, el, nm, tx, g⟩ by unfold acB; rw [hh]; rfl)
    clear hh
    have hA := (Below.refl w.heap.size w).alloc (Nat.le_refl _) (.cells #[.int .i64 0, .int .i64 a, .int .i64 b, .int .i64 ek, .int .i64 nn, .int .i64 nr, .int .i64 tn, .int .i64 tr, .int .i64 i, .int .i64 el, .slice a1 nm.length c1, .slice a2 tx.length c2, .bool g] 35)
    go_enter Try.func5, Try.ntmps5
    go_wp2_with fail
    refine (unhide HS _ hA).mono ?_
    rintro e w1 ⟨rfl, hB⟩
    go_wp2_with fail
    go_ret
    exact ⟨by rw [unhide HE]; rfl, bstep hA hB⟩
  · have q6 : (k == 0) = false := by simpa using k0
    have hE : acB ⟨k, a, b, ⟨ek, nn, nr, tn, tr, i, el, nm, tx, g⟩⟩ = zeB ⟨ek, nn, nr, tn, tr, i, el, nm, tx, g⟩ := by unfold acB; rw [hh]; simp [k0]
    unfold zeB at hE
    dsimp only at hE
    clear hh k0 HS
    go_enter Try.func5, Try.ntmps5
    cases g
    · cases z0 : (ek == 0)
      · have HE := hide (show acB ⟨k, a, b, ⟨ek, nn, nr, tn, tr, i, el, nm, tx, false⟩⟩ = false by rw [hE, z0]; rfl)
        clear hE
        go_wp2_with fail
        go_ret
        exact ⟨by rw [unhide HE]; rfl, (by repeat (first | exact Below.refl _ _ | refine balloc ?_))⟩
      rw [z0, Bool.true_and] at hE
      go_wp2_with fail
      refine (zeroS_any _ nn nr).mono ?_
      rintro e w1 ⟨rfl, ew⟩
      obtain rfl := ew
      cases z1 : zeroB nn nr
      · have HE := hide (show acB ⟨k, a, b, ⟨ek, nn, nr, tn, tr, i, el, nm, tx, false⟩⟩ = false by rw [hE, z1]; rfl)
        clear hE z1
        go_wp2_with fail
        go_ret
        exact ⟨by rw [unhide HE]; rfl, (by repeat (first | exact Below.refl _ _ | refine balloc ?_))⟩
      rw [z1, Bool.true_and] at hE
      clear z1
      go_wp2_with fail
      refine (zeroS_any _ tn tr).mono ?_
      rintro e w1 ⟨rfl, ew⟩
      obtain rfl := ew
      cases z2 : zeroB tn tr
      · have HE := hide (show acB ⟨k, a, b, ⟨ek, nn, nr, tn, tr, i, el, nm, tx, false⟩⟩ = false by rw [hE, z2]; rfl)
        clear hE z2
        go_wp2_with fail
        go_ret
        exact ⟨by rw [unhide HE]; rfl, (by repeat (first | exact Below.refl _ _ | refine balloc ?_))⟩
      rw [z2, Bool.true_and] at hE
      clear z2
      cases z3 : (i == 0)
      · have HE := hide (show acB ⟨k, a, b, ⟨ek, nn, nr, tn, tr, i, el, nm, tx, false⟩⟩ = false by rw [hE, z3]; rfl)
        clear hE
        go_wp2_with fail
        go_ret
        exact ⟨by rw [unhide HE]; rfl, (by repeat (first | exact Below.refl _ _ | refine balloc ?_))⟩
      rw [z3, Bool.true_and] at hE
      cases z4 : (el == 0)
      · have HE := hide (show acB ⟨k, a, b, ⟨ek, nn, nr, tn, tr, i, el, nm, tx, false⟩⟩ = false by rw [hE, z4]; rfl)
        clear hE
        go_wp2_with fail
        go_ret
        exact ⟨by rw [unhide HE]; rfl, (by repeat (first | exact Below.refl _ _ | refine balloc ?_))⟩
      rw [z4, Bool.true_and] at hE
      cases z5 : ((nm.length : Int) == 0)
      · have HE := hide (show acB ⟨k, a, b, ⟨ek, nn, nr, tn, tr, i, el, nm, tx, false⟩⟩ = false by rw [hE, z5]; rfl)
        clear hE
        go_wp2_with fail
        go_ret
        exact ⟨by rw [unhide HE]; rfl, (by repeat (first | exact Below.refl _ _ | refine balloc ?_))⟩
      rw [z5, Bool.true_and] at hE
      cases z6 : ((tx.length : Int) == 0)
      · have HE := hide (show acB ⟨k, a, b, ⟨ek, nn, nr, tn, tr, i, el, nm, tx, false⟩⟩ = false by rw [hE, z6]; rfl)
        clear hE
        go_wp2_with fail
        go_ret
        exact ⟨by rw [unhide HE]; rfl, (by repeat (first | exact Below.refl _ _ | refine balloc ?_))⟩
      rw [z6, Bool.true_and] at hE
      have HE := hide hE
      clear hE
      go_wp2_with fail
      go_ret
      exact ⟨by rw [unhide HE]; rfl, (by repeat (first | exact Below.refl _ _ | refine balloc ?_))⟩
    · cases z0 : (ek == 0)
      · have HE := hide (show acB ⟨k, a, b, ⟨ek, nn, nr, tn, tr, i, el, nm, tx, true⟩⟩ = false by rw [hE, z0]; rfl)
        clear hE
        go_wp2_with fail
        go_ret
        exact ⟨by rw [unhide HE]; rfl, (by repeat (first | exact Below.refl _ _ | refine balloc ?_))⟩
      rw [z0, Bool.true_and] at hE
      go_wp2_with fail
      refine (zeroS_any _ nn nr).mono ?_
      rintro e w1 ⟨rfl, ew⟩
      obtain rfl := ew
      cases z1 : zeroB nn nr
      · have HE := hide (show acB ⟨k, a, b, ⟨ek, nn, nr, tn, tr, i, el, nm, tx, true⟩⟩ = false by rw [hE, z1]; rfl)
        clear hE z1
        go_wp2_with fail
        go_ret
        exact ⟨by rw [unhide HE]; rfl, (by repeat (first | exact Below.refl _ _ | refine balloc ?_))⟩
      rw [z1, Bool.true_and] at hE
      clear z1
      go_wp2_with fail
      refine (zeroS_any _ tn tr).mono ?_
      rintro e w1 ⟨rfl, ew⟩
      obtain rfl := ew
      cases z2 : zeroB tn tr
      · have HE := hide (show acB ⟨k, a, b, ⟨ek, nn, nr, tn, tr, i, el, nm, tx, true⟩⟩ = false by rw [hE, z2]; rfl)
        clear hE z2
        go_wp2_with fail
        go_ret
        exact ⟨by rw [unhide HE]; rfl, (by repeat (first | exact Below.refl _ _ | refine balloc ?_))⟩
      rw [z2, Bool.true_and] at hE
      clear z2
      cases z3 : (i == 0)
      · have HE := hide (show acB ⟨k, a, b, ⟨ek, nn, nr, tn, tr, i, el, nm, tx, true⟩⟩ = false by rw [hE, z3]; rfl)
        clear hE
        go_wp2_with fail
        go_ret
        exact ⟨by rw [unhide HE]; rfl, (by repeat (first | exact Below.refl _ _ | refine balloc ?_))⟩
      rw [z3, Bool.true_and] at hE
      cases z4 : (el == 0)
      · have HE := hide (show acB ⟨k, a, b, ⟨ek, nn, nr, tn, tr, i, el, nm, tx, true⟩⟩ = false by rw [hE, z4]; rfl)
        clear hE
        go_wp2_with fail
        go_ret
        exact ⟨by rw [unhide HE]; rfl, (by repeat (first | exact Below.refl _ _ | refine balloc ?_))⟩
      rw [z4, Bool.true_and] at hE
      cases z5 : ((nm.length : Int) == 0)
      · have HE := hide (show acB ⟨k, a, b, ⟨ek, nn, nr, tn, tr, i, el, nm, tx, true⟩⟩ = false by rw [hE, z5]; rfl)
        clear hE
        go_wp2_with fail
        go_ret
        exact ⟨by rw [unhide HE]; rfl, (by repeat (first | exact Below.refl _ _ | refine balloc ?_))⟩
      rw [z5, Bool.true_and] at hE
      cases z6 : ((tx.length : Int) == 0)
      · have HE := hide (show acB ⟨k, a, b, ⟨ek, nn, nr, tn, tr, i, el, nm, tx, true⟩⟩ = false by rw [hE, z6]; rfl)
        clear hE
        go_wp2_with fail
        go_ret
        exact ⟨by rw [unhide HE]; rfl, (by repeat (first | exact Below.refl _ _ | refine balloc ?_))⟩
      rw [z6, Bool.true_and] at hE
      have HE := hide hE
      clear hE
      go_wp2_with fail
      go_ret
      exact ⟨by rw [unhide HE]; rfl, (by repeat (first | exact Below.refl _ _ | refine balloc ?_))⟩
end Go.Proofs.Ytkmmhlimihkgfaa
