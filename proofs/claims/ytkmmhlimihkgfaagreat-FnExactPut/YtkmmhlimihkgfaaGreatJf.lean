/- Own texts joined: OpI, BytI, CopyO, CopyOs, CopyW, InsM. -/
import Derived.Test.YtkmmhlimihkgfaaGreatJa
import Derived.Test.YtkmmhlimihkgfaaGreatJb
import Derived.Test.YtkmmhlimihkgfaaGreatJc
import Derived.Test.YtkmmhlimihkgfaaGreatJd
import Derived.Test.YtkmmhlimihkgfaaGreatJe
import Derived.Deep.RegionHeld3
import Derived.Deep.CutBlock
import Derived.Laws.CopyOwn

/- impl.OpOk answers what the plain test says. -/
namespace Go.Proofs.YtkmmhlimihkgfaaGreat
open Go.RowKit
set_option linter.unusedVariables false
set_option maxRecDepth 100000

theorem balloc {w w' : World} {o : Obj} (h : Below w.heap.size w w') : Below w.heap.size w (w'.alloc o) := h.alloc h.size o

set_option maxHeartbeats 6400000 in
theorem opI_0 (w : World) (o : OpV) (a1 a2 a3 : Option Addr) (c1 c2 c3 : Nat) (hk : Ints w (.slice a1 o.key.length c1) o.key) (hn : Byt w (.slice a2 o.name.length c2) o.name) (ht : Byt w (.slice a3 o.text.length c3) o.text) (k0 : o.kind = 0) :
    Calls Tryz.prog 38 #[opVal o (.slice a1 o.key.length c1) (.slice a2 o.name.length c2) (.slice a3 o.text.length c3)] w fun e w' => e = .returned (.bool (opB o)) ∧ Below w.heap.size w w' := by
  have hE := opB_0 k0
  have HK := hide hk
  have HM := hide hn
  have HX := hide ht
  clear hk hn ht
  unfold opVal
  rw [k0]
  go_enter Tryz.func38, Tryz.ntmps38
  go_wp2_with fail
  refine (idI_any _ o.parN o.parR).mono ?_
  rintro e w1 ⟨rfl, ew⟩
  obtain rfl := ew
  cases hx : idB o.parN o.parR
  · rw [hx] at hE
    clear hx
    go_wp2_with fail
    refine (stampI_any _ o.atN o.atR).mono ?_
    rintro e w1 ⟨rfl, rfl⟩
    cases hs : stampB o.atN o.atR
    · have HF := hide (show opB o = false by rw [hE, hs]; rfl)
      clear hE hs
      go_wp2_with fail
      go_ret
      exact ⟨by rw [unhide HF]; rfl, (by repeat (first | exact Below.refl _ _ | refine balloc ?_))⟩
    · have HF := hide (show opB o = false by rw [hE, hs]; rfl)
      clear hE hs
      go_wp2_with fail
      go_ret
      exact ⟨by rw [unhide HF]; rfl, (by repeat (first | exact Below.refl _ _ | refine balloc ?_))⟩
  rw [hx] at hE
  clear hx
  go_wp2_with fail
  refine (keyI_b _ _ o.key ((unhide HK).keep (by repeat (first | exact Below.refl _ _ | refine balloc ?_)))).mono ?_
  rintro e w1 ⟨rfl, ew⟩
  obtain rfl := ew
  cases hx : keyB o.key
  · rw [hx] at hE
    clear hx
    go_wp2_with fail
    refine (stampI_any _ o.atN o.atR).mono ?_
    rintro e w1 ⟨rfl, rfl⟩
    cases hs : stampB o.atN o.atR
    · have HF := hide (show opB o = false by rw [hE, hs]; rfl)
      clear hE hs
      go_wp2_with fail
      go_ret
      exact ⟨by rw [unhide HF]; rfl, (by repeat (first | exact Below.refl _ _ | refine balloc ?_))⟩
    · have HF := hide (show opB o = false by rw [hE, hs]; rfl)
      clear hE hs
      go_wp2_with fail
      go_ret
      exact ⟨by rw [unhide HF]; rfl, (by repeat (first | exact Below.refl _ _ | refine balloc ?_))⟩
  rw [hx] at hE
  clear hx
  go_wp2_with fail
  refine (loneI_any _ o.elem _ _ o.name o.text ((unhide HM).keep (by repeat (first | exact Below.refl _ _ | refine balloc ?_))) ((unhide HX).keep (by repeat (first | exact Below.refl _ _ | refine balloc ?_)))).mono ?_
  rintro e w1 ⟨rfl, ew⟩
  obtain rfl := ew
  cases hx : loneB o.elem o.name o.text
  · rw [hx] at hE
    clear hx
    go_wp2_with fail
    refine (stampI_any _ o.atN o.atR).mono ?_
    rintro e w1 ⟨rfl, rfl⟩
    cases hs : stampB o.atN o.atR
    · have HF := hide (show opB o = false by rw [hE, hs]; rfl)
      clear hE hs
      go_wp2_with fail
      go_ret
      exact ⟨by rw [unhide HF]; rfl, (by repeat (first | exact Below.refl _ _ | refine balloc ?_))⟩
    · have HF := hide (show opB o = false by rw [hE, hs]; rfl)
      clear hE hs
      go_wp2_with fail
      go_ret
      exact ⟨by rw [unhide HF]; rfl, (by repeat (first | exact Below.refl _ _ | refine balloc ?_))⟩
  rw [hx] at hE
  clear hx
  go_wp2_with fail
  refine (stampI_any _ o.atN o.atR).mono ?_
  rintro e w1 ⟨rfl, rfl⟩
  cases hs : stampB o.atN o.atR
  · have HF := hide (show opB o = false by rw [hE, hs]; rfl)
    clear hE hs
    go_wp2_with fail
    go_ret
    exact ⟨by rw [unhide HF]; rfl, (by repeat (first | exact Below.refl _ _ | refine balloc ?_))⟩
  · rw [hs] at hE
    have HF := hide (show opB o = zeroOpB (rest0 o) by rw [hE]; rfl)
    clear hE hs
    go_wp2_with fail
    refine (zeroI_any _ (rest0 o) none none none 0 0 0).mono ?_
    rintro e w1 ⟨rfl, hB1⟩
    have hA := bstep (a := w) (by repeat (first | exact Below.refl _ _ | refine balloc ?_)) hB1
    clear hB1
    go_wp2_with fail
    go_ret
    exact ⟨by rw [unhide HF]; rfl, hA⟩

set_option maxHeartbeats 6400000 in
theorem opI_1 (w : World) (o : OpV) (a1 a2 a3 : Option Addr) (c1 c2 c3 : Nat) (hk : Ints w (.slice a1 o.key.length c1) o.key) (hn : Byt w (.slice a2 o.name.length c2) o.name) (ht : Byt w (.slice a3 o.text.length c3) o.text) (k0 : o.kind = 1) :
    Calls Tryz.prog 38 #[opVal o (.slice a1 o.key.length c1) (.slice a2 o.name.length c2) (.slice a3 o.text.length c3)] w fun e w' => e = .returned (.bool (opB o)) ∧ Below w.heap.size w w' := by
  have hE := opB_1 k0
  have HK := hide hk
  have HM := hide hn
  have HX := hide ht
  clear hk hn ht
  unfold opVal
  rw [k0]
  go_enter Tryz.func38, Tryz.ntmps38
  go_wp2_with fail
  refine (idI_any _ o.nodeN o.nodeR).mono ?_
  rintro e w1 ⟨rfl, ew⟩
  obtain rfl := ew
  cases hx : idB o.nodeN o.nodeR
  · rw [hx] at hE
    clear hx
    go_wp2_with fail
    refine (stampI_any _ o.atN o.atR).mono ?_
    rintro e w1 ⟨rfl, rfl⟩
    cases hs : stampB o.atN o.atR
    · have HF := hide (show opB o = false by rw [hE, hs]; rfl)
      clear hE hs
      go_wp2_with fail
      go_ret
      exact ⟨by rw [unhide HF]; rfl, (by repeat (first | exact Below.refl _ _ | refine balloc ?_))⟩
    · have HF := hide (show opB o = false by rw [hE, hs]; rfl)
      clear hE hs
      go_wp2_with fail
      go_ret
      exact ⟨by rw [unhide HF]; rfl, (by repeat (first | exact Below.refl _ _ | refine balloc ?_))⟩
  rw [hx] at hE
  clear hx
  go_wp2_with fail
  refine (idI_any _ o.parN o.parR).mono ?_
  rintro e w1 ⟨rfl, ew⟩
  obtain rfl := ew
  cases hx : idB o.parN o.parR
  · rw [hx] at hE
    clear hx
    go_wp2_with fail
    refine (stampI_any _ o.atN o.atR).mono ?_
    rintro e w1 ⟨rfl, rfl⟩
    cases hs : stampB o.atN o.atR
    · have HF := hide (show opB o = false by rw [hE, hs]; rfl)
      clear hE hs
      go_wp2_with fail
      go_ret
      exact ⟨by rw [unhide HF]; rfl, (by repeat (first | exact Below.refl _ _ | refine balloc ?_))⟩
    · have HF := hide (show opB o = false by rw [hE, hs]; rfl)
      clear hE hs
      go_wp2_with fail
      go_ret
      exact ⟨by rw [unhide HF]; rfl, (by repeat (first | exact Below.refl _ _ | refine balloc ?_))⟩
  rw [hx] at hE
  clear hx
  go_wp2_with fail
  refine (keyI_b _ _ o.key ((unhide HK).keep (by repeat (first | exact Below.refl _ _ | refine balloc ?_)))).mono ?_
  rintro e w1 ⟨rfl, ew⟩
  obtain rfl := ew
  cases hx : keyB o.key
  · rw [hx] at hE
    clear hx
    go_wp2_with fail
    refine (stampI_any _ o.atN o.atR).mono ?_
    rintro e w1 ⟨rfl, rfl⟩
    cases hs : stampB o.atN o.atR
    · have HF := hide (show opB o = false by rw [hE, hs]; rfl)
      clear hE hs
      go_wp2_with fail
      go_ret
      exact ⟨by rw [unhide HF]; rfl, (by repeat (first | exact Below.refl _ _ | refine balloc ?_))⟩
    · have HF := hide (show opB o = false by rw [hE, hs]; rfl)
      clear hE hs
      go_wp2_with fail
      go_ret
      exact ⟨by rw [unhide HF]; rfl, (by repeat (first | exact Below.refl _ _ | refine balloc ?_))⟩
  rw [hx] at hE
  clear hx
  go_wp2_with fail
  refine (stampI_any _ o.atN o.atR).mono ?_
  rintro e w1 ⟨rfl, rfl⟩
  cases hs : stampB o.atN o.atR
  · have HF := hide (show opB o = false by rw [hE, hs]; rfl)
    clear hE hs
    go_wp2_with fail
    go_ret
    exact ⟨by rw [unhide HF]; rfl, (by repeat (first | exact Below.refl _ _ | refine balloc ?_))⟩
  · rw [hs] at hE
    have HF := hide (show opB o = zeroOpB (rest1 o) by rw [hE]; rfl)
    clear hE hs
    go_wp2_with fail
    refine (zeroI_any _ (rest1 o) none a2 a3 0 c2 c3).mono ?_
    rintro e w1 ⟨rfl, hB1⟩
    have hA := bstep (a := w) (by repeat (first | exact Below.refl _ _ | refine balloc ?_)) hB1
    clear hB1
    go_wp2_with fail
    go_ret
    exact ⟨by rw [unhide HF]; rfl, hA⟩

set_option maxHeartbeats 6400000 in
theorem opI_2 (w : World) (o : OpV) (a1 a2 a3 : Option Addr) (c1 c2 c3 : Nat) (hk : Ints w (.slice a1 o.key.length c1) o.key) (hn : Byt w (.slice a2 o.name.length c2) o.name) (ht : Byt w (.slice a3 o.text.length c3) o.text) (k0 : o.kind = 2) :
    Calls Tryz.prog 38 #[opVal o (.slice a1 o.key.length c1) (.slice a2 o.name.length c2) (.slice a3 o.text.length c3)] w fun e w' => e = .returned (.bool (opB o)) ∧ Below w.heap.size w w' := by
  have hE := opB_2 k0
  have HK := hide hk
  have HM := hide hn
  have HX := hide ht
  clear hk hn ht
  unfold opVal
  rw [k0]
  go_enter Tryz.func38, Tryz.ntmps38
  go_wp2_with fail
  refine (idI_any _ o.nodeN o.nodeR).mono ?_
  rintro e w1 ⟨rfl, ew⟩
  obtain rfl := ew
  cases hx : idB o.nodeN o.nodeR
  · rw [hx] at hE
    clear hx
    go_wp2_with fail
    refine (stampI_any _ o.atN o.atR).mono ?_
    rintro e w1 ⟨rfl, rfl⟩
    cases hs : stampB o.atN o.atR
    · have HF := hide (show opB o = false by rw [hE, hs]; rfl)
      clear hE hs
      go_wp2_with fail
      go_ret
      exact ⟨by rw [unhide HF]; rfl, (by repeat (first | exact Below.refl _ _ | refine balloc ?_))⟩
    · have HF := hide (show opB o = false by rw [hE, hs]; rfl)
      clear hE hs
      go_wp2_with fail
      go_ret
      exact ⟨by rw [unhide HF]; rfl, (by repeat (first | exact Below.refl _ _ | refine balloc ?_))⟩
  rw [hx] at hE
  clear hx
  go_wp2_with fail
  refine (textI_b _ _ o.text ((unhide HX).keep (by repeat (first | exact Below.refl _ _ | refine balloc ?_)))).mono ?_
  rintro e w1 ⟨rfl, ew⟩
  obtain rfl := ew
  cases hx : textB o.text
  · rw [hx] at hE
    clear hx
    go_wp2_with fail
    refine (stampI_any _ o.atN o.atR).mono ?_
    rintro e w1 ⟨rfl, rfl⟩
    cases hs : stampB o.atN o.atR
    · have HF := hide (show opB o = false by rw [hE, hs]; rfl)
      clear hE hs
      go_wp2_with fail
      go_ret
      exact ⟨by rw [unhide HF]; rfl, (by repeat (first | exact Below.refl _ _ | refine balloc ?_))⟩
    · have HF := hide (show opB o = false by rw [hE, hs]; rfl)
      clear hE hs
      go_wp2_with fail
      go_ret
      exact ⟨by rw [unhide HF]; rfl, (by repeat (first | exact Below.refl _ _ | refine balloc ?_))⟩
  rw [hx] at hE
  clear hx
  go_wp2_with fail
  refine (stampI_any _ o.atN o.atR).mono ?_
  rintro e w1 ⟨rfl, rfl⟩
  cases hs : stampB o.atN o.atR
  · have HF := hide (show opB o = false by rw [hE, hs]; rfl)
    clear hE hs
    go_wp2_with fail
    go_ret
    exact ⟨by rw [unhide HF]; rfl, (by repeat (first | exact Below.refl _ _ | refine balloc ?_))⟩
  · rw [hs] at hE
    have HF := hide (show opB o = zeroOpB (rest2 o) by rw [hE]; rfl)
    clear hE hs
    go_wp2_with fail
    refine (zeroI_any _ (rest2 o) a1 a2 none c1 c2 0).mono ?_
    rintro e w1 ⟨rfl, hB1⟩
    have hA := bstep (a := w) (by repeat (first | exact Below.refl _ _ | refine balloc ?_)) hB1
    clear hB1
    go_wp2_with fail
    go_ret
    exact ⟨by rw [unhide HF]; rfl, hA⟩

set_option maxHeartbeats 6400000 in
theorem opI_3 (w : World) (o : OpV) (a1 a2 a3 : Option Addr) (c1 c2 c3 : Nat) (hk : Ints w (.slice a1 o.key.length c1) o.key) (hn : Byt w (.slice a2 o.name.length c2) o.name) (ht : Byt w (.slice a3 o.text.length c3) o.text) (k0 : o.kind = 3) :
    Calls Tryz.prog 38 #[opVal o (.slice a1 o.key.length c1) (.slice a2 o.name.length c2) (.slice a3 o.text.length c3)] w fun e w' => e = .returned (.bool (opB o)) ∧ Below w.heap.size w w' := by
  have hE := opB_3 k0
  have HK := hide hk
  have HM := hide hn
  have HX := hide ht
  clear hk hn ht
  unfold opVal
  rw [k0]
  go_enter Tryz.func38, Tryz.ntmps38
  go_wp2_with fail
  refine (idI_any _ o.nodeN o.nodeR).mono ?_
  rintro e w1 ⟨rfl, ew⟩
  obtain rfl := ew
  cases hx : idB o.nodeN o.nodeR
  · rw [hx] at hE
    clear hx
    go_wp2_with fail
    refine (stampI_any _ o.atN o.atR).mono ?_
    rintro e w1 ⟨rfl, rfl⟩
    cases hs : stampB o.atN o.atR
    · have HF := hide (show opB o = false by rw [hE, hs]; rfl)
      clear hE hs
      go_wp2_with fail
      go_ret
      exact ⟨by rw [unhide HF]; rfl, (by repeat (first | exact Below.refl _ _ | refine balloc ?_))⟩
    · have HF := hide (show opB o = false by rw [hE, hs]; rfl)
      clear hE hs
      go_wp2_with fail
      go_ret
      exact ⟨by rw [unhide HF]; rfl, (by repeat (first | exact Below.refl _ _ | refine balloc ?_))⟩
  rw [hx] at hE
  clear hx
  go_wp2_with fail
  refine (nameI_b _ _ o.name ((unhide HM).keep (by repeat (first | exact Below.refl _ _ | refine balloc ?_)))).mono ?_
  rintro e w1 ⟨rfl, ew⟩
  obtain rfl := ew
  cases hx : nameB o.name
  · rw [hx] at hE
    clear hx
    go_wp2_with fail
    refine (stampI_any _ o.atN o.atR).mono ?_
    rintro e w1 ⟨rfl, rfl⟩
    cases hs : stampB o.atN o.atR
    · have HF := hide (show opB o = false by rw [hE, hs]; rfl)
      clear hE hs
      go_wp2_with fail
      go_ret
      exact ⟨by rw [unhide HF]; rfl, (by repeat (first | exact Below.refl _ _ | refine balloc ?_))⟩
    · have HF := hide (show opB o = false by rw [hE, hs]; rfl)
      clear hE hs
      go_wp2_with fail
      go_ret
      exact ⟨by rw [unhide HF]; rfl, (by repeat (first | exact Below.refl _ _ | refine balloc ?_))⟩
  rw [hx] at hE
  clear hx
  go_wp2_with fail
  refine (valI_any _ _ o.text o.gone ((unhide HX).keep (by repeat (first | exact Below.refl _ _ | refine balloc ?_)))).mono ?_
  rintro e w1 ⟨rfl, ew⟩
  obtain rfl := ew
  cases hx : valB o.text o.gone
  · rw [hx] at hE
    clear hx
    go_wp2_with fail
    refine (stampI_any _ o.atN o.atR).mono ?_
    rintro e w1 ⟨rfl, rfl⟩
    cases hs : stampB o.atN o.atR
    · have HF := hide (show opB o = false by rw [hE, hs]; rfl)
      clear hE hs
      go_wp2_with fail
      go_ret
      exact ⟨by rw [unhide HF]; rfl, (by repeat (first | exact Below.refl _ _ | refine balloc ?_))⟩
    · have HF := hide (show opB o = false by rw [hE, hs]; rfl)
      clear hE hs
      go_wp2_with fail
      go_ret
      exact ⟨by rw [unhide HF]; rfl, (by repeat (first | exact Below.refl _ _ | refine balloc ?_))⟩
  rw [hx] at hE
  clear hx
  go_wp2_with fail
  refine (stampI_any _ o.atN o.atR).mono ?_
  rintro e w1 ⟨rfl, rfl⟩
  cases hs : stampB o.atN o.atR
  · have HF := hide (show opB o = false by rw [hE, hs]; rfl)
    clear hE hs
    go_wp2_with fail
    go_ret
    exact ⟨by rw [unhide HF]; rfl, (by repeat (first | exact Below.refl _ _ | refine balloc ?_))⟩
  · rw [hs] at hE
    have HF := hide (show opB o = zeroOpB (rest3 o) by rw [hE]; rfl)
    clear hE hs
    go_wp2_with fail
    refine (zeroI_any _ (rest3 o) a1 none none c1 0 0).mono ?_
    rintro e w1 ⟨rfl, hB1⟩
    have hA := bstep (a := w) (by repeat (first | exact Below.refl _ _ | refine balloc ?_)) hB1
    clear hB1
    go_wp2_with fail
    go_ret
    exact ⟨by rw [unhide HF]; rfl, hA⟩

set_option maxHeartbeats 6400000 in
theorem opI_4 (w : World) (o : OpV) (a1 a2 a3 : Option Addr) (c1 c2 c3 : Nat) (h0 : o.kind ≠ 0) (h1 : o.kind ≠ 1) (h2 : o.kind ≠ 2) (h3 : o.kind ≠ 3) :
    Calls Tryz.prog 38 #[opVal o (.slice a1 o.key.length c1) (.slice a2 o.name.length c2) (.slice a3 o.text.length c3)] w fun e w' => e = .returned (.bool (opB o)) ∧ Below w.heap.size w w' := by
  have HF := hide (opB_4 h0 h1 h2 h3)
  have q0 : (o.kind == 0) = false := by simpa using h0
  have q1 : (o.kind == 1) = false := by simpa using h1
  have q2 : (o.kind == 2) = false := by simpa using h2
  have q3 : (o.kind == 3) = false := by simpa using h3
  clear h0 h1 h2 h3
  unfold opVal
  go_enter Tryz.func38, Tryz.ntmps38
  go_wp2_with fail
  refine (stampI_any _ o.atN o.atR).mono ?_
  rintro e w1 ⟨rfl, rfl⟩
  cases hs : stampB o.atN o.atR
  all_goals
    clear hs
    go_wp2_with fail
    go_ret
    exact ⟨by rw [unhide HF]; rfl, (by repeat (first | exact Below.refl _ _ | refine balloc ?_))⟩

/-- impl.OpOk, whatever it is asked. -/
theorem opI_any (w : World) (v : Value) (o : OpV) (h : RdOp w v o) :
    Calls Tryz.prog 38 #[v] w fun e w' => e = .returned (.bool (opB o)) ∧ Below w.heap.size w w' := by
  obtain ⟨k, n, t, rfl, hk, hn, ht⟩ := h
  obtain ⟨a1, c1, rfl, _, _⟩ := hk.shape
  obtain ⟨a2, c2, rfl, _, _⟩ := hn.shape
  obtain ⟨a3, c3, rfl, _, _⟩ := ht.shape
  by_cases k0 : o.kind = 0
  · exact opI_0 w o a1 a2 a3 c1 c2 c3 hk hn ht k0
  by_cases k1 : o.kind = 1
  · exact opI_1 w o a1 a2 a3 c1 c2 c3 hk hn ht k1
  by_cases k2 : o.kind = 2
  · exact opI_2 w o a1 a2 a3 c1 c2 c3 hk hn ht k2
  by_cases k3 : o.kind = 3
  · exact opI_3 w o a1 a2 a3 c1 c2 c3 hk hn ht k3
  exact opI_4 w o a1 a2 a3 c1 c2 c3 k0 k1 k2 k3
theorem opI_said : OpISaid := fun w o base k n t h _ => opI_any w _ o h.rd
end Go.Proofs.YtkmmhlimihkgfaaGreat

/- impl.OpBytes tells the bytes of an operation that may be. -/
namespace Go.Proofs.YtkmmhlimihkgfaaGreat
open Go.RowKit
set_option linter.unusedVariables false
set_option maxRecDepth 100000

theorem ints_at1 {W : World} {g : Nat} {n : Int} (h : W.cell? ⟨g, 0, none⟩ = some (.int .i64 n)) (hn : inR n) : Ints W (.slice (some ⟨g, 0, none⟩) 1 1) [n] := by
  refine ⟨okZ_in hn, by simp [maxLen], .inr (.inr ⟨g, 0, 1, rfl, by simp, by simp [maxLen], by simp, lt_of_cell h, fun i hi => ?_⟩)⟩
  have : i = 0 := by simpa using hi
  subst this
  exact h
theorem putNum_at (w : World) (base : Nat) (v : Value) (l : List Int) (n : Int) (g : Nat) (h : Own w base v l) (hb : base ≤ w.heap.size) (hn : inR n) (c0 : w.cell? ⟨g, 0, none⟩ = some (.int .i64 n)) (hl : l.length ≤ 20000000) :
    Calls Tryz.prog 141 #[v, .slice (some ⟨g, 0, none⟩) 1 1] w fun e w' => ∃ a c, e = .returned (.slice a (putAll l n).length c) ∧ Own w' base (.slice a (putAll l n).length c) (putAll l n) ∧ Below w.heap.size w w' :=
  putNums_any w base v _ l [n] h hb (ints_at1 c0 hn) hl (by simp)
theorem putId_at (w : World) (base : Nat) (v : Value) (l : List Int) (n r : Int) (g : Nat) (h : Own w base v l) (hb : base ≤ w.heap.size) (hn : inR n) (hr : inR r) (c0 : w.cell? ⟨g, 0, none⟩ = some (.int .i64 n)) (c1 : w.cell? ⟨g, 1, none⟩ = some (.int .i64 r)) (hl : l.length ≤ 10000000) :
    Calls Tryz.prog 140 #[v, .slice (some ⟨g, 0, none⟩) 1 1] w fun e w' => ∃ a c, e = .returned (.slice a (putId l n r).length c) ∧ Own w' base (.slice a (putId l n r).length c) (putId l n r) ∧ Below w.heap.size w w' :=
  putIds_any w base v l [(n, r)] g 0 1 h hb hl (by simp) (lt_of_cell c0) (fun x hx => by simp at hx; subst hx; exact okZ_in2 hn hr)
    (fun j hj => by have : j = 0 := by simpa using hj
                    subst this; exact c0)
    (fun j hj => by have : j = 0 := by simpa using hj
                    subst this; exact c1)
theorem putId_at2 (w : World) (base : Nat) (v : Value) (l : List Int) (n r n' r' : Int) (g : Nat) (h : Own w base v l) (hb : base ≤ w.heap.size) (hn : inR n) (hr : inR r) (hn' : inR n') (hr' : inR r') (c0 : w.cell? ⟨g, 0, none⟩ = some (.int .i64 n)) (c1 : w.cell? ⟨g, 1, none⟩ = some (.int .i64 r)) (c2 : w.cell? ⟨g, 2, none⟩ = some (.int .i64 n')) (c3 : w.cell? ⟨g, 3, none⟩ = some (.int .i64 r')) (hl : l.length ≤ 10000000) :
    Calls Tryz.prog 140 #[v, .slice (some ⟨g, 0, none⟩) 2 2] w fun e w' => ∃ a c, e = .returned (.slice a (putId (putId l n r) n' r').length c) ∧ Own w' base (.slice a (putId (putId l n r) n' r').length c) (putId (putId l n r) n' r') ∧ Below w.heap.size w w' :=
  putIds_any w base v l [(n, r), (n', r')] g 0 2 h hb hl (by simp) (lt_of_cell c0) (fun x hx => by
      simp at hx
      rcases hx with rfl | rfl
      · exact okZ_in2 hn hr
      · exact okZ_in2 hn' hr')
    (fun j hj => by have : j = 0 ∨ j = 1 := by simp at hj; omega
                    rcases this with rfl | rfl
                    · exact c0
                    · exact c2)
    (fun j hj => by have : j = 0 ∨ j = 1 := by simp at hj; omega
                    rcases this with rfl | rfl
                    · exact c1
                    · exact c3)
theorem putId_len2 (l : List Int) (n r n' r' : Int) : (putId (putId l n r) n' r').length ≤ l.length + 20 := by
  have := putId_len (putId l n r) n' r'
  have := putId_len l n r
  omega
theorem putVal_len (l t : List Int) (g : Bool) : (putVal l t g).length ≤ l.length + 50 := by
  unfold putVal
  split
  · have := putAll_len l 1; omega
  · have := putT_len (putAll l 0) t
    have := putAll_len l 0
    omega

set_option maxHeartbeats 12800000 in
theorem bytesI_0 (w : World) (o : OpV) (a1 a2 a3 : Option Addr) (c1 c2 c3 : Nat) (hk : Ints w (.slice a1 o.key.length c1) o.key) (hn : Byt w (.slice a2 o.name.length c2) o.name) (ht : Byt w (.slice a3 o.text.length c3) o.text) (hs : o.key.length ≤ 2097152) (hb : opB o = true) (F1 : inR o.atN) (F2 : inR o.atR) (F5 : inR o.parN) (F6 : inR o.parR) (F8 : inR o.elem) (k0 : o.kind = 0) :
    Calls Tryz.prog 122 #[opVal o (.slice a1 o.key.length c1) (.slice a2 o.name.length c2) (.slice a3 o.text.length c3)] w fun e w' => ∃ a c, e = .returned (.tuple #[.slice a (opBytes o).length c, .bool true]) ∧ Own w' w.heap.size (.slice a (opBytes o).length c) (opBytes o) ∧ Below w.heap.size w w' := by
  have HK := hide hk
  have HM := hide hn
  have HX := hide ht
  clear hk hn ht
  have Ln : ([] : List Int).length = 0 := rfl
  have HO := hide (fun (W : World) (hW : Below w.heap.size w W) => opI_any W _ o ⟨_, _, _, rfl, (unhide HK).keep hW, (unhide HM).keep hW, (unhide HX).keep hW⟩)
  rw [hb] at HO
  clear hb
  unfold opVal at HO
  rw [k0] at HO
  obtain ⟨r1, e1⟩ : ∃ r, r = putAll ([] : List Int) 0 := ⟨_, rfl⟩
  have L1 := putAll_len ([] : List Int) 0
  have H1 := hide (fun (W : World) (hW : Below w.heap.size w W) (v : Value) (h : Own W w.heap.size v ([] : List Int)) (g : Nat) (c0 : W.cell? ⟨g, 0, none⟩ = some (.int .i64 (0))) => putNum_at W w.heap.size v ([] : List Int) 0 g h hW.size ⟨by decide, by decide⟩ c0 (by omega))
  rw [← e1] at L1 H1
  obtain ⟨r2, e2⟩ : ∃ r, r = putId r1 o.atN o.atR := ⟨_, rfl⟩
  have L2 := putId_len r1 o.atN o.atR
  have H2 := hide (fun (W : World) (hW : Below w.heap.size w W) (v : Value) (h : Own W w.heap.size v r1) (g : Nat) (c0 : W.cell? ⟨g, 0, none⟩ = some (.int .i64 o.atN)) (c1 : W.cell? ⟨g, 1, none⟩ = some (.int .i64 o.atR)) => putId_at W w.heap.size v r1 o.atN o.atR g h hW.size F1 F2 c0 c1 (by omega))
  rw [← e2] at L2 H2
  obtain ⟨r3, e3⟩ : ∃ r, r = putId r2 o.parN o.parR := ⟨_, rfl⟩
  have L3 := putId_len r2 o.parN o.parR
  have H3 := hide (fun (W : World) (hW : Below w.heap.size w W) (v : Value) (h : Own W w.heap.size v r2) (g : Nat) (c0 : W.cell? ⟨g, 0, none⟩ = some (.int .i64 o.parN)) (c1 : W.cell? ⟨g, 1, none⟩ = some (.int .i64 o.parR)) => putId_at W w.heap.size v r2 o.parN o.parR g h hW.size F5 F6 c0 c1 (by omega))
  rw [← e3] at L3 H3
  obtain ⟨r4, e4⟩ : ∃ r, r = putKey r3 o.key := ⟨_, rfl⟩
  have L4 := putKey_len r3 o.key
  have H4 := hide (fun (W : World) (hW : Below w.heap.size w W) (v : Value) (h : Own W w.heap.size v r3) => putKey_any W w.heap.size v _ r3 o.key h hW.size ((unhide HK).keep hW) (by omega) (by omega))
  rw [← e4] at L4 H4
  obtain ⟨r5, e5⟩ : ∃ r, r = putAll r4 o.elem := ⟨_, rfl⟩
  have L5 := putAll_len r4 o.elem
  have H5 := hide (fun (W : World) (hW : Below w.heap.size w W) (v : Value) (h : Own W w.heap.size v r4) (g : Nat) (c0 : W.cell? ⟨g, 0, none⟩ = some (.int .i64 (o.elem))) => putNum_at W w.heap.size v r4 o.elem g h hW.size F8 c0 (by omega))
  rw [← e5] at L5 H5
  obtain ⟨r6, e6⟩ : ∃ r, r = putT r5 o.name := ⟨_, rfl⟩
  have L6 := putT_len r5 o.name
  have H6 := hide (fun (W : World) (hW : Below w.heap.size w W) (v : Value) (h : Own W w.heap.size v r5) => rw_base (putTI_own W v _ r5 o.name h.byt ((unhide HM).keep hW) (by omega)) hW.size)
  rw [← e6] at L6 H6
  obtain ⟨r7, e7⟩ : ∃ r, r = putT r6 o.text := ⟨_, rfl⟩
  have L7 := putT_len r6 o.text
  have H7 := hide (fun (W : World) (hW : Below w.heap.size w W) (v : Value) (h : Own W w.heap.size v r6) => rw_base (putTI_own W v _ r6 o.text h.byt ((unhide HX).keep hW) (by omega)) hW.size)
  rw [← e7] at L7 H7
  have HE := hide (show opBytes o = r7 by unfold opBytes opHd; rw [k0, if_pos rfl]; rw [e7, e6, e5, e4, e3, e2, e1])
  clear e7 L7 e6 L6 e5 L5 e4 L4 e3 L3 e2 L2 e1 L1
  have hA0 : Below w.heap.size w (w.alloc (.cells #[.int .i64 0, .int .i64 o.atN, .int .i64 o.atR, .int .i64 o.nodeN, .int .i64 o.nodeR, .int .i64 o.parN, .int .i64 o.parR, .slice a1 o.key.length c1, .int .i64 o.elem, .slice a2 o.name.length c2, .slice a3 o.text.length c3, .bool o.gone] 28)) := (Below.refl w.heap.size w).alloc (Nat.le_refl _) _
  have l0 := Loc.made w #[.int .i64 0, .int .i64 o.atN, .int .i64 o.atR, .int .i64 o.nodeN, .int .i64 o.nodeR, .int .i64 o.parN, .int .i64 o.parR, .slice a1 o.key.length c1, .int .i64 o.elem, .slice a2 o.name.length c2, .slice a3 o.text.length c3, .bool o.gone] 28
  rw [unhide HE]
  clear HE
  unfold opVal
  rw [k0]
  go_enter Tryz.func122, Tryz.ntmps122
  go_wp2_with fail
  generalize (w.alloc (.cells #[.int .i64 0, .int .i64 o.atN, .int .i64 o.atR, .int .i64 o.nodeN, .int .i64 o.nodeR, .int .i64 o.parN, .int .i64 o.parR, .slice a1 o.key.length c1, .int .i64 o.elem, .slice a2 o.name.length c2, .slice a3 o.text.length c3, .bool o.gone] 28)) = w0 at *
  refine (unhide HO w0 hA0).mono ?_
  clear HO
  rintro e w1 ⟨rfl, hB0⟩
  have hA1 := bstep hA0 hB0
  have l1 := l0.all hB0
  clear hA0 l0 hB0
  obtain ⟨x0, x1, x2, x3, x4, x5, x6, x7, x8, x9, x10, x11⟩ := l1.twelve
  go_wp2_with fail
  clear x0 x1 x2 x3 x4 x5 x6 x7 x8 x9 x10 x11
  obtain ⟨x0, x1, x2, x3, x4, x5, x6, x7, x8, x9, x10, x11⟩ := l1.twelve
  go_region_held3 (fun w' => w'.cell? ⟨w.heap.size, 0, none⟩ = some (.int .i64 0) ∧ w'.cell? ⟨w.heap.size, 1, none⟩ = some (.int .i64 o.atN) ∧ w'.cell? ⟨w.heap.size, 2, none⟩ = some (.int .i64 o.atR))
    (first | exact ⟨by assumption, by assumption, by assumption⟩ | go_keep)
    (first
      | (go_at_call 141; refine (unhide H1 _ (by repeat (first | exact hA1 | exact Below.refl _ _ | refine balloc2 ?_ | refine Below.drew ?_)) _ (own_nil2 _ _) _ (by first | (simp; done))).mono ?_; clear H1; rintro e w11 ⟨b1, d1, rfl, ho1, hB1⟩; have hA11 := bstep (a := w) (by repeat (first | exact hA1 | exact Below.refl _ _ | refine balloc2 ?_ | refine Below.drew ?_)) hB1; have hD11 := bstep (a := w1) (by repeat (first | exact Below.refl _ _ | exact Below.refl _ _ | refine balloc2 ?_ | refine Below.drew ?_)) hB1; have hY1 := fun p v h => cell_later hB1 (p := p) (v := v) h; obtain ⟨x0, x1, x2, x3, x4, x5, x6, x7, x8, x9, x10, x11⟩ := (l1.all hD11).twelve)
      | (go_at_call 140; refine (unhide H2 _ (by repeat (first | exact hA11 | exact Below.refl _ _ | refine balloc2 ?_ | refine Below.drew ?_)) _ (ho1.keep (by repeat (first | exact Below.refl _ _ | exact Below.refl _ _ | refine balloc2 ?_ | refine Below.drew ?_))) _ (by first | (simp; done) | exact (hY1 _ _ (by simp))) (by first | (simp; done) | exact (hY1 _ _ (by simp)))).mono ?_; clear H2; rintro e w12 ⟨b2, d2, rfl, ho2, hB2⟩; have hA12 := bstep (a := w) (by repeat (first | exact hA11 | exact Below.refl _ _ | refine balloc2 ?_ | refine Below.drew ?_)) hB2; have hD12 := bstep (a := w1) (by repeat (first | exact hD11 | exact Below.refl _ _ | refine balloc2 ?_ | refine Below.drew ?_)) hB2; have hY2 := fun p v h => cell_later hB2 (p := p) (v := v) h; obtain ⟨x0, x1, x2, x3, x4, x5, x6, x7, x8, x9, x10, x11⟩ := (l1.all hD12).twelve))
  all_goals
    have l12 := l1.all hD12
    clear x0 x1 x2 x3 x4 x5 x6 x7 x8 x9 x10 x11 hY1 hB1 hD11 hY2 hB2 hD12 ho1 hA11
    obtain ⟨x0, x1, x2, x3, x4, x5, x6, x7, x8, x9, x10, x11⟩ := l12.twelve
    go_wp2_with fail
    clear x0 x1 x2 x3 x4 x5 x6 x7 x8 x9 x10 x11
    obtain ⟨x0, x1, x2, x3, x4, x5, x6, x7, x8, x9, x10, x11⟩ := l12.twelve
    go_region_held3 (fun w' => w'.cell? ⟨w.heap.size, 5, none⟩ = some (.int .i64 o.parN) ∧ w'.cell? ⟨w.heap.size, 6, none⟩ = some (.int .i64 o.parR) ∧ w'.cell? ⟨w.heap.size, 7, none⟩ = some (.slice a1 o.key.length c1) ∧ w'.cell? ⟨w.heap.size, 8, none⟩ = some (.int .i64 o.elem))
      (first | exact ⟨by assumption, by assumption, by assumption, by assumption⟩ | go_keep)
      (first
        | (go_at_call 140; refine (unhide H3 _ (by repeat (first | exact hA12 | exact Below.refl _ _ | refine balloc2 ?_ | refine Below.drew ?_)) _ (ho2.keep (by repeat (first | exact Below.refl _ _ | exact Below.refl _ _ | refine balloc2 ?_ | refine Below.drew ?_))) _ (by first | (simp; done)) (by first | (simp; done))).mono ?_; clear H3; rintro e w13 ⟨b3, d3, rfl, ho3, hB3⟩; have hA13 := bstep (a := w) (by repeat (first | exact hA12 | exact Below.refl _ _ | refine balloc2 ?_ | refine Below.drew ?_)) hB3; have hD13 := bstep (a := w12) (by repeat (first | exact Below.refl _ _ | exact Below.refl _ _ | refine balloc2 ?_ | refine Below.drew ?_)) hB3; have hY3 := fun p v h => cell_later hB3 (p := p) (v := v) h; obtain ⟨x0, x1, x2, x3, x4, x5, x6, x7, x8, x9, x10, x11⟩ := (l12.all hD13).twelve)
        | (go_at_call 142; refine (unhide H4 _ (by repeat (first | exact hA13 | exact Below.refl _ _ | refine balloc2 ?_ | refine Below.drew ?_)) _ (ho3.keep (by repeat (first | exact Below.refl _ _ | exact Below.refl _ _ | refine balloc2 ?_ | refine Below.drew ?_)))).mono ?_; clear H4; rintro e w14 ⟨b4, d4, rfl, ho4, hB4⟩; have hA14 := bstep (a := w) (by repeat (first | exact hA13 | exact Below.refl _ _ | refine balloc2 ?_ | refine Below.drew ?_)) hB4; have hD14 := bstep (a := w12) (by repeat (first | exact hD13 | exact Below.refl _ _ | refine balloc2 ?_ | refine Below.drew ?_)) hB4; have hY4 := fun p v h => cell_later hB4 (p := p) (v := v) h; obtain ⟨x0, x1, x2, x3, x4, x5, x6, x7, x8, x9, x10, x11⟩ := (l12.all hD14).twelve)
        | (go_at_call 141; refine (unhide H5 _ (by repeat (first | exact hA14 | exact Below.refl _ _ | refine balloc2 ?_ | refine Below.drew ?_)) _ (ho4.keep (by repeat (first | exact Below.refl _ _ | exact Below.refl _ _ | refine balloc2 ?_ | refine Below.drew ?_))) _ (by first | (simp; done) | exact (hY4 _ _ (by simp)) | exact (hY4 _ _ (hY3 _ _ (by simp))))).mono ?_; clear H5; rintro e w15 ⟨b5, d5, rfl, ho5, hB5⟩; have hA15 := bstep (a := w) (by repeat (first | exact hA14 | exact Below.refl _ _ | refine balloc2 ?_ | refine Below.drew ?_)) hB5; have hD15 := bstep (a := w12) (by repeat (first | exact hD14 | exact Below.refl _ _ | refine balloc2 ?_ | refine Below.drew ?_)) hB5; have hY5 := fun p v h => cell_later hB5 (p := p) (v := v) h; obtain ⟨x0, x1, x2, x3, x4, x5, x6, x7, x8, x9, x10, x11⟩ := (l12.all hD15).twelve))
    all_goals
      have l15 := l12.all hD15
      clear x0 x1 x2 x3 x4 x5 x6 x7 x8 x9 x10 x11 hY3 hB3 hD13 hY4 hB4 hD14 hY5 hB5 hD15 ho3 ho4 hA13 hA14
      obtain ⟨x0, x1, x2, x3, x4, x5, x6, x7, x8, x9, x10, x11⟩ := l15.twelve
      go_wp2_with fail
      clear x0 x1 x2 x3 x4 x5 x6 x7 x8 x9 x10 x11
      obtain ⟨x0, x1, x2, x3, x4, x5, x6, x7, x8, x9, x10, x11⟩ := l15.twelve
      go_region_held3 (fun w' => w'.cell? ⟨w.heap.size, 9, none⟩ = some (.slice a2 o.name.length c2) ∧ w'.cell? ⟨w.heap.size, 10, none⟩ = some (.slice a3 o.text.length c3))
        (first | exact ⟨by assumption, by assumption⟩ | go_keep)
        (first
          | (go_at_call 143; refine (unhide H6 _ (by repeat (first | exact hA15 | exact Below.refl _ _ | refine balloc2 ?_ | refine Below.drew ?_)) _ (ho5.keep (by repeat (first | exact Below.refl _ _ | exact Below.refl _ _ | refine balloc2 ?_ | refine Below.drew ?_)))).mono ?_; clear H6; rintro e w16 ⟨b6, d6, rfl, ho6, hB6⟩; have hA16 := bstep (a := w) (by repeat (first | exact hA15 | exact Below.refl _ _ | refine balloc2 ?_ | refine Below.drew ?_)) hB6; have hD16 := bstep (a := w15) (by repeat (first | exact Below.refl _ _ | exact Below.refl _ _ | refine balloc2 ?_ | refine Below.drew ?_)) hB6; have hY6 := fun p v h => cell_later hB6 (p := p) (v := v) h; obtain ⟨x0, x1, x2, x3, x4, x5, x6, x7, x8, x9, x10, x11⟩ := (l15.all hD16).twelve)
          | (go_at_call 143; refine (unhide H7 _ (by repeat (first | exact hA16 | exact Below.refl _ _ | refine balloc2 ?_ | refine Below.drew ?_)) _ (ho6.keep (by repeat (first | exact Below.refl _ _ | exact Below.refl _ _ | refine balloc2 ?_ | refine Below.drew ?_)))).mono ?_; clear H7; rintro e w17 ⟨b7, d7, rfl, ho7, hB7⟩; have hA17 := bstep (a := w) (by repeat (first | exact hA16 | exact Below.refl _ _ | refine balloc2 ?_ | refine Below.drew ?_)) hB7; have hD17 := bstep (a := w15) (by repeat (first | exact hD16 | exact Below.refl _ _ | refine balloc2 ?_ | refine Below.drew ?_)) hB7; have hY7 := fun p v h => cell_later hB7 (p := p) (v := v) h; obtain ⟨x0, x1, x2, x3, x4, x5, x6, x7, x8, x9, x10, x11⟩ := (l15.all hD17).twelve))
      all_goals
        have l17 := l15.all hD17
        clear x0 x1 x2 x3 x4 x5 x6 x7 x8 x9 x10 x11 hY6 hB6 hD16 hY7 hB7 hD17 ho6 hA16
        obtain ⟨x0, x1, x2, x3, x4, x5, x6, x7, x8, x9, x10, x11⟩ := l17.twelve
        go_wp2_with fail
        clear x0 x1 x2 x3 x4 x5 x6 x7 x8 x9 x10 x11
        go_ret2
        exact ⟨b7, d7, rfl, ho7, hA17⟩

set_option maxHeartbeats 12800000 in
theorem bytesI_1 (w : World) (o : OpV) (a1 a2 a3 : Option Addr) (c1 c2 c3 : Nat) (hk : Ints w (.slice a1 o.key.length c1) o.key) (hn : Byt w (.slice a2 o.name.length c2) o.name) (ht : Byt w (.slice a3 o.text.length c3) o.text) (hs : o.key.length ≤ 2097152) (hb : opB o = true) (F1 : inR o.atN) (F2 : inR o.atR) (F3 : inR o.nodeN) (F4 : inR o.nodeR) (F5 : inR o.parN) (F6 : inR o.parR) (k0 : o.kind = 1) :
    Calls Tryz.prog 122 #[opVal o (.slice a1 o.key.length c1) (.slice a2 o.name.length c2) (.slice a3 o.text.length c3)] w fun e w' => ∃ a c, e = .returned (.tuple #[.slice a (opBytes o).length c, .bool true]) ∧ Own w' w.heap.size (.slice a (opBytes o).length c) (opBytes o) ∧ Below w.heap.size w w' := by
  have HK := hide hk
  have HM := hide hn
  have HX := hide ht
  clear hk hn ht
  have Ln : ([] : List Int).length = 0 := rfl
  have HO := hide (fun (W : World) (hW : Below w.heap.size w W) => opI_any W _ o ⟨_, _, _, rfl, (unhide HK).keep hW, (unhide HM).keep hW, (unhide HX).keep hW⟩)
  rw [hb] at HO
  clear hb
  unfold opVal at HO
  rw [k0] at HO
  obtain ⟨r1, e1⟩ : ∃ r, r = putAll ([] : List Int) 1 := ⟨_, rfl⟩
  have L1 := putAll_len ([] : List Int) 1
  have H1 := hide (fun (W : World) (hW : Below w.heap.size w W) (v : Value) (h : Own W w.heap.size v ([] : List Int)) (g : Nat) (c0 : W.cell? ⟨g, 0, none⟩ = some (.int .i64 (1))) => putNum_at W w.heap.size v ([] : List Int) 1 g h hW.size ⟨by decide, by decide⟩ c0 (by omega))
  rw [← e1] at L1 H1
  obtain ⟨r2, e2⟩ : ∃ r, r = putId r1 o.atN o.atR := ⟨_, rfl⟩
  have L2 := putId_len r1 o.atN o.atR
  have H2 := hide (fun (W : World) (hW : Below w.heap.size w W) (v : Value) (h : Own W w.heap.size v r1) (g : Nat) (c0 : W.cell? ⟨g, 0, none⟩ = some (.int .i64 o.atN)) (c1 : W.cell? ⟨g, 1, none⟩ = some (.int .i64 o.atR)) => putId_at W w.heap.size v r1 o.atN o.atR g h hW.size F1 F2 c0 c1 (by omega))
  rw [← e2] at L2 H2
  obtain ⟨r3, e3⟩ : ∃ r, r = putId (putId r2 o.nodeN o.nodeR) o.parN o.parR := ⟨_, rfl⟩
  have L3 := putId_len2 r2 o.nodeN o.nodeR o.parN o.parR
  have H3 := hide (fun (W : World) (hW : Below w.heap.size w W) (v : Value) (h : Own W w.heap.size v r2) (g : Nat) (c0 : W.cell? ⟨g, 0, none⟩ = some (.int .i64 o.nodeN)) (c1 : W.cell? ⟨g, 1, none⟩ = some (.int .i64 o.nodeR)) (c2 : W.cell? ⟨g, 2, none⟩ = some (.int .i64 o.parN)) (c3 : W.cell? ⟨g, 3, none⟩ = some (.int .i64 o.parR)) => putId_at2 W w.heap.size v r2 o.nodeN o.nodeR o.parN o.parR g h hW.size F3 F4 F5 F6 c0 c1 c2 c3 (by omega))
  rw [← e3] at L3 H3
  obtain ⟨r4, e4⟩ : ∃ r, r = putKey r3 o.key := ⟨_, rfl⟩
  have L4 := putKey_len r3 o.key
  have H4 := hide (fun (W : World) (hW : Below w.heap.size w W) (v : Value) (h : Own W w.heap.size v r3) => putKey_any W w.heap.size v _ r3 o.key h hW.size ((unhide HK).keep hW) (by omega) (by omega))
  rw [← e4] at L4 H4
  have HE := hide (show opBytes o = r4 by unfold opBytes opHd; rw [k0, if_neg (by decide), if_pos rfl]; rw [e4, e3, e2, e1])
  clear e4 L4 e3 L3 e2 L2 e1 L1
  have hA0 : Below w.heap.size w (w.alloc (.cells #[.int .i64 1, .int .i64 o.atN, .int .i64 o.atR, .int .i64 o.nodeN, .int .i64 o.nodeR, .int .i64 o.parN, .int .i64 o.parR, .slice a1 o.key.length c1, .int .i64 o.elem, .slice a2 o.name.length c2, .slice a3 o.text.length c3, .bool o.gone] 28)) := (Below.refl w.heap.size w).alloc (Nat.le_refl _) _
  have l0 := Loc.made w #[.int .i64 1, .int .i64 o.atN, .int .i64 o.atR, .int .i64 o.nodeN, .int .i64 o.nodeR, .int .i64 o.parN, .int .i64 o.parR, .slice a1 o.key.length c1, .int .i64 o.elem, .slice a2 o.name.length c2, .slice a3 o.text.length c3, .bool o.gone] 28
  rw [unhide HE]
  clear HE
  unfold opVal
  rw [k0]
  go_enter Tryz.func122, Tryz.ntmps122
  go_wp2_with fail
  generalize (w.alloc (.cells #[.int .i64 1, .int .i64 o.atN, .int .i64 o.atR, .int .i64 o.nodeN, .int .i64 o.nodeR, .int .i64 o.parN, .int .i64 o.parR, .slice a1 o.key.length c1, .int .i64 o.elem, .slice a2 o.name.length c2, .slice a3 o.text.length c3, .bool o.gone] 28)) = w0 at *
  refine (unhide HO w0 hA0).mono ?_
  clear HO
  rintro e w1 ⟨rfl, hB0⟩
  have hA1 := bstep hA0 hB0
  have l1 := l0.all hB0
  clear hA0 l0 hB0
  obtain ⟨x0, x1, x2, x3, x4, x5, x6, x7, x8, x9, x10, x11⟩ := l1.twelve
  go_wp2_with fail
  clear x0 x1 x2 x3 x4 x5 x6 x7 x8 x9 x10 x11
  obtain ⟨x0, x1, x2, x3, x4, x5, x6, x7, x8, x9, x10, x11⟩ := l1.twelve
  go_region_held3 (fun w' => w'.cell? ⟨w.heap.size, 0, none⟩ = some (.int .i64 1) ∧ w'.cell? ⟨w.heap.size, 1, none⟩ = some (.int .i64 o.atN) ∧ w'.cell? ⟨w.heap.size, 2, none⟩ = some (.int .i64 o.atR))
    (first | exact ⟨by assumption, by assumption, by assumption⟩ | go_keep)
    (first
      | (go_at_call 141; refine (unhide H1 _ (by repeat (first | exact hA1 | exact Below.refl _ _ | refine balloc2 ?_ | refine Below.drew ?_)) _ (own_nil2 _ _) _ (by first | (simp; done))).mono ?_; clear H1; rintro e w11 ⟨b1, d1, rfl, ho1, hB1⟩; have hA11 := bstep (a := w) (by repeat (first | exact hA1 | exact Below.refl _ _ | refine balloc2 ?_ | refine Below.drew ?_)) hB1; have hD11 := bstep (a := w1) (by repeat (first | exact Below.refl _ _ | exact Below.refl _ _ | refine balloc2 ?_ | refine Below.drew ?_)) hB1; have hY1 := fun p v h => cell_later hB1 (p := p) (v := v) h; obtain ⟨x0, x1, x2, x3, x4, x5, x6, x7, x8, x9, x10, x11⟩ := (l1.all hD11).twelve)
      | (go_at_call 140; refine (unhide H2 _ (by repeat (first | exact hA11 | exact Below.refl _ _ | refine balloc2 ?_ | refine Below.drew ?_)) _ (ho1.keep (by repeat (first | exact Below.refl _ _ | exact Below.refl _ _ | refine balloc2 ?_ | refine Below.drew ?_))) _ (by first | (simp; done) | exact (hY1 _ _ (by simp))) (by first | (simp; done) | exact (hY1 _ _ (by simp)))).mono ?_; clear H2; rintro e w12 ⟨b2, d2, rfl, ho2, hB2⟩; have hA12 := bstep (a := w) (by repeat (first | exact hA11 | exact Below.refl _ _ | refine balloc2 ?_ | refine Below.drew ?_)) hB2; have hD12 := bstep (a := w1) (by repeat (first | exact hD11 | exact Below.refl _ _ | refine balloc2 ?_ | refine Below.drew ?_)) hB2; have hY2 := fun p v h => cell_later hB2 (p := p) (v := v) h; obtain ⟨x0, x1, x2, x3, x4, x5, x6, x7, x8, x9, x10, x11⟩ := (l1.all hD12).twelve))
  all_goals
    have l12 := l1.all hD12
    clear x0 x1 x2 x3 x4 x5 x6 x7 x8 x9 x10 x11 hY1 hB1 hD11 hY2 hB2 hD12 ho1 hA11
    obtain ⟨x0, x1, x2, x3, x4, x5, x6, x7, x8, x9, x10, x11⟩ := l12.twelve
    go_wp2_with fail
    clear x0 x1 x2 x3 x4 x5 x6 x7 x8 x9 x10 x11
    obtain ⟨x0, x1, x2, x3, x4, x5, x6, x7, x8, x9, x10, x11⟩ := l12.twelve
    go_region_held3 (fun w' => w'.cell? ⟨w.heap.size, 3, none⟩ = some (.int .i64 o.nodeN) ∧ w'.cell? ⟨w.heap.size, 4, none⟩ = some (.int .i64 o.nodeR) ∧ w'.cell? ⟨w.heap.size, 5, none⟩ = some (.int .i64 o.parN) ∧ w'.cell? ⟨w.heap.size, 6, none⟩ = some (.int .i64 o.parR) ∧ w'.cell? ⟨w.heap.size, 7, none⟩ = some (.slice a1 o.key.length c1))
      (first | exact ⟨by assumption, by assumption, by assumption, by assumption, by assumption⟩ | go_keep)
      (first
        | (go_at_call 140; refine (unhide H3 _ (by repeat (first | exact hA12 | exact Below.refl _ _ | refine balloc2 ?_ | refine Below.drew ?_)) _ (ho2.keep (by repeat (first | exact Below.refl _ _ | exact Below.refl _ _ | refine balloc2 ?_ | refine Below.drew ?_))) _ (by first | (simp; done)) (by first | (simp; done)) (by first | (simp; done)) (by first | (simp; done))).mono ?_; clear H3; rintro e w13 ⟨b3, d3, rfl, ho3, hB3⟩; have hA13 := bstep (a := w) (by repeat (first | exact hA12 | exact Below.refl _ _ | refine balloc2 ?_ | refine Below.drew ?_)) hB3; have hD13 := bstep (a := w12) (by repeat (first | exact Below.refl _ _ | exact Below.refl _ _ | refine balloc2 ?_ | refine Below.drew ?_)) hB3; have hY3 := fun p v h => cell_later hB3 (p := p) (v := v) h; obtain ⟨x0, x1, x2, x3, x4, x5, x6, x7, x8, x9, x10, x11⟩ := (l12.all hD13).twelve)
        | (go_at_call 142; refine (unhide H4 _ (by repeat (first | exact hA13 | exact Below.refl _ _ | refine balloc2 ?_ | refine Below.drew ?_)) _ (ho3.keep (by repeat (first | exact Below.refl _ _ | exact Below.refl _ _ | refine balloc2 ?_ | refine Below.drew ?_)))).mono ?_; clear H4; rintro e w14 ⟨b4, d4, rfl, ho4, hB4⟩; have hA14 := bstep (a := w) (by repeat (first | exact hA13 | exact Below.refl _ _ | refine balloc2 ?_ | refine Below.drew ?_)) hB4; have hD14 := bstep (a := w12) (by repeat (first | exact hD13 | exact Below.refl _ _ | refine balloc2 ?_ | refine Below.drew ?_)) hB4; have hY4 := fun p v h => cell_later hB4 (p := p) (v := v) h; obtain ⟨x0, x1, x2, x3, x4, x5, x6, x7, x8, x9, x10, x11⟩ := (l12.all hD14).twelve))
    all_goals
      have l14 := l12.all hD14
      clear x0 x1 x2 x3 x4 x5 x6 x7 x8 x9 x10 x11 hY3 hB3 hD13 hY4 hB4 hD14 ho3 hA13
      obtain ⟨x0, x1, x2, x3, x4, x5, x6, x7, x8, x9, x10, x11⟩ := l14.twelve
      go_wp2_with fail
      clear x0 x1 x2 x3 x4 x5 x6 x7 x8 x9 x10 x11
      go_ret2
      exact ⟨b4, d4, rfl, ho4, hA14⟩

set_option maxHeartbeats 12800000 in
theorem bytesI_2 (w : World) (o : OpV) (a1 a2 a3 : Option Addr) (c1 c2 c3 : Nat) (hk : Ints w (.slice a1 o.key.length c1) o.key) (hn : Byt w (.slice a2 o.name.length c2) o.name) (ht : Byt w (.slice a3 o.text.length c3) o.text) (hs : o.key.length ≤ 2097152) (hb : opB o = true) (F1 : inR o.atN) (F2 : inR o.atR) (F3 : inR o.nodeN) (F4 : inR o.nodeR) (k0 : o.kind = 2) :
    Calls Tryz.prog 122 #[opVal o (.slice a1 o.key.length c1) (.slice a2 o.name.length c2) (.slice a3 o.text.length c3)] w fun e w' => ∃ a c, e = .returned (.tuple #[.slice a (opBytes o).length c, .bool true]) ∧ Own w' w.heap.size (.slice a (opBytes o).length c) (opBytes o) ∧ Below w.heap.size w w' := by
  have HK := hide hk
  have HM := hide hn
  have HX := hide ht
  clear hk hn ht
  have Ln : ([] : List Int).length = 0 := rfl
  have HO := hide (fun (W : World) (hW : Below w.heap.size w W) => opI_any W _ o ⟨_, _, _, rfl, (unhide HK).keep hW, (unhide HM).keep hW, (unhide HX).keep hW⟩)
  rw [hb] at HO
  clear hb
  unfold opVal at HO
  rw [k0] at HO
  obtain ⟨r1, e1⟩ : ∃ r, r = putAll ([] : List Int) 2 := ⟨_, rfl⟩
  have L1 := putAll_len ([] : List Int) 2
  have H1 := hide (fun (W : World) (hW : Below w.heap.size w W) (v : Value) (h : Own W w.heap.size v ([] : List Int)) (g : Nat) (c0 : W.cell? ⟨g, 0, none⟩ = some (.int .i64 (2))) => putNum_at W w.heap.size v ([] : List Int) 2 g h hW.size ⟨by decide, by decide⟩ c0 (by omega))
  rw [← e1] at L1 H1
  obtain ⟨r2, e2⟩ : ∃ r, r = putId r1 o.atN o.atR := ⟨_, rfl⟩
  have L2 := putId_len r1 o.atN o.atR
  have H2 := hide (fun (W : World) (hW : Below w.heap.size w W) (v : Value) (h : Own W w.heap.size v r1) (g : Nat) (c0 : W.cell? ⟨g, 0, none⟩ = some (.int .i64 o.atN)) (c1 : W.cell? ⟨g, 1, none⟩ = some (.int .i64 o.atR)) => putId_at W w.heap.size v r1 o.atN o.atR g h hW.size F1 F2 c0 c1 (by omega))
  rw [← e2] at L2 H2
  obtain ⟨r3, e3⟩ : ∃ r, r = putId r2 o.nodeN o.nodeR := ⟨_, rfl⟩
  have L3 := putId_len r2 o.nodeN o.nodeR
  have H3 := hide (fun (W : World) (hW : Below w.heap.size w W) (v : Value) (h : Own W w.heap.size v r2) (g : Nat) (c0 : W.cell? ⟨g, 0, none⟩ = some (.int .i64 o.nodeN)) (c1 : W.cell? ⟨g, 1, none⟩ = some (.int .i64 o.nodeR)) => putId_at W w.heap.size v r2 o.nodeN o.nodeR g h hW.size F3 F4 c0 c1 (by omega))
  rw [← e3] at L3 H3
  obtain ⟨r4, e4⟩ : ∃ r, r = putT r3 o.text := ⟨_, rfl⟩
  have L4 := putT_len r3 o.text
  have H4 := hide (fun (W : World) (hW : Below w.heap.size w W) (v : Value) (h : Own W w.heap.size v r3) => rw_base (putTI_own W v _ r3 o.text h.byt ((unhide HX).keep hW) (by omega)) hW.size)
  rw [← e4] at L4 H4
  have HE := hide (show opBytes o = r4 by unfold opBytes opHd; rw [k0, if_neg (by decide), if_neg (by decide), if_pos rfl]; rw [e4, e3, e2, e1])
  clear e4 L4 e3 L3 e2 L2 e1 L1
  have hA0 : Below w.heap.size w (w.alloc (.cells #[.int .i64 2, .int .i64 o.atN, .int .i64 o.atR, .int .i64 o.nodeN, .int .i64 o.nodeR, .int .i64 o.parN, .int .i64 o.parR, .slice a1 o.key.length c1, .int .i64 o.elem, .slice a2 o.name.length c2, .slice a3 o.text.length c3, .bool o.gone] 28)) := (Below.refl w.heap.size w).alloc (Nat.le_refl _) _
  have l0 := Loc.made w #[.int .i64 2, .int .i64 o.atN, .int .i64 o.atR, .int .i64 o.nodeN, .int .i64 o.nodeR, .int .i64 o.parN, .int .i64 o.parR, .slice a1 o.key.length c1, .int .i64 o.elem, .slice a2 o.name.length c2, .slice a3 o.text.length c3, .bool o.gone] 28
  rw [unhide HE]
  clear HE
  unfold opVal
  rw [k0]
  go_enter Tryz.func122, Tryz.ntmps122
  go_wp2_with fail
  generalize (w.alloc (.cells #[.int .i64 2, .int .i64 o.atN, .int .i64 o.atR, .int .i64 o.nodeN, .int .i64 o.nodeR, .int .i64 o.parN, .int .i64 o.parR, .slice a1 o.key.length c1, .int .i64 o.elem, .slice a2 o.name.length c2, .slice a3 o.text.length c3, .bool o.gone] 28)) = w0 at *
  refine (unhide HO w0 hA0).mono ?_
  clear HO
  rintro e w1 ⟨rfl, hB0⟩
  have hA1 := bstep hA0 hB0
  have l1 := l0.all hB0
  clear hA0 l0 hB0
  obtain ⟨x0, x1, x2, x3, x4, x5, x6, x7, x8, x9, x10, x11⟩ := l1.twelve
  go_wp2_with fail
  clear x0 x1 x2 x3 x4 x5 x6 x7 x8 x9 x10 x11
  obtain ⟨x0, x1, x2, x3, x4, x5, x6, x7, x8, x9, x10, x11⟩ := l1.twelve
  go_region_held3 (fun w' => w'.cell? ⟨w.heap.size, 0, none⟩ = some (.int .i64 2) ∧ w'.cell? ⟨w.heap.size, 1, none⟩ = some (.int .i64 o.atN) ∧ w'.cell? ⟨w.heap.size, 2, none⟩ = some (.int .i64 o.atR))
    (first | exact ⟨by assumption, by assumption, by assumption⟩ | go_keep)
    (first
      | (go_at_call 141; refine (unhide H1 _ (by repeat (first | exact hA1 | exact Below.refl _ _ | refine balloc2 ?_ | refine Below.drew ?_)) _ (own_nil2 _ _) _ (by first | (simp; done))).mono ?_; clear H1; rintro e w11 ⟨b1, d1, rfl, ho1, hB1⟩; have hA11 := bstep (a := w) (by repeat (first | exact hA1 | exact Below.refl _ _ | refine balloc2 ?_ | refine Below.drew ?_)) hB1; have hD11 := bstep (a := w1) (by repeat (first | exact Below.refl _ _ | exact Below.refl _ _ | refine balloc2 ?_ | refine Below.drew ?_)) hB1; have hY1 := fun p v h => cell_later hB1 (p := p) (v := v) h; obtain ⟨x0, x1, x2, x3, x4, x5, x6, x7, x8, x9, x10, x11⟩ := (l1.all hD11).twelve)
      | (go_at_call 140; refine (unhide H2 _ (by repeat (first | exact hA11 | exact Below.refl _ _ | refine balloc2 ?_ | refine Below.drew ?_)) _ (ho1.keep (by repeat (first | exact Below.refl _ _ | exact Below.refl _ _ | refine balloc2 ?_ | refine Below.drew ?_))) _ (by first | (simp; done) | exact (hY1 _ _ (by simp))) (by first | (simp; done) | exact (hY1 _ _ (by simp)))).mono ?_; clear H2; rintro e w12 ⟨b2, d2, rfl, ho2, hB2⟩; have hA12 := bstep (a := w) (by repeat (first | exact hA11 | exact Below.refl _ _ | refine balloc2 ?_ | refine Below.drew ?_)) hB2; have hD12 := bstep (a := w1) (by repeat (first | exact hD11 | exact Below.refl _ _ | refine balloc2 ?_ | refine Below.drew ?_)) hB2; have hY2 := fun p v h => cell_later hB2 (p := p) (v := v) h; obtain ⟨x0, x1, x2, x3, x4, x5, x6, x7, x8, x9, x10, x11⟩ := (l1.all hD12).twelve))
  all_goals
    have l12 := l1.all hD12
    clear x0 x1 x2 x3 x4 x5 x6 x7 x8 x9 x10 x11 hY1 hB1 hD11 hY2 hB2 hD12 ho1 hA11
    obtain ⟨x0, x1, x2, x3, x4, x5, x6, x7, x8, x9, x10, x11⟩ := l12.twelve
    go_wp2_with fail
    clear x0 x1 x2 x3 x4 x5 x6 x7 x8 x9 x10 x11
    obtain ⟨x0, x1, x2, x3, x4, x5, x6, x7, x8, x9, x10, x11⟩ := l12.twelve
    go_region_held3 (fun w' => w'.cell? ⟨w.heap.size, 3, none⟩ = some (.int .i64 o.nodeN) ∧ w'.cell? ⟨w.heap.size, 4, none⟩ = some (.int .i64 o.nodeR) ∧ w'.cell? ⟨w.heap.size, 10, none⟩ = some (.slice a3 o.text.length c3))
      (first | exact ⟨by assumption, by assumption, by assumption⟩ | go_keep)
      (first
        | (go_at_call 140; refine (unhide H3 _ (by repeat (first | exact hA12 | exact Below.refl _ _ | refine balloc2 ?_ | refine Below.drew ?_)) _ (ho2.keep (by repeat (first | exact Below.refl _ _ | exact Below.refl _ _ | refine balloc2 ?_ | refine Below.drew ?_))) _ (by first | (simp; done)) (by first | (simp; done))).mono ?_; clear H3; rintro e w13 ⟨b3, d3, rfl, ho3, hB3⟩; have hA13 := bstep (a := w) (by repeat (first | exact hA12 | exact Below.refl _ _ | refine balloc2 ?_ | refine Below.drew ?_)) hB3; have hD13 := bstep (a := w12) (by repeat (first | exact Below.refl _ _ | exact Below.refl _ _ | refine balloc2 ?_ | refine Below.drew ?_)) hB3; have hY3 := fun p v h => cell_later hB3 (p := p) (v := v) h; obtain ⟨x0, x1, x2, x3, x4, x5, x6, x7, x8, x9, x10, x11⟩ := (l12.all hD13).twelve)
        | (go_at_call 143; refine (unhide H4 _ (by repeat (first | exact hA13 | exact Below.refl _ _ | refine balloc2 ?_ | refine Below.drew ?_)) _ (ho3.keep (by repeat (first | exact Below.refl _ _ | exact Below.refl _ _ | refine balloc2 ?_ | refine Below.drew ?_)))).mono ?_; clear H4; rintro e w14 ⟨b4, d4, rfl, ho4, hB4⟩; have hA14 := bstep (a := w) (by repeat (first | exact hA13 | exact Below.refl _ _ | refine balloc2 ?_ | refine Below.drew ?_)) hB4; have hD14 := bstep (a := w12) (by repeat (first | exact hD13 | exact Below.refl _ _ | refine balloc2 ?_ | refine Below.drew ?_)) hB4; have hY4 := fun p v h => cell_later hB4 (p := p) (v := v) h; obtain ⟨x0, x1, x2, x3, x4, x5, x6, x7, x8, x9, x10, x11⟩ := (l12.all hD14).twelve))
    all_goals
      have l14 := l12.all hD14
      clear x0 x1 x2 x3 x4 x5 x6 x7 x8 x9 x10 x11 hY3 hB3 hD13 hY4 hB4 hD14 ho3 hA13
      obtain ⟨x0, x1, x2, x3, x4, x5, x6, x7, x8, x9, x10, x11⟩ := l14.twelve
      go_wp2_with fail
      clear x0 x1 x2 x3 x4 x5 x6 x7 x8 x9 x10 x11
      go_ret2
      exact ⟨b4, d4, rfl, ho4, hA14⟩

set_option maxHeartbeats 12800000 in
theorem bytesI_3 (w : World) (o : OpV) (a1 a2 a3 : Option Addr) (c1 c2 c3 : Nat) (hk : Ints w (.slice a1 o.key.length c1) o.key) (hn : Byt w (.slice a2 o.name.length c2) o.name) (ht : Byt w (.slice a3 o.text.length c3) o.text) (hs : o.key.length ≤ 2097152) (hb : opB o = true) (F1 : inR o.atN) (F2 : inR o.atR) (F3 : inR o.nodeN) (F4 : inR o.nodeR) (k0 : o.kind = 3) :
    Calls Tryz.prog 122 #[opVal o (.slice a1 o.key.length c1) (.slice a2 o.name.length c2) (.slice a3 o.text.length c3)] w fun e w' => ∃ a c, e = .returned (.tuple #[.slice a (opBytes o).length c, .bool true]) ∧ Own w' w.heap.size (.slice a (opBytes o).length c) (opBytes o) ∧ Below w.heap.size w w' := by
  have HK := hide hk
  have HM := hide hn
  have HX := hide ht
  clear hk hn ht
  have Ln : ([] : List Int).length = 0 := rfl
  have HO := hide (fun (W : World) (hW : Below w.heap.size w W) => opI_any W _ o ⟨_, _, _, rfl, (unhide HK).keep hW, (unhide HM).keep hW, (unhide HX).keep hW⟩)
  rw [hb] at HO
  clear hb
  unfold opVal at HO
  rw [k0] at HO
  obtain ⟨r1, e1⟩ : ∃ r, r = putAll ([] : List Int) 3 := ⟨_, rfl⟩
  have L1 := putAll_len ([] : List Int) 3
  have H1 := hide (fun (W : World) (hW : Below w.heap.size w W) (v : Value) (h : Own W w.heap.size v ([] : List Int)) (g : Nat) (c0 : W.cell? ⟨g, 0, none⟩ = some (.int .i64 (3))) => putNum_at W w.heap.size v ([] : List Int) 3 g h hW.size ⟨by decide, by decide⟩ c0 (by omega))
  rw [← e1] at L1 H1
  obtain ⟨r2, e2⟩ : ∃ r, r = putId r1 o.atN o.atR := ⟨_, rfl⟩
  have L2 := putId_len r1 o.atN o.atR
  have H2 := hide (fun (W : World) (hW : Below w.heap.size w W) (v : Value) (h : Own W w.heap.size v r1) (g : Nat) (c0 : W.cell? ⟨g, 0, none⟩ = some (.int .i64 o.atN)) (c1 : W.cell? ⟨g, 1, none⟩ = some (.int .i64 o.atR)) => putId_at W w.heap.size v r1 o.atN o.atR g h hW.size F1 F2 c0 c1 (by omega))
  rw [← e2] at L2 H2
  obtain ⟨r3, e3⟩ : ∃ r, r = putId r2 o.nodeN o.nodeR := ⟨_, rfl⟩
  have L3 := putId_len r2 o.nodeN o.nodeR
  have H3 := hide (fun (W : World) (hW : Below w.heap.size w W) (v : Value) (h : Own W w.heap.size v r2) (g : Nat) (c0 : W.cell? ⟨g, 0, none⟩ = some (.int .i64 o.nodeN)) (c1 : W.cell? ⟨g, 1, none⟩ = some (.int .i64 o.nodeR)) => putId_at W w.heap.size v r2 o.nodeN o.nodeR g h hW.size F3 F4 c0 c1 (by omega))
  rw [← e3] at L3 H3
  obtain ⟨r4, e4⟩ : ∃ r, r = putT r3 o.name := ⟨_, rfl⟩
  have L4 := putT_len r3 o.name
  have H4 := hide (fun (W : World) (hW : Below w.heap.size w W) (v : Value) (h : Own W w.heap.size v r3) => rw_base (putTI_own W v _ r3 o.name h.byt ((unhide HM).keep hW) (by omega)) hW.size)
  rw [← e4] at L4 H4
  obtain ⟨r5, e5⟩ : ∃ r, r = putVal r4 o.text o.gone := ⟨_, rfl⟩
  have L5 := putVal_len r4 o.text o.gone
  have H5 := hide (fun (W : World) (hW : Below w.heap.size w W) (v : Value) (h : Own W w.heap.size v r4) => putVal_any W w.heap.size v _ r4 o.text o.gone h hW.size ((unhide HX).keep hW) (by omega))
  rw [← e5] at L5 H5
  have HE := hide (show opBytes o = r5 by unfold opBytes opHd; rw [k0, if_neg (by decide), if_neg (by decide), if_neg (by decide)]; rw [e5, e4, e3, e2, e1]; unfold putVal; rfl)
  clear e5 L5 e4 L4 e3 L3 e2 L2 e1 L1
  have hA0 : Below w.heap.size w (w.alloc (.cells #[.int .i64 3, .int .i64 o.atN, .int .i64 o.atR, .int .i64 o.nodeN, .int .i64 o.nodeR, .int .i64 o.parN, .int .i64 o.parR, .slice a1 o.key.length c1, .int .i64 o.elem, .slice a2 o.name.length c2, .slice a3 o.text.length c3, .bool o.gone] 28)) := (Below.refl w.heap.size w).alloc (Nat.le_refl _) _
  have l0 := Loc.made w #[.int .i64 3, .int .i64 o.atN, .int .i64 o.atR, .int .i64 o.nodeN, .int .i64 o.nodeR, .int .i64 o.parN, .int .i64 o.parR, .slice a1 o.key.length c1, .int .i64 o.elem, .slice a2 o.name.length c2, .slice a3 o.text.length c3, .bool o.gone] 28
  rw [unhide HE]
  clear HE
  unfold opVal
  rw [k0]
  go_enter Tryz.func122, Tryz.ntmps122
  go_wp2_with fail
  generalize (w.alloc (.cells #[.int .i64 3, .int .i64 o.atN, .int .i64 o.atR, .int .i64 o.nodeN, .int .i64 o.nodeR, .int .i64 o.parN, .int .i64 o.parR, .slice a1 o.key.length c1, .int .i64 o.elem, .slice a2 o.name.length c2, .slice a3 o.text.length c3, .bool o.gone] 28)) = w0 at *
  refine (unhide HO w0 hA0).mono ?_
  clear HO
  rintro e w1 ⟨rfl, hB0⟩
  have hA1 := bstep hA0 hB0
  have l1 := l0.all hB0
  clear hA0 l0 hB0
  obtain ⟨x0, x1, x2, x3, x4, x5, x6, x7, x8, x9, x10, x11⟩ := l1.twelve
  go_wp2_with fail
  clear x0 x1 x2 x3 x4 x5 x6 x7 x8 x9 x10 x11
  obtain ⟨x0, x1, x2, x3, x4, x5, x6, x7, x8, x9, x10, x11⟩ := l1.twelve
  go_region_held3 (fun w' => w'.cell? ⟨w.heap.size, 0, none⟩ = some (.int .i64 3) ∧ w'.cell? ⟨w.heap.size, 1, none⟩ = some (.int .i64 o.atN) ∧ w'.cell? ⟨w.heap.size, 2, none⟩ = some (.int .i64 o.atR))
    (first | exact ⟨by assumption, by assumption, by assumption⟩ | go_keep)
    (first
      | (go_at_call 141; refine (unhide H1 _ (by repeat (first | exact hA1 | exact Below.refl _ _ | refine balloc2 ?_ | refine Below.drew ?_)) _ (own_nil2 _ _) _ (by first | (simp; done))).mono ?_; clear H1; rintro e w11 ⟨b1, d1, rfl, ho1, hB1⟩; have hA11 := bstep (a := w) (by repeat (first | exact hA1 | exact Below.refl _ _ | refine balloc2 ?_ | refine Below.drew ?_)) hB1; have hD11 := bstep (a := w1) (by repeat (first | exact Below.refl _ _ | exact Below.refl _ _ | refine balloc2 ?_ | refine Below.drew ?_)) hB1; have hY1 := fun p v h => cell_later hB1 (p := p) (v := v) h; obtain ⟨x0, x1, x2, x3, x4, x5, x6, x7, x8, x9, x10, x11⟩ := (l1.all hD11).twelve)
      | (go_at_call 140; refine (unhide H2 _ (by repeat (first | exact hA11 | exact Below.refl _ _ | refine balloc2 ?_ | refine Below.drew ?_)) _ (ho1.keep (by repeat (first | exact Below.refl _ _ | exact Below.refl _ _ | refine balloc2 ?_ | refine Below.drew ?_))) _ (by first | (simp; done) | exact (hY1 _ _ (by simp))) (by first | (simp; done) | exact (hY1 _ _ (by simp)))).mono ?_; clear H2; rintro e w12 ⟨b2, d2, rfl, ho2, hB2⟩; have hA12 := bstep (a := w) (by repeat (first | exact hA11 | exact Below.refl _ _ | refine balloc2 ?_ | refine Below.drew ?_)) hB2; have hD12 := bstep (a := w1) (by repeat (first | exact hD11 | exact Below.refl _ _ | refine balloc2 ?_ | refine Below.drew ?_)) hB2; have hY2 := fun p v h => cell_later hB2 (p := p) (v := v) h; obtain ⟨x0, x1, x2, x3, x4, x5, x6, x7, x8, x9, x10, x11⟩ := (l1.all hD12).twelve))
  all_goals
    have l12 := l1.all hD12
    clear x0 x1 x2 x3 x4 x5 x6 x7 x8 x9 x10 x11 hY1 hB1 hD11 hY2 hB2 hD12 ho1 hA11
    obtain ⟨x0, x1, x2, x3, x4, x5, x6, x7, x8, x9, x10, x11⟩ := l12.twelve
    go_wp2_with fail
    clear x0 x1 x2 x3 x4 x5 x6 x7 x8 x9 x10 x11
    obtain ⟨x0, x1, x2, x3, x4, x5, x6, x7, x8, x9, x10, x11⟩ := l12.twelve
    go_region_held3 (fun w' => w'.cell? ⟨w.heap.size, 3, none⟩ = some (.int .i64 o.nodeN) ∧ w'.cell? ⟨w.heap.size, 4, none⟩ = some (.int .i64 o.nodeR) ∧ w'.cell? ⟨w.heap.size, 9, none⟩ = some (.slice a2 o.name.length c2) ∧ w'.cell? ⟨w.heap.size, 10, none⟩ = some (.slice a3 o.text.length c3) ∧ w'.cell? ⟨w.heap.size, 11, none⟩ = some (.bool o.gone))
      (first | exact ⟨by assumption, by assumption, by assumption, by assumption, by assumption⟩ | go_keep)
      (first
        | (go_at_call 140; refine (unhide H3 _ (by repeat (first | exact hA12 | exact Below.refl _ _ | refine balloc2 ?_ | refine Below.drew ?_)) _ (ho2.keep (by repeat (first | exact Below.refl _ _ | exact Below.refl _ _ | refine balloc2 ?_ | refine Below.drew ?_))) _ (by first | (simp; done)) (by first | (simp; done))).mono ?_; clear H3; rintro e w13 ⟨b3, d3, rfl, ho3, hB3⟩; have hA13 := bstep (a := w) (by repeat (first | exact hA12 | exact Below.refl _ _ | refine balloc2 ?_ | refine Below.drew ?_)) hB3; have hD13 := bstep (a := w12) (by repeat (first | exact Below.refl _ _ | exact Below.refl _ _ | refine balloc2 ?_ | refine Below.drew ?_)) hB3; have hY3 := fun p v h => cell_later hB3 (p := p) (v := v) h; obtain ⟨x0, x1, x2, x3, x4, x5, x6, x7, x8, x9, x10, x11⟩ := (l12.all hD13).twelve)
        | (go_at_call 143; refine (unhide H4 _ (by repeat (first | exact hA13 | exact Below.refl _ _ | refine balloc2 ?_ | refine Below.drew ?_)) _ (ho3.keep (by repeat (first | exact Below.refl _ _ | exact Below.refl _ _ | refine balloc2 ?_ | refine Below.drew ?_)))).mono ?_; clear H4; rintro e w14 ⟨b4, d4, rfl, ho4, hB4⟩; have hA14 := bstep (a := w) (by repeat (first | exact hA13 | exact Below.refl _ _ | refine balloc2 ?_ | refine Below.drew ?_)) hB4; have hD14 := bstep (a := w12) (by repeat (first | exact hD13 | exact Below.refl _ _ | refine balloc2 ?_ | refine Below.drew ?_)) hB4; have hY4 := fun p v h => cell_later hB4 (p := p) (v := v) h; obtain ⟨x0, x1, x2, x3, x4, x5, x6, x7, x8, x9, x10, x11⟩ := (l12.all hD14).twelve)
        | (go_at_call 144; refine (unhide H5 _ (by repeat (first | exact hA14 | exact Below.refl _ _ | refine balloc2 ?_ | refine Below.drew ?_)) _ (ho4.keep (by repeat (first | exact Below.refl _ _ | exact Below.refl _ _ | refine balloc2 ?_ | refine Below.drew ?_)))).mono ?_; clear H5; rintro e w15 ⟨b5, d5, rfl, ho5, hB5⟩; have hA15 := bstep (a := w) (by repeat (first | exact hA14 | exact Below.refl _ _ | refine balloc2 ?_ | refine Below.drew ?_)) hB5; have hD15 := bstep (a := w12) (by repeat (first | exact hD14 | exact Below.refl _ _ | refine balloc2 ?_ | refine Below.drew ?_)) hB5; have hY5 := fun p v h => cell_later hB5 (p := p) (v := v) h; obtain ⟨x0, x1, x2, x3, x4, x5, x6, x7, x8, x9, x10, x11⟩ := (l12.all hD15).twelve))
    all_goals
      have l15 := l12.all hD15
      clear x0 x1 x2 x3 x4 x5 x6 x7 x8 x9 x10 x11 hY3 hB3 hD13 hY4 hB4 hD14 hY5 hB5 hD15 ho3 ho4 hA13 hA14
      obtain ⟨x0, x1, x2, x3, x4, x5, x6, x7, x8, x9, x10, x11⟩ := l15.twelve
      go_wp2_with fail
      clear x0 x1 x2 x3 x4 x5 x6 x7 x8 x9 x10 x11
      go_ret2
      exact ⟨b5, d5, rfl, ho5, hA15⟩

def obV (o : OpV) : List Int := if opB o then opBytes o else []

set_option maxHeartbeats 3200000 in
theorem bytesI_bad (w : World) (o : OpV) (a1 a2 a3 : Option Addr) (c1 c2 c3 : Nat) (hk : Ints w (.slice a1 o.key.length c1) o.key) (hn : Byt w (.slice a2 o.name.length c2) o.name) (ht : Byt w (.slice a3 o.text.length c3) o.text) (hb : opB o = false) :
    Calls Tryz.prog 122 #[opVal o (.slice a1 o.key.length c1) (.slice a2 o.name.length c2) (.slice a3 o.text.length c3)] w fun e w' => e = .returned (.tuple #[.slice none 0 0, .bool false]) ∧ Below w.heap.size w w' := by
  have hA0 : Below w.heap.size w (w.alloc (.cells #[.int .i64 o.kind, .int .i64 o.atN, .int .i64 o.atR, .int .i64 o.nodeN, .int .i64 o.nodeR, .int .i64 o.parN, .int .i64 o.parR, .slice a1 o.key.length c1, .int .i64 o.elem, .slice a2 o.name.length c2, .slice a3 o.text.length c3, .bool o.gone] 28)) := (Below.refl w.heap.size w).alloc (Nat.le_refl _) _
  have HO := hide (opI_any _ _ o ⟨_, _, _, rfl, hk.keep hA0, hn.keep hA0, ht.keep hA0⟩)
  rw [hb] at HO
  unfold opVal at HO
  have HA := hide hA0
  clear hk hn ht hA0
  unfold opVal
  go_enter Tryz.func122, Tryz.ntmps122
  go_wp2_with fail
  refine (unhide HO).mono ?_
  rintro e w1 ⟨rfl, hB⟩
  have hB1 := bstep (unhide HA) hB
  clear HA hB HO
  go_wp2_with fail
  go_ret2
  exact ⟨rfl, hB1⟩

/-- impl.OpBytes, whatever it is asked. -/
theorem bytesI_any (w : World) (v : Value) (o : OpV) (h : RdOp w v o) (hs : o.key.length ≤ 2097152) :
    Calls Tryz.prog 122 #[v] w fun e w' => ∃ a c, e = .returned (.tuple #[.slice a (obV o).length c, .bool (opB o)]) ∧ Own w' w.heap.size (.slice a (obV o).length c) (obV o) ∧ Below w.heap.size w w' := by
  obtain ⟨k, n, t, rfl, hk, hn, ht⟩ := h
  obtain ⟨a1, c1, rfl, _, _⟩ := hk.shape
  obtain ⟨a2, c2, rfl, _, _⟩ := hn.shape
  obtain ⟨a3, c3, rfl, _, _⟩ := ht.shape
  unfold obV
  cases hb : opB o with
  | false =>
    refine (bytesI_bad w o a1 a2 a3 c1 c2 c3 hk hn ht hb).mono ?_
    rintro e w' ⟨rfl, hB⟩
    exact ⟨none, 0, rfl, own_nil2 _ _, hB⟩
  | true =>
    rw [if_pos rfl]
    obtain ⟨⟨f1, f2⟩, _, h | h | h | h⟩ := opB_facts hb
    · exact bytesI_0 w o a1 a2 a3 c1 c2 c3 hk hn ht hs hb f1 f2 h.2.2.1.1 h.2.2.1.2 h.2.2.2.2.1 h.1
    · exact bytesI_1 w o a1 a2 a3 c1 c2 c3 hk hn ht hs hb f1 f2 h.2.1.1 h.2.1.2 h.2.2.1.1 h.2.2.1.2 h.1
    · exact bytesI_2 w o a1 a2 a3 c1 c2 c3 hk hn ht hs hb f1 f2 h.2.1.1 h.2.1.2 h.1
    · exact bytesI_3 w o a1 a2 a3 c1 c2 c3 hk hn ht hs hb f1 f2 h.2.1.1 h.2.1.2 h.1
end Go.Proofs.YtkmmhlimihkgfaaGreat

/- impl.copyKey, impl.copyOp. -/
namespace Go.Proofs.YtkmmhlimihkgfaaGreat
open Go.RowKit
set_option linter.unusedVariables false
set_option maxRecDepth 100000

theorem copyKey_any (w : World) (v : Value) (l : List Int) (h : Ints w v l) (hl : l.length ≤ 67108864) :
    Calls Tryz.prog 124 #[v] w fun e w' => ∃ a c, e = .returned (.slice a l.length c) ∧ OwnZ w' w.heap.size (.slice a l.length c) l ∧ Below w.heap.size w w' := by
  have HH := hide h
  obtain ⟨a, c, rfl, _, _⟩ := h.shape
  clear h
  go_enter Tryz.func124, Tryz.ntmps124
  go_wp2_with (at_builtin; refine wpList_appZ rfl _ _ rfl w.heap.size _ [] rfl (ownz_nil _ _) _ l rfl (unhide HH) ?c1 ?c2 ?_)
  case c1 => simp; omega
  case c2 => exact Nat.le_refl _
  intro v1 w1 ho hg
  try rw [List.nil_append] at ho
  obtain ⟨a1, c1, rfl, _, _⟩ := ho.ints.shape
  have hB := Below.ofGrown hg
  go_wp2_with fail
  go_ret
  exact ⟨_, _, rfl, ho, hB⟩
theorem clone_own (w : World) (v : Value) (l : List Int) (h : Byt w v l) (hl : l.length ≤ 67108864) :
    Calls Tryz.prog 125 #[v] w fun e w' => ∃ a c, e = .returned (.slice a l.length c) ∧ Own w' w.heap.size (.slice a l.length c) l ∧ Below w.heap.size w w' := by
  refine (clone_any w v l h hl).mono ?_
  rintro e w' ⟨v', rfl, ho, hB⟩
  obtain ⟨a, c, rfl, _, _⟩ := ho.byt.shape
  exact ⟨a, c, rfl, ho, hB⟩
theorem copy_fin {w x0 w1 w2 w3 : World} {o : OpV} {ak an tt a1 a2 a3 : Option Addr} {ck cn ct c1 c2 c3 : Nat} (hx0 : w.heap.size + 2 ≤ x0.heap.size) (hB0 : Below w.heap.size w x0) (lo : Loc x0 w.heap.size #[.int .i64 o.kind, .int .i64 o.atN, .int .i64 o.atR, .int .i64 o.nodeN, .int .i64 o.nodeR, .int .i64 o.parN, .int .i64 o.parR, .slice ak o.key.length ck, .int .i64 o.elem, .slice an o.name.length cn, .slice tt o.text.length ct, .bool o.gone] 28) (lr : Loc x0 (w.heap.size + 1) #[.int .i64 0, .int .i64 0, .int .i64 0, .int .i64 0, .int .i64 0, .int .i64 0, .int .i64 0, .slice none 0 0, .int .i64 0, .slice none 0 0, .slice none 0 0, .bool false] 28)
    (ho1 : OwnZ w1 x0.heap.size (.slice a1 o.key.length c1) o.key) (hB1 : Below x0.heap.size x0 w1) (ho2 : Own w2 w1.heap.size (.slice a2 o.name.length c2) o.name) (hB2 : Below w1.heap.size w1 w2) (ho3 : Own w3 w2.heap.size (.slice a3 o.text.length c3) o.text) (hB3 : Below w2.heap.size w2 w3) :
    Loc (((w3.setCell ⟨w.heap.size, 7, none⟩ (.slice a1 o.key.length c1)).setCell ⟨w.heap.size, 9, none⟩ (.slice a2 o.name.length c2)).setCell ⟨w.heap.size, 10, none⟩ (.slice a3 o.text.length c3)) w.heap.size #[.int .i64 o.kind, .int .i64 o.atN, .int .i64 o.atR, .int .i64 o.nodeN, .int .i64 o.nodeR, .int .i64 o.parN, .int .i64 o.parR, .slice a1 o.key.length c1, .int .i64 o.elem, .slice a2 o.name.length c2, .slice a3 o.text.length c3, .bool o.gone] 28 ∧ Loc (((w3.setCell ⟨w.heap.size, 7, none⟩ (.slice a1 o.key.length c1)).setCell ⟨w.heap.size, 9, none⟩ (.slice a2 o.name.length c2)).setCell ⟨w.heap.size, 10, none⟩ (.slice a3 o.text.length c3)) (w.heap.size + 1) #[.int .i64 0, .int .i64 0, .int .i64 0, .int .i64 0, .int .i64 0, .int .i64 0, .int .i64 0, .slice none 0 0, .int .i64 0, .slice none 0 0, .slice none 0 0, .bool false] 28 ∧ OwOp (((w3.setCell ⟨w.heap.size, 7, none⟩ (.slice a1 o.key.length c1)).setCell ⟨w.heap.size, 9, none⟩ (.slice a2 o.name.length c2)).setCell ⟨w.heap.size, 10, none⟩ (.slice a3 o.text.length c3)) (w.heap.size + 2) o (.slice a1 o.key.length c1) (.slice a2 o.name.length c2) (.slice a3 o.text.length c3) ∧ Below w.heap.size w (((w3.setCell ⟨w.heap.size, 7, none⟩ (.slice a1 o.key.length c1)).setCell ⟨w.heap.size, 9, none⟩ (.slice a2 o.name.length c2)).setCell ⟨w.heap.size, 10, none⟩ (.slice a3 o.text.length c3)) := by
  have hB13 := bstep (bstep hB1 hB2) hB3
  have hsS : w3.grownBy (((w3.setCell ⟨w.heap.size, 7, none⟩ (.slice a1 o.key.length c1)).setCell ⟨w.heap.size, 9, none⟩ (.slice a2 o.name.length c2)).setCell ⟨w.heap.size, 10, none⟩ (.slice a3 o.text.length c3)) (some w.heap.size) := grown_trans (grown_trans (setGO w3 w.heap.size 7 (.slice a1 o.key.length c1)) (setGO _ w.heap.size 9 (.slice a2 o.name.length c2))) (setGO _ w.heap.size 10 (.slice a3 o.text.length c3))
  have z1 := hB1.size
  have z2 := hB2.size
  have z3 := hB3.size
  have k1 := (ho1.keep hB2).keep hB3
  have k2 := ho2.keep hB3
  refine ⟨(((lo.all hB13).set 7 _).set 9 _).set 10 _, (lr.all hB13).frm (Frm.ofGrown hsS) (by simp), ⟨(k1.mono (by omega)).keepBy hsS (.inr (fun e => by have := (k1.lt w.heap.size e).1; omega)), (k2.mono (by omega)).keepBy hsS (.inr (fun e => by have := (k2.lt w.heap.size e).1; omega)), (ho3.mono (by omega)).keepBy hsS (.inr (fun e => by have := (ho3.lt w.heap.size e).1; omega)), ?_⟩, bstepBy (bstep hB0 hB13) hsS (fun q hq => by cases hq; exact Nat.le_refl _)⟩
  have d1 : Rng (FB (.slice a1 o.key.length c1)) x0.heap.size w1.heap.size := fun q hq => ho1.lt q (by simpa [FB] using hq)
  exact nodup_app (lo := 0) (nodup_app (FB_nodup _) (FB_nodup _) d1 ho2.rng) (FB_nodup _) ((d1.mono (Nat.zero_le _) (by omega)).app (ho2.rng.mono (Nat.zero_le _) (Nat.le_refl _))) ho3.rng

set_option maxHeartbeats 12800000 in
theorem copyOp_any (w : World) (v : Value) (o : OpV) (h : RdOp w v o) (hs : szO o ≤ 4000000) :
    Calls Tryz.prog 91 #[v] w fun e w' => ∃ a1 c1 a2 c2 a3 c3, e = .returned (opVal o (.slice a1 o.key.length c1) (.slice a2 o.name.length c2) (.slice a3 o.text.length c3)) ∧ OwOp w' w.heap.size o (.slice a1 o.key.length c1) (.slice a2 o.name.length c2) (.slice a3 o.text.length c3) ∧ Below w.heap.size w w' := by
  unfold szO at hs
  obtain ⟨k, n, t, rfl, hk0, hn0, ht0⟩ := h
  obtain ⟨ak, ck, rfl, _, _⟩ := hk0.shape
  obtain ⟨an, cn, rfl, _, _⟩ := hn0.shape
  obtain ⟨tt, ct, rfl, _, _⟩ := ht0.shape
  have HK := hide (fun W (hW : Below w.heap.size w W) => hk0.keep hW)
  have HN := hide (fun W (hW : Below w.heap.size w W) => hn0.keep hW)
  have HX := hide (fun W (hW : Below w.heap.size w W) => ht0.keep hW)
  clear hk0 hn0 ht0
  have l0 := Loc.made w #[.int .i64 o.kind, .int .i64 o.atN, .int .i64 o.atR, .int .i64 o.nodeN, .int .i64 o.nodeR, .int .i64 o.parN, .int .i64 o.parR, .slice ak o.key.length ck, .int .i64 o.elem, .slice an o.name.length cn, .slice tt o.text.length ct, .bool o.gone] 28
  have hA := (Below.refl w.heap.size w).alloc (Nat.le_refl _) (.cells #[.int .i64 o.kind, .int .i64 o.atN, .int .i64 o.atR, .int .i64 o.nodeN, .int .i64 o.nodeR, .int .i64 o.parN, .int .i64 o.parR, .slice ak o.key.length ck, .int .i64 o.elem, .slice an o.name.length cn, .slice tt o.text.length ct, .bool o.gone] 28)
  have hsz : (w.alloc (.cells #[.int .i64 o.kind, .int .i64 o.atN, .int .i64 o.atR, .int .i64 o.nodeN, .int .i64 o.nodeR, .int .i64 o.parN, .int .i64 o.parR, .slice ak o.key.length ck, .int .i64 o.elem, .slice an o.name.length cn, .slice tt o.text.length ct, .bool o.gone] 28)).heap.size = w.heap.size + 1 := by simp
  have lr := Loc.made (w.alloc (.cells #[.int .i64 o.kind, .int .i64 o.atN, .int .i64 o.atR, .int .i64 o.nodeN, .int .i64 o.nodeR, .int .i64 o.parN, .int .i64 o.parR, .slice ak o.key.length ck, .int .i64 o.elem, .slice an o.name.length cn, .slice tt o.text.length ct, .bool o.gone] 28)) #[.int .i64 0, .int .i64 0, .int .i64 0, .int .i64 0, .int .i64 0, .int .i64 0, .int .i64 0, .slice none 0 0, .int .i64 0, .slice none 0 0, .slice none 0 0, .bool false] 28
  rw [hsz] at lr
  have lo := l0.alloc (.cells #[.int .i64 0, .int .i64 0, .int .i64 0, .int .i64 0, .int .i64 0, .int .i64 0, .int .i64 0, .slice none 0 0, .int .i64 0, .slice none 0 0, .slice none 0 0, .bool false] 28)
  have hB := hA.alloc (by simp) (.cells #[.int .i64 0, .int .i64 0, .int .i64 0, .int .i64 0, .int .i64 0, .int .i64 0, .int .i64 0, .slice none 0 0, .int .i64 0, .slice none 0 0, .slice none 0 0, .bool false] 28)
  clear l0 hA hsz
  unfold opVal
  refine calls_via ?_
  intro Q HQ
  have H1 := hide (fun W hW => copyKey_any W _ o.key (unhide HK W hW) (by omega))
  have H2 := hide (fun W hW => clone_own W _ o.name (unhide HN W hW) (by omega))
  have H3 := hide (fun W hW => clone_own W _ o.text (unhide HX W hW) (by omega))
  clear HK HN HX
  have LL := hide (And.intro lo (And.intro lr hB))
  clear lo lr hB
  go_enter Tryz.func91, Tryz.ntmps91
  go_upto_region 1 with fail
  obtain ⟨lo, lr, hB⟩ := unhide LL
  clear LL
  generalize ((w.alloc (.cells #[.int .i64 o.kind, .int .i64 o.atN, .int .i64 o.atR, .int .i64 o.nodeN, .int .i64 o.nodeR, .int .i64 o.parN, .int .i64 o.parR, .slice ak o.key.length ck, .int .i64 o.elem, .slice an o.name.length cn, .slice tt o.text.length ct, .bool o.gone] 28)).alloc (.cells #[.int .i64 0, .int .i64 0, .int .i64 0, .int .i64 0, .int .i64 0, .int .i64 0, .int .i64 0, .slice none 0 0, .int .i64 0, .slice none 0 0, .slice none 0 0, .bool false] 28)) = x0 at *
  have hlo := lo.lt
  have hlr := lr.lt
  go_cut [] from 3 to 14 (fun wx => ∃ a1 c1 a2 c2 a3 c3, Loc wx w.heap.size #[.int .i64 o.kind, .int .i64 o.atN, .int .i64 o.atR, .int .i64 o.nodeN, .int .i64 o.nodeR, .int .i64 o.parN, .int .i64 o.parR, .slice a1 o.key.length c1, .int .i64 o.elem, .slice a2 o.name.length c2, .slice a3 o.text.length c3, .bool o.gone] 28 ∧ Loc wx (w.heap.size + 1) #[.int .i64 0, .int .i64 0, .int .i64 0, .int .i64 0, .int .i64 0, .int .i64 0, .int .i64 0, .slice none 0 0, .int .i64 0, .slice none 0 0, .slice none 0 0, .bool false] 28 ∧ OwOp wx (w.heap.size + 2) o (.slice a1 o.key.length c1) (.slice a2 o.name.length c2) (.slice a3 o.text.length c3) ∧ Below w.heap.size w wx)
  case first =>
    have HB0 := hide hB
    have HLR := hide lr
    have hx0 : w.heap.size + 2 ≤ x0.heap.size := by omega
    clear hB lr
    have q7 := lo.cell 7
    have q9 := lo.cell 9
    have q10 := lo.cell 10
    simp only [List.getElem?_toArray, List.getElem?_cons_succ, List.getElem?_cons_zero] at q7 q9 q10
    have f7 := lo.frozen 7
    have f9 := lo.frozen 9
    have f10 := lo.frozen 10
    have HLO := hide lo
    clear lo
    go_region_with (first
      | (go_at_call 124; refine (unhide H1 _ (bstep (unhide HB0) ((Below.refl _ _).drew))).mono ?_; clear H1; rintro e w1 ⟨a1, c1, rfl, ho1, hB1⟩; have hK1 := bstep ((Below.refl x0.heap.size x0).drew) hB1; have q7 := ((unhide HLO).all hK1).cell 7; have q9 := ((unhide HLO).all hK1).cell 9; have q10 := ((unhide HLO).all hK1).cell 10; simp only [List.getElem?_toArray, List.getElem?_cons_succ, List.getElem?_cons_zero] at q7 q9 q10; have f7 := ((unhide HLO).all hK1).frozen 7; have f9 := ((unhide HLO).all hK1).frozen 9; have f10 := ((unhide HLO).all hK1).frozen 10)
      | (go_at_call 125; refine (unhide H2 _ (bstep (unhide HB0) hK1)).mono ?_; clear H2; rintro e w2 ⟨a2, c2, rfl, ho2, hB2⟩; have hK2 := bstep hK1 hB2; have q7 := ((unhide HLO).all hK2).cell 7; have q9 := ((unhide HLO).all hK2).cell 9; have q10 := ((unhide HLO).all hK2).cell 10; simp only [List.getElem?_toArray, List.getElem?_cons_succ, List.getElem?_cons_zero] at q7 q9 q10; have f7 := ((unhide HLO).all hK2).frozen 7; have f9 := ((unhide HLO).all hK2).frozen 9; have f10 := ((unhide HLO).all hK2).frozen 10)
      | (go_at_call 125; refine (unhide H3 _ (bstep (unhide HB0) hK2)).mono ?_; clear H3; rintro e w3 ⟨a3, c3, rfl, ho3, hB3⟩; have hK3 := bstep hK2 hB3; have q7 := ((unhide HLO).all hK3).cell 7; have q9 := ((unhide HLO).all hK3).cell 9; have q10 := ((unhide HLO).all hK3).cell 10; simp only [List.getElem?_toArray, List.getElem?_cons_succ, List.getElem?_cons_zero] at q7 q9 q10; have f7 := ((unhide HLO).all hK3).frozen 7; have f9 := ((unhide HLO).all hK3).frozen 9; have f10 := ((unhide HLO).all hK3).frozen 10))
    all_goals
      go_wp2_with fail
      go_meet
      exact ⟨_, _, _, _, _, _, copy_fin hx0 (unhide HB0) (unhide HLO) (unhide HLR) ho1 hK1 ho2 hB2 ho3 hB3⟩
  case rest =>
  obtain ⟨a1, c1, a2, c2, a3, c3, lo, lr, hOw, hB⟩ := hcut
  obtain ⟨hk, hn, ht, hnd⟩ := hOw
  clear H1 H2 H3
  have lrz : Loc ((((((((((((wc.setCell ⟨(w.heap.size + 1), 0, none⟩ (.int .i64 o.kind)).setCell ⟨(w.heap.size + 1), 1, none⟩ (.int .i64 o.atN)).setCell ⟨(w.heap.size + 1), 2, none⟩ (.int .i64 o.atR)).setCell ⟨(w.heap.size + 1), 3, none⟩ (.int .i64 o.nodeN)).setCell ⟨(w.heap.size + 1), 4, none⟩ (.int .i64 o.nodeR)).setCell ⟨(w.heap.size + 1), 5, none⟩ (.int .i64 o.parN)).setCell ⟨(w.heap.size + 1), 6, none⟩ (.int .i64 o.parR)).setCell ⟨(w.heap.size + 1), 7, none⟩ (.slice a1 o.key.length c1)).setCell ⟨(w.heap.size + 1), 8, none⟩ (.int .i64 o.elem)).setCell ⟨(w.heap.size + 1), 9, none⟩ (.slice a2 o.name.length c2)).setCell ⟨(w.heap.size + 1), 10, none⟩ (.slice a3 o.text.length c3)).setCell ⟨(w.heap.size + 1), 11, none⟩ (.bool o.gone)) (w.heap.size + 1) #[.int .i64 o.kind, .int .i64 o.atN, .int .i64 o.atR, .int .i64 o.nodeN, .int .i64 o.nodeR, .int .i64 o.parN, .int .i64 o.parR, .slice a1 o.key.length c1, .int .i64 o.elem, .slice a2 o.name.length c2, .slice a3 o.text.length c3, .bool o.gone] 28 := set_twelve lr (.int .i64 o.kind) (.int .i64 o.atN) (.int .i64 o.atR) (.int .i64 o.nodeN) (.int .i64 o.nodeR) (.int .i64 o.parN) (.int .i64 o.parR) (.slice a1 o.key.length c1) (.int .i64 o.elem) (.slice a2 o.name.length c2) (.slice a3 o.text.length c3) (.bool o.gone)
  have hsR : wc.grownBy ((((((((((((wc.setCell ⟨(w.heap.size + 1), 0, none⟩ (.int .i64 o.kind)).setCell ⟨(w.heap.size + 1), 1, none⟩ (.int .i64 o.atN)).setCell ⟨(w.heap.size + 1), 2, none⟩ (.int .i64 o.atR)).setCell ⟨(w.heap.size + 1), 3, none⟩ (.int .i64 o.nodeN)).setCell ⟨(w.heap.size + 1), 4, none⟩ (.int .i64 o.nodeR)).setCell ⟨(w.heap.size + 1), 5, none⟩ (.int .i64 o.parN)).setCell ⟨(w.heap.size + 1), 6, none⟩ (.int .i64 o.parR)).setCell ⟨(w.heap.size + 1), 7, none⟩ (.slice a1 o.key.length c1)).setCell ⟨(w.heap.size + 1), 8, none⟩ (.int .i64 o.elem)).setCell ⟨(w.heap.size + 1), 9, none⟩ (.slice a2 o.name.length c2)).setCell ⟨(w.heap.size + 1), 10, none⟩ (.slice a3 o.text.length c3)).setCell ⟨(w.heap.size + 1), 11, none⟩ (.bool o.gone)) (some (w.heap.size + 1)) := grow_twelve _ _ (.int .i64 o.kind) (.int .i64 o.atN) (.int .i64 o.atR) (.int .i64 o.nodeN) (.int .i64 o.nodeR) (.int .i64 o.parN) (.int .i64 o.parR) (.slice a1 o.key.length c1) (.int .i64 o.elem) (.slice a2 o.name.length c2) (.slice a3 o.text.length c3) (.bool o.gone)
  have hO9 : OwOp _ (w.heap.size + 2) o _ _ _ := ⟨hk.keepBy hsR (.inr (fun e => by have := (hk.lt _ e).1; omega)), hn.keepBy hsR (.inr (fun e => by have := (hn.lt _ e).1; omega)), ht.keepBy hsR (.inr (fun e => by have := (ht.lt _ e).1; omega)), hnd⟩
  have hB9 := bstepBy hB hsR (fun q hq => by cases hq; omega)
  obtain ⟨y0, y1, y2, y3, y4, y5, y6, y7, y8, y9, y10, y11⟩ := lo.twelve
  obtain ⟨z0, z1, z2, z3, z4, z5, z6, z7, z8, z9, z10, z11⟩ := lr.twelve
  have g0 := lr.frozen 0
  have g1 := lr.frozen 1
  have g2 := lr.frozen 2
  have g3 := lr.frozen 3
  have g4 := lr.frozen 4
  have g5 := lr.frozen 5
  have g6 := lr.frozen 6
  have g7 := lr.frozen 7
  have g8 := lr.frozen 8
  have g9 := lr.frozen 9
  have g10 := lr.frozen 10
  have g11 := lr.frozen 11
  have KK := hide (And.intro lrz (And.intro hO9 hB9))
  clear lrz hsR hO9 hB9 lr lo hk hn ht hnd hB
  go_upto_region 2 with fail
  go_cut [] from 15 to 15 (fun wx => ∃ (k n t : Value), Loc wx (w.heap.size + 1) #[.int .i64 o.kind, .int .i64 o.atN, .int .i64 o.atR, .int .i64 o.nodeN, .int .i64 o.nodeR, .int .i64 o.parN, .int .i64 o.parR, k, .int .i64 o.elem, n, t, .bool o.gone] 28 ∧ OwOp wx (w.heap.size + 2) o k n t ∧ Below w.heap.size w wx)
  case first =>
    go_wp2_with fail
    go_meet
    exact ⟨_, _, _, unhide KK⟩
  case rest =>
    obtain ⟨k9, n9, t9, hL, hO9, hB9⟩ := hcut
    obtain ⟨e0, e1, e2, e3, e4, e5, e6, e7, e8, e9, e10, e11⟩ := hL.twelve
    clear KK hL z0 z1 z2 z3 z4 z5 z6 z7 z8 z9 z10 z11 y0 y1 y2 y3 y4 y5 y6 y7 y8 y9 y10 y11 g0 g1 g2 g3 g4 g5 g6 g7 g8 g9 g10 g11
    obtain ⟨a7, c7, rfl, _, _⟩ := hO9.1.ints.shape
    obtain ⟨a8, c8, rfl, _, _⟩ := hO9.2.1.byt.shape
    obtain ⟨a9, c9, rfl, _, _⟩ := hO9.2.2.1.byt.shape
    have K9 := hide (And.intro (show OwOp _ (w.heap.size) o _ _ _ from ⟨hO9.1.mono (by omega), hO9.2.1.mono (by omega), hO9.2.2.1.mono (by omega), hO9.2.2.2⟩) hB9)
    clear hO9 hB9
    go_wp2_with fail
    exact bodyPost_ret (v := .agg #[.int .i64 o.kind, .int .i64 o.atN, .int .i64 o.atR, .int .i64 o.nodeN, .int .i64 o.nodeR, .int .i64 o.parN, .int .i64 o.parR, .slice a7 o.key.length c7, .int .i64 o.elem, .slice a8 o.name.length c8, .slice a9 o.text.length c9, .bool o.gone]) (by simp [results, Tryz.results91, go_sem, e0, e1, e2, e3, e4, e5, e6, e7, e8, e9, e10, e11]) rfl (unhide HQ _ _ ⟨_, _, _, _, _, _, rfl, unhide K9⟩)
end Go.Proofs.YtkmmhlimihkgfaaGreat

/- impl.copyOps. -/
namespace Go.Proofs.YtkmmhlimihkgfaaGreat
open Go.RowKit
set_option linter.unusedVariables false
set_option maxRecDepth 100000

set_option maxHeartbeats 12800000 in
theorem copyOps_any (w : World) (v : Value) (l : List OpV) (h : RdOps w v l) (hl : l.length ≤ 4194304) (hx : ∀ x ∈ l, szO x ≤ 4000000) :
    Calls Tryz.prog 41 #[v] w fun e w' => ∃ u, e = .returned u ∧ ∃ F, OwOps w' u l F ∧ F.Nodup ∧ Rng F w.heap.size w'.heap.size ∧ Below w.heap.size w w' := by
  obtain ⟨i0, hi, hz0, hz1, hz2⟩ := info_parts Tryz.info28
  have hm : (l.length : Int) ≤ 9223372036854775807 := by omega
  have HAT := hide (fun W (hW : Below w.heap.size w W) j (hj : j < l.length) => (show ∃ b off cap, v = .slice (some ⟨b, off, none⟩) l.length cap ∧ b < w.heap.size ∧ ∃ C : List Value, C.length = 12 ∧ (∀ i, i < 12 → w.cell? ⟨b, off + j * 12 + i, none⟩ = C[i]?) ∧ RdOpC w C l[j] by
    obtain ⟨_, ⟨_, e⟩ | ⟨_, _, _, _, e⟩ | ⟨b, off, cap, rfl, g1, g2, g3, g4, g5⟩⟩ := h
    · subst e; simp at hj
    · subst e; simp at hj
    · exact ⟨b, off, cap, rfl, g4, g5 j hj⟩))
  obtain ⟨av, cv, rfl, _, _⟩ := Elems.shape h
  clear h
  go_enter Tryz.func41, Tryz.ntmps41
  go_wp2_with fail
  go_loopw [3, 5, 8] (fun b _ i wr => ∃ j : Nat, j ≤ l.length ∧ i = .int .i64 j ∧ ∃ F, OwOps wr b (l.take j) F ∧ F.Nodup ∧ Rng F w.heap.size wr.heap.size ∧ Below w.heap.size w wr) (fun _ _ i _ => l.length - (intOf i).toNat)
  case atStart => exact ⟨0, Nat.zero_le _, rfl, [], ⟨[], [], by simp, by simp, fun i hi => by simp at hi, World.ownsRow_nil _ _ _ _, rfl⟩, List.nodup_nil, fun g hg => by simp at hg, Below.refl _ _⟩
  case round =>
    obtain ⟨j, hj, rfl, F, hF, hN, hRg, hB⟩ := hrel
    by_cases hjl : j < l.length
    · have hst : l.take (j + 1) = l.take j ++ [l[j]] := List.take_succ_eq_append_getElem hjl
      have hlj : (l.take j).length = j := by rw [List.length_take]; omega
      obtain ⟨pb, poff, pcap, epv, hpl, hel⟩ := unhide HAT wr hB j hjl
      cases epv
      obtain ⟨a1, c1, a2, c2, a3, c3, e0, e1, e2, e3, e4, e5, e6, e7, e8, e9, e10, e11, hro⟩ := opc_at hB hpl hel
      have hxo := hx _ (List.getElem_mem hjl)
      have HST := hide hst
      generalize l[j] = o at *
      clear hst hel
      have hAo := (Below.refl wr.heap.size wr).alloc (Nat.le_refl _) (.cells #[.int .i64 o.kind, .int .i64 o.atN, .int .i64 o.atR, .int .i64 o.nodeN, .int .i64 o.nodeR, .int .i64 o.parN, .int .i64 o.parR, .slice a1 o.key.length c1, .int .i64 o.elem, .slice a2 o.name.length c2, .slice a3 o.text.length c3, .bool o.gone] 28)
      have lOo := Loc.made wr #[.int .i64 o.kind, .int .i64 o.atN, .int .i64 o.atR, .int .i64 o.nodeN, .int .i64 o.nodeR, .int .i64 o.parN, .int .i64 o.parR, .slice a1 o.key.length c1, .int .i64 o.elem, .slice a2 o.name.length c2, .slice a3 o.text.length c3, .bool o.gone] 28
      have HL := hide (copyOp_any _ _ o (hro.keep hAo) hxo)
      unfold opVal at HL
      clear hro hxo
      have hjl' : (j : Int) < (l.length : Int) := by omega
      have hj0 : (0 : Int) ≤ (j : Int) := by omega
      have HF := hide hF
      have HN := hide hN
      have HR := hide hRg
      clear hF hN hRg
      obtain ⟨x0, x1, x2, x3, x4, x5, x6, x7, x8, x9, x10, x11⟩ := lOo.twelve
      have HAO := hide hAo
      clear hAo lOo
      go_wp2_with fail
      clear e0 e1 e2 e3 e4 e5 e6 e7 e8 e9 e10 e11 x0 x1 x2 x3 x4 x5 x6 x7 x8 x9 x10 x11
      have hAo := unhide HAO
      clear HAO
      generalize (wr.alloc (.cells #[.int .i64 o.kind, .int .i64 o.atN, .int .i64 o.atR, .int .i64 o.nodeN, .int .i64 o.nodeR, .int .i64 o.parN, .int .i64 o.parR, .slice a1 o.key.length c1, .int .i64 o.elem, .slice a2 o.name.length c2, .slice a3 o.text.length c3, .bool o.gone] 28)) = wb at *
      refine (unhide HL).mono ?_
      rintro e w2 ⟨b1, d1, b2, d2, b3, d3, rfl, hO', hB2'⟩
      have hsb := hAo.size
      have hO : OwOp w2 wr.heap.size o _ _ _ := ⟨hO'.1.mono hsb, hO'.2.1.mono hsb, hO'.2.2.1.mono hsb, hO'.2.2.2⟩
      have hB2 := bstep hAo hB2'
      clear hO' hB2' hAo
      have hAe := (Below.refl w2.heap.size w2).alloc (Nat.le_refl _) (.cells #[.int .i64 o.kind, .int .i64 o.atN, .int .i64 o.atR, .int .i64 o.nodeN, .int .i64 o.nodeR, .int .i64 o.parN, .int .i64 o.parR, .slice b1 o.key.length d1, .int .i64 o.elem, .slice b2 o.name.length d2, .slice b3 o.text.length d3, .bool o.gone] 28)
      have lE := Loc.made w2 #[.int .i64 o.kind, .int .i64 o.atN, .int .i64 o.atR, .int .i64 o.nodeN, .int .i64 o.nodeR, .int .i64 o.parN, .int .i64 o.parR, .slice b1 o.key.length d1, .int .i64 o.elem, .slice b2 o.name.length d2, .slice b3 o.text.length d3, .bool o.gone] 28
      have hFr := OwOps.lt (unhide HF)
      have hrO : Rng (FB (.slice b1 o.key.length d1) ++ FB (.slice b2 o.name.length d2) ++ FB (.slice b3 o.text.length d3)) wr.heap.size w2.heap.size := by
        have h1 : Rng (FB (.slice b1 o.key.length d1)) wr.heap.size w2.heap.size := fun g hg => hO.1.lt g (by simpa [FB] using hg)
        exact (h1.app hO.2.1.rng).app hO.2.2.1.rng
      have HP := hide (show OwElems (w2.alloc (.cells #[.int .i64 o.kind, .int .i64 o.atN, .int .i64 o.atR, .int .i64 o.nodeN, .int .i64 o.nodeR, .int .i64 o.parN, .int .i64 o.parR, .slice b1 o.key.length d1, .int .i64 o.elem, .slice b2 o.name.length d2, .slice b3 o.text.length d3, .bool o.gone] 28)) 28 12 _ (l.take j) (OwOpC (w2.alloc (.cells #[.int .i64 o.kind, .int .i64 o.atN, .int .i64 o.atR, .int .i64 o.nodeN, .int .i64 o.nodeR, .int .i64 o.parN, .int .i64 o.parR, .slice b1 o.key.length d1, .int .i64 o.elem, .slice b2 o.name.length d2, .slice b3 o.text.length d3, .bool o.gone] 28))) F ∧ F.Nodup ∧ (∀ i u, ([.int .i64 o.kind, .int .i64 o.atN, .int .i64 o.atR, .int .i64 o.nodeN, .int .i64 o.nodeR, .int .i64 o.parN, .int .i64 o.parR, .slice b1 o.key.length d1, .int .i64 o.elem, .slice b2 o.name.length d2, .slice b3 o.text.length d3, .bool o.gone] : List Value)[i]? = some u → (w2.alloc (.cells #[.int .i64 o.kind, .int .i64 o.atN, .int .i64 o.atR, .int .i64 o.nodeN, .int .i64 o.nodeR, .int .i64 o.parN, .int .i64 o.parR, .slice b1 o.key.length d1, .int .i64 o.elem, .slice b2 o.name.length d2, .slice b3 o.text.length d3, .bool o.gone] 28)).cell? ((⟨w2.heap.size, 0, none⟩ : Addr).add i) = some u) ∧ OwOpC (w2.alloc (.cells #[.int .i64 o.kind, .int .i64 o.atN, .int .i64 o.atR, .int .i64 o.nodeN, .int .i64 o.nodeR, .int .i64 o.parN, .int .i64 o.parR, .slice b1 o.key.length d1, .int .i64 o.elem, .slice b2 o.name.length d2, .slice b3 o.text.length d3, .bool o.gone] 28)) [.int .i64 o.kind, .int .i64 o.atN, .int .i64 o.atR, .int .i64 o.nodeN, .int .i64 o.nodeR, .int .i64 o.parN, .int .i64 o.parR, .slice b1 o.key.length d1, .int .i64 o.elem, .slice b2 o.name.length d2, .slice b3 o.text.length d3, .bool o.gone] o (FB (.slice b1 o.key.length d1) ++ FB (.slice b2 o.name.length d2) ++ FB (.slice b3 o.text.length d3)) ∧ (FB (.slice b1 o.key.length d1) ++ FB (.slice b2 o.name.length d2) ++ FB (.slice b3 o.text.length d3)).Nodup ∧ (∀ g ∈ F, g ∉ (FB (.slice b1 o.key.length d1) ++ FB (.slice b2 o.name.length d2) ++ FB (.slice b3 o.text.length d3))) ∧ (∀ q, q ∈ F ∨ q ∈ (FB (.slice b1 o.key.length d1) ++ FB (.slice b2 o.name.length d2) ++ FB (.slice b3 o.text.length d3)) → q < (w2.alloc (.cells #[.int .i64 o.kind, .int .i64 o.atN, .int .i64 o.atR, .int .i64 o.nodeN, .int .i64 o.nodeR, .int .i64 o.parN, .int .i64 o.parR, .slice b1 o.key.length d1, .int .i64 o.elem, .slice b2 o.name.length d2, .slice b3 o.text.length d3, .bool o.gone] 28)).heap.size) from
        ⟨OwOps.frm (unhide HF) (Frm.ofBelow (bstep hB2 hAe) []) (fun _ _ => by simp), unhide HN, fun i u hiu => by rw [add_plain, Nat.zero_add, lE.cell i]; simpa using hiu, ⟨_, _, _, rfl, (hO.1.mono (Nat.zero_le _)).keep hAe, (hO.2.1.mono (Nat.zero_le _)).keep hAe, (hO.2.2.1.mono (Nat.zero_le _)).keep hAe, rfl⟩, hO.2.2.2, fun g hg hm => by have := hFr g hg; have := (hrO g hm).1; omega, fun q hq => by
          have hs := hAe.size
          have hs2 := hB2.size
          rcases hq with hq | hq
          · have := hFr q hq; omega
          · have := (hrO q hq).2; omega⟩)
      have HB2 := hide (And.intro (bstep (bstep hB hB2) hAe) (And.intro hrO (And.intro hAe.size hB2.size)))
      have hwE : (w2.alloc (.cells #[.int .i64 o.kind, .int .i64 o.atN, .int .i64 o.atR, .int .i64 o.nodeN, .int .i64 o.nodeR, .int .i64 o.parN, .int .i64 o.parR, .slice b1 o.key.length d1, .int .i64 o.elem, .slice b2 o.name.length d2, .slice b3 o.text.length d3, .bool o.gone] 28)).heap.size = w2.heap.size + 1 := by simp
      have HWE := hide hwE
      clear hAe lE hrO hO hFr HL hB2 hwE
      go_wp2_with (at_builtin; refine wpList_push (R := OwOpC) (fun h f d => OwOpC.frm h f d) rfl _ _ 23 rfl 28 i0 (.agg #[.int .i64 0, .int .i64 0, .int .i64 0, .int .i64 0, .int .i64 0, .int .i64 0, .int .i64 0, .slice none 0 0, .int .i64 0, .slice none 0 0, .slice none 0 0, .bool false]) 12 144 Tryz.underlying23 hi hz0 hz1 hz2 rfl (by decide) _ (l.take j) F rfl (unhide HP).1 (unhide HP).2.1 ⟨w2.heap.size, 0, none⟩ 1 [.int .i64 o.kind, .int .i64 o.atN, .int .i64 o.atR, .int .i64 o.nodeN, .int .i64 o.nodeR, .int .i64 o.parN, .int .i64 o.parR, .slice b1 o.key.length d1, .int .i64 o.elem, .slice b2 o.name.length d2, .slice b3 o.text.length d3, .bool o.gone] o (FB (.slice b1 o.key.length d1) ++ FB (.slice b2 o.name.length d2) ++ FB (.slice b3 o.text.length d3)) rfl rfl (unhide HP).2.2.1 ?c0 (unhide HP).2.2.2.1 (unhide HP).2.2.2.2.1 (unhide HP).2.2.2.2.2.1 (unhide HP).2.2.2.2.2.2 ?c1 ?c2 ?_)
      case c0 => intro y hy; simp at hy; rcases hy with rfl | rfl | rfl | rfl | rfl | rfl | rfl | rfl | rfl | rfl | rfl | rfl <;> rfl
      case c1 => rw [hlj]; unfold maxLen; omega
      case c2 => rw [hlj]; omega
      intro g9 cap9 w9 F9 hF9 hN9 hM9 hf9 hg9
      obtain ⟨hW4, hrO, hs4, hs2⟩ := unhide HB2
      have hwE := unhide HWE
      have hBs := hB.size
      have hW9 : Below w.heap.size w w9 := hW4.trans (hf9.below hW4.size (fun q hq => (unhide HR q (by obtain ⟨Cs, Fs, _, _, _, _, rfl⟩ := unhide HF; exact List.mem_append_left _ hq)).1))
      have HO9 := hide (show OwOps w9 (.slice (some ⟨g9, 0, none⟩) (j + 1) cap9) (l.take (j + 1)) F9 by
        rw [unhide HST]
        try rw [hlj] at hF9
        exact hF9)
      have HR9 := hide (show Rng F9 w.heap.size w9.heap.size from fun q hq => ⟨by
        rcases hM9 q hq with k | k | k
        · exact (unhide HR q k).1
        · have := (hrO q (by simpa using k)).1; omega
        · omega, OwOps.lt (unhide HO9) q hq⟩)
      have HN9 := hide hN9
      try rw [hlj]
      clear hF9 hM9 hN9 hf9 hW4 hrO hwE
      have HW9 := hide hW9
      clear hW9
      go_wp2_with fail
      go_roundw
      case rel => exact ⟨j + 1, by omega, by go_num, F9, unhide HO9, unhide HN9, unhide HR9, unhide HW9⟩
      case measure => simp [intOf]; omega
    · have e : j = l.length := by omega
      subst e
      rw [List.take_length] at hF
      have HH := hide (And.intro hF (And.intro hN (And.intro hRg hB)))
      clear hF hN hRg
      go_wp2_with fail
      go_ret
      exact ⟨_, rfl, F, unhide HH⟩
end Go.Proofs.YtkmmhlimihkgfaaGreat

/- 'copy(dst, src)' of elements of several cells, dst lying in a block that is known whole. No program. -/
namespace Go.Proofs.YtkmmhlimihkgfaaGreat
open Go.RowKit
set_option linter.unusedVariables false

theorem run_copy_wide {P : Program} (w : World) (dT sT ty elem : TypeId) (s g o dLen dCap : Nat) (a : Addr) (sLen sCap : Nat) (cur : Array Value) (t : TypeId) (cs : List Value) (n : Nat)
    (hu : P.underlying dT = some (.slice elem)) (hs : (P.info? elem).map (·.size) = some s) (hg : w.heap[g]? = some (.cells cur t (0, 0))) (hn : n = Nat.min sLen dLen) (hcl : cs.length = n * s)
    (hsrc : ∀ j v, cs[j]? = some v → w.cell? (a.add j) = some v) (hfit : o + cs.length ≤ cur.size) (h1 : ∀ v ∈ cs, v.oneCell' = true) :
    (Builtin.copy_ #[dT, sT] ty #[.slice (some ⟨g, o, none⟩) dLen dCap, .slice (some a) sLen sCap]).run P w = .ok (goInt n) (w.setRow g (cur.toList.take o ++ cs ++ cur.toList.drop (o + cs.length)).toArray) := by
  have hl := run_loadCells_list (P := P) w a cs hsrc
  have hst := run_storeCells_at P g o t cs 0 cur w hg (by simpa using hfit) h1
  cases hq : P.info? elem with
  | none => simp [hq] at hs
  | some i =>
    have hi : i.size = s := by simpa [hq] using hs
    rw [hcl] at hl
    simp [Builtin.copy_, run_underlying hu, Builtin.lenOf, Builtin.firstCells, sizeOf, typeInfo, hq, hi, ← hn, hl, hst]
theorem setRow_frm (w : World) (g : Nat) (cs : Array Value) : Frm w (w.setRow g cs) [g] :=
  ⟨rfl, rfl, rfl, by simp [World.setRow], fun k _ hk => setRow_other w g k cs (fun e => hk (by simp [e]))⟩

/-- 'copy' at the list of a plain region's operations. -/
theorem wpList_copyw {P : Program} {w : World} {ops : Array Oper} {rest : List Oper} {o : Oper} {a : Act} {Q : Exit → Act → World → Prop} (hgd : o.guard = none) (d s : Operand) (dT sT : TypeId)
    (ho : o.op = .call { callee := .builtin .copy, args := #[d, s], argTypes := #[dT, sT] }) (elem : TypeId) (size : Nat) (hu : P.underlying dT = some (.slice elem)) (hsz : (P.info? elem).map (·.size) = some size)
    (g off dLen dCap : Nat) (ad : Addr) (sLen sCap : Nat) (hd : a.eval d = .slice (some ⟨g, off, none⟩) dLen dCap) (hs : a.eval s = .slice (some ad) sLen sCap)
    (cur : List Value) (t : TypeId) (hg : w.heap[g]? = some (.cells cur.toArray t (0, 0))) (cs : List Value) (n : Nat) (hn : n = Nat.min sLen dLen) (hcl : cs.length = n * size)
    (hsrc : ∀ j v, cs[j]? = some v → w.cell? (ad.add j) = some v) (hfit : off + cs.length ≤ cur.length) (h1 : ∀ v ∈ cs, v.oneCell' = true)
    (h : ∀ w', Hid (w'.heap[g]? = some (.cells (splice cur off cs).toArray t (0, 0))) → Frm w w' [g] → wpList P ops Q rest (a.put o.dst (goInt n)) w') : wpList P ops Q (o :: rest) a w := by
  refine wpList_plain hgd fun K hK => ?_
  have hrun := run_copy_wide (P := P) w dT sT o.type elem size g off dLen dCap ad sLen sCap cur.toArray t cs n hu hsz hg hn hcl hsrc (by simpa using hfit) h1
  unfold Oper.wp
  simp [execOp, ho, resolve, invoke, builtin, hd, hs, hrun, Result.andThen]
  exact hK _ _ (h _ (show _ = _ by simpa [splice] using setRow_heap w g _ _ t _ hg) (setRow_frm _ _ _))

/-- .. and as one step of a region that draws its order. -/
theorem step_copyw {P : Program} {w : World} {ops : Array Oper} {o : Oper} {a : Act} {K : Act → World → Prop} {Q : Exit → Act → World → Prop} {E : Prop} (hgd : o.guard = none) (d s : Operand) (dT sT : TypeId)
    (ho : o.op = .call { callee := .builtin .copy, args := #[d, s], argTypes := #[dT, sT] }) (elem : TypeId) (size : Nat) (hu : P.underlying dT = some (.slice elem)) (hsz : (P.info? elem).map (·.size) = some size)
    (g off dLen dCap : Nat) (ad : Addr) (sLen sCap : Nat) (hd : a.eval d = .slice (some ⟨g, off, none⟩) dLen dCap) (hs : a.eval s = .slice (some ad) sLen sCap)
    (cur : List Value) (t : TypeId) (hg : w.heap[g]? = some (.cells cur.toArray t (0, 0))) (cs : List Value) (n : Nat) (hn : n = Nat.min sLen dLen) (hcl : cs.length = n * size)
    (hsrc : ∀ j v, cs[j]? = some v → w.cell? (ad.add j) = some v) (hfit : off + cs.length ≤ cur.length) (h1 : ∀ v ∈ cs, v.oneCell' = true)
    (h : ∀ w', Hid (w'.heap[g]? = some (.cells (splice cur off cs).toArray t (0, 0))) → Frm w w' [g] → K (a.put o.dst (goInt n)) w') : if Region.wanted o (yielded ops a.tmps) = true then Oper.wp P o a w K Q else E := by
  have hw : Region.wanted o (yielded ops a.tmps) = true := by simp [Region.wanted, hgd]
  rw [if_pos hw]
  have hrun := run_copy_wide (P := P) w dT sT o.type elem size g off dLen dCap ad sLen sCap cur.toArray t cs n hu hsz hg hn hcl hsrc (by simpa using hfit) h1
  unfold Oper.wp
  simp [execOp, ho, resolve, invoke, builtin, hd, hs, hrun, Result.andThen]
  exact h _ (show _ = _ by simpa [splice] using setRow_heap w g _ _ t _ hg) (setRow_frm _ _ _)
end Go.Proofs.YtkmmhlimihkgfaaGreat

/- What two copies make of a row: plain mathematics. -/
namespace Go.Proofs.YtkmmhlimihkgfaaGreat
open Go.RowKit
set_option linter.unusedVariables false

theorem splice_get {α : Type} (L cs : List α) (o j : Nat) (h : o + cs.length ≤ L.length) : (splice L o cs)[j]? = if j < o then L[j]? else if j < o + cs.length then cs[j - o]? else L[j]? := by
  unfold splice
  have hl : (L.take o).length = o := by simp; omega
  by_cases h1 : j < o
  · rw [if_pos h1, List.getElem?_append_left (by omega), List.getElem?_take, if_pos h1]
  · rw [if_neg h1, List.getElem?_append_right (by omega), hl]
    by_cases h2 : j < o + cs.length
    · rw [if_pos h2, List.getElem?_append_left (by omega)]
    · rw [if_neg h2, List.getElem?_append_right (by omega), List.getElem?_drop]
      congr 1
      omega
theorem two_copies {α : Type} (L : List α) (R C Y : List α) (a c y : Nat) (hR : R.length = L.length) (hc : C.length = c) (hy : Y.length = y) (h : a + c + y ≤ L.length)
    (hg : ∀ j, R[j]? = if j < a then L[j]? else if j < a + c then C[j - a]? else if j < a + c + y then Y[j - (a + c)]? else R[j]?) : R.take (a + c + y) = L.take a ++ (C ++ Y) := by
  apply List.ext_getElem?
  intro j
  have hl : (L.take a).length = a := by simp; omega
  rw [List.getElem?_take, List.getElem?_append, hl, List.getElem?_take, List.getElem?_append, hc]
  by_cases h1 : j < a
  · rw [if_pos (by omega), if_pos h1, if_pos h1, hg j, if_pos h1]
  · rw [if_neg h1]
    by_cases h2 : j < a + c
    · rw [if_pos (by omega), if_pos (by omega), hg j, if_neg h1, if_pos h2]
    · rw [if_neg (show ¬ (j - a < c) by omega)]
      by_cases h3 : j < a + c + y
      · rw [if_pos h3, hg j, if_neg h1, if_neg h2, if_pos h3]; congr 1; omega
      · rw [if_neg h3, List.getElem?_eq_none (by omega)]
theorem ins_up {α : Type} (L C Y : List α) (a c y : Nat) (hc : C.length = c) (hy : Y.length = y) (h : a + c + y ≤ L.length) : (splice (splice L (a + c) Y) a C).take (a + c + y) = L.take a ++ (C ++ Y) := by
  have l1 := length_splice L (a + c) Y (by omega)
  refine two_copies L _ C Y a c y (by rw [length_splice _ _ _ (by omega), l1]) hc hy h (fun j => ?_)
  rw [splice_get _ _ _ _ (by omega), splice_get _ _ _ _ (by omega), hc, hy]
  by_cases h1 : j < a
  · simp only [if_pos h1, if_pos (show j < a + c by omega)]
  · by_cases h2 : j < a + c
    · simp only [if_neg h1, if_pos h2]
    · simp only [if_neg h1, if_neg h2]
      split <;> rfl
theorem ins_new {α : Type} (L C Y : List α) (a c y : Nat) (hc : C.length = c) (hy : Y.length = y) (h : a + c + y ≤ L.length) : (splice (splice L a C) (a + c) Y).take (a + c + y) = L.take a ++ (C ++ Y) := by
  have l1 := length_splice L a C (by omega)
  refine two_copies L _ C Y a c y (by rw [length_splice _ _ _ (by omega), l1]) hc hy h (fun j => ?_)
  rw [splice_get _ _ _ _ (by omega), splice_get _ _ _ _ (by omega), hc, hy]
  by_cases h1 : j < a
  · simp only [if_pos h1, if_pos (show j < a + c by omega)]
  · by_cases h2 : j < a + c
    · simp only [if_neg h1, if_pos h2]
    · simp only [if_neg h1, if_neg h2]
      split <;> rfl
end Go.Proofs.YtkmmhlimihkgfaaGreat
