/- Own texts joined: OpI, OpsI, RepI, LRep, OpenO, OpenP, OpenQ, OpenR. -/
import Derived.Test.YtfhekoipnlmhoaaGreatJa
import Derived.Test.YtfhekoipnlmhoaaGreatJb
import Derived.Test.YtfhekoipnlmhoaaGreatJc
import Derived.Test.YtfhekoipnlmhoaaGreatJd
import Derived.Test.YtfhekoipnlmhoaaGreatJe
import Derived.Deep.RegionHeld3
import Derived.Test.YtfhekoipnlmhoaaGreatProg
import Derived.ChangeArms
import Derived.ChangeSlices
import Derived.WideShapes

/- impl.OpOk answers what the plain test says. -/
namespace Go.Proofs.YtfhekoipnlmhoaaGreat
open Go.RowKit
set_option linter.unusedVariables false
set_option maxRecDepth 100000

theorem balloc {w w' : World} {o : Obj} (h : Below w.heap.size w w') : Below w.heap.size w (w'.alloc o) := h.alloc h.size o

set_option maxHeartbeats 6400000 in
theorem opI_0 (w : World) (o : OpV) (a1 a2 a3 : Option Addr) (c1 c2 c3 : Nat) (hk : Ints w (.slice a1 o.key.length c1) o.key) (hn : Byt w (.slice a2 o.name.length c2) o.name) (ht : Byt w (.slice a3 o.text.length c3) o.text) (k0 : o.kind = 0) :
    Calls Tryz.prog 78 #[opVal o (.slice a1 o.key.length c1) (.slice a2 o.name.length c2) (.slice a3 o.text.length c3)] w fun e w' => e = .returned (.bool (opB o)) ∧ Below w.heap.size w w' := by
  have hE := opB_0 k0
  have HK := hide hk
  have HM := hide hn
  have HX := hide ht
  clear hk hn ht
  unfold opVal
  rw [k0]
  go_enter Tryz.func78, Tryz.ntmps78
  go_wp2_with fail
  refine (idI_any _ o.parN o.parR).mono ?_
  rintro e w1 ⟨rfl, ew⟩
  obtain rfl := ew
  cases hx : idB o.parN o.parR
  · rw [hx] at hE
    clear hx
    go_wp2_with fail
    refine (stampI_any _ o.atN o.atR).mono ?_
    rintro e w1 ⟨rfl, rfl⟩
    cases hs : stampB o.atN o.atR
    · have HF := hide (show opB o = false by rw [hE, hs]; rfl)
      clear hE hs
      go_wp2_with fail
      go_ret
      exact ⟨by rw [unhide HF]; rfl, (by repeat (first | exact Below.refl _ _ | refine balloc ?_))⟩
    · have HF := hide (show opB o = false by rw [hE, hs]; rfl)
      clear hE hs
      go_wp2_with fail
      go_ret
      exact ⟨by rw [unhide HF]; rfl, (by repeat (first | exact Below.refl _ _ | refine balloc ?_))⟩
  rw [hx] at hE
  clear hx
  go_wp2_with fail
  refine (keyI_b _ _ o.key ((unhide HK).keep (by repeat (first | exact Below.refl _ _ | refine balloc ?_)))).mono ?_
  rintro e w1 ⟨rfl, ew⟩
  obtain rfl := ew
  cases hx : keyB o.key
  · rw [hx] at hE
    clear hx
    go_wp2_with fail
    refine (stampI_any _ o.atN o.atR).mono ?_
    rintro e w1 ⟨rfl, rfl⟩
    cases hs : stampB o.atN o.atR
    · have HF := hide (show opB o = false by rw [hE, hs]; rfl)
      clear hE hs
      go_wp2_with fail
      go_ret
      exact ⟨by rw [unhide HF]; rfl, (by repeat (first | exact Below.refl _ _ | refine balloc ?_))⟩
    · have HF := hide (show opB o = false by rw [hE, hs]; rfl)
      clear hE hs
      go_wp2_with fail
      go_ret
      exact ⟨by rw [unhide HF]; rfl, (by repeat (first | exact Below.refl _ _ | refine balloc ?_))⟩
  rw [hx] at hE
  clear hx
  go_wp2_with fail
  refine (loneI_any _ o.elem _ _ o.name o.text ((unhide HM).keep (by repeat (first | exact Below.refl _ _ | refine balloc ?_))) ((unhide HX).keep (by repeat (first | exact Below.refl _ _ | refine balloc ?_)))).mono ?_
  rintro e w1 ⟨rfl, ew⟩
  obtain rfl := ew
  cases hx : loneB o.elem o.name o.text
  · rw [hx] at hE
    clear hx
    go_wp2_with fail
    refine (stampI_any _ o.atN o.atR).mono ?_
    rintro e w1 ⟨rfl, rfl⟩
    cases hs : stampB o.atN o.atR
    · have HF := hide (show opB o = false by rw [hE, hs]; rfl)
      clear hE hs
      go_wp2_with fail
      go_ret
      exact ⟨by rw [unhide HF]; rfl, (by repeat (first | exact Below.refl _ _ | refine balloc ?_))⟩
    · have HF := hide (show opB o = false by rw [hE, hs]; rfl)
      clear hE hs
      go_wp2_with fail
      go_ret
      exact ⟨by rw [unhide HF]; rfl, (by repeat (first | exact Below.refl _ _ | refine balloc ?_))⟩
  rw [hx] at hE
  clear hx
  go_wp2_with fail
  refine (stampI_any _ o.atN o.atR).mono ?_
  rintro e w1 ⟨rfl, rfl⟩
  cases hs : stampB o.atN o.atR
  · have HF := hide (show opB o = false by rw [hE, hs]; rfl)
    clear hE hs
    go_wp2_with fail
    go_ret
    exact ⟨by rw [unhide HF]; rfl, (by repeat (first | exact Below.refl _ _ | refine balloc ?_))⟩
  · rw [hs] at hE
    have HF := hide (show opB o = zeroOpB (rest0 o) by rw [hE]; rfl)
    clear hE hs
    go_wp2_with fail
    refine (zeroI_any _ (rest0 o) none none none 0 0 0).mono ?_
    rintro e w1 ⟨rfl, hB1⟩
    have hA := bstep (a := w) (by repeat (first | exact Below.refl _ _ | refine balloc ?_)) hB1
    clear hB1
    go_wp2_with fail
    go_ret
    exact ⟨by rw [unhide HF]; rfl, hA⟩

set_option maxHeartbeats 6400000 in
theorem opI_1 (w : World) (o : OpV) (a1 a2 a3 : Option Addr) (c1 c2 c3 : Nat) (hk : Ints w (.slice a1 o.key.length c1) o.key) (hn : Byt w (.slice a2 o.name.length c2) o.name) (ht : Byt w (.slice a3 o.text.length c3) o.text) (k0 : o.kind = 1) :
    Calls Tryz.prog 78 #[opVal o (.slice a1 o.key.length c1) (.slice a2 o.name.length c2) (.slice a3 o.text.length c3)] w fun e w' => e = .returned (.bool (opB o)) ∧ Below w.heap.size w w' := by
  have hE := opB_1 k0
  have HK := hide hk
  have HM := hide hn
  have HX := hide ht
  clear hk hn ht
  unfold opVal
  rw [k0]
  go_enter Tryz.func78, Tryz.ntmps78
  go_wp2_with fail
  refine (idI_any _ o.nodeN o.nodeR).mono ?_
  rintro e w1 ⟨rfl, ew⟩
  obtain rfl := ew
  cases hx : idB o.nodeN o.nodeR
  · rw [hx] at hE
    clear hx
    go_wp2_with fail
    refine (stampI_any _ o.atN o.atR).mono ?_
    rintro e w1 ⟨rfl, rfl⟩
    cases hs : stampB o.atN o.atR
    · have HF := hide (show opB o = false by rw [hE, hs]; rfl)
      clear hE hs
      go_wp2_with fail
      go_ret
      exact ⟨by rw [unhide HF]; rfl, (by repeat (first | exact Below.refl _ _ | refine balloc ?_))⟩
    · have HF := hide (show opB o = false by rw [hE, hs]; rfl)
      clear hE hs
      go_wp2_with fail
      go_ret
      exact ⟨by rw [unhide HF]; rfl, (by repeat (first | exact Below.refl _ _ | refine balloc ?_))⟩
  rw [hx] at hE
  clear hx
  go_wp2_with fail
  refine (idI_any _ o.parN o.parR).mono ?_
  rintro e w1 ⟨rfl, ew⟩
  obtain rfl := ew
  cases hx : idB o.parN o.parR
  · rw [hx] at hE
    clear hx
    go_wp2_with fail
    refine (stampI_any _ o.atN o.atR).mono ?_
    rintro e w1 ⟨rfl, rfl⟩
    cases hs : stampB o.atN o.atR
    · have HF := hide (show opB o = false by rw [hE, hs]; rfl)
      clear hE hs
      go_wp2_with fail
      go_ret
      exact ⟨by rw [unhide HF]; rfl, (by repeat (first | exact Below.refl _ _ | refine balloc ?_))⟩
    · have HF := hide (show opB o = false by rw [hE, hs]; rfl)
      clear hE hs
      go_wp2_with fail
      go_ret
      exact ⟨by rw [unhide HF]; rfl, (by repeat (first | exact Below.refl _ _ | refine balloc ?_))⟩
  rw [hx] at hE
  clear hx
  go_wp2_with fail
  refine (keyI_b _ _ o.key ((unhide HK).keep (by repeat (first | exact Below.refl _ _ | refine balloc ?_)))).mono ?_
  rintro e w1 ⟨rfl, ew⟩
  obtain rfl := ew
  cases hx : keyB o.key
  · rw [hx] at hE
    clear hx
    go_wp2_with fail
    refine (stampI_any _ o.atN o.atR).mono ?_
    rintro e w1 ⟨rfl, rfl⟩
    cases hs : stampB o.atN o.atR
    · have HF := hide (show opB o = false by rw [hE, hs]; rfl)
      clear hE hs
      go_wp2_with fail
      go_ret
      exact ⟨by rw [unhide HF]; rfl, (by repeat (first | exact Below.refl _ _ | refine balloc ?_))⟩
    · have HF := hide (show opB o = false by rw [hE, hs]; rfl)
      clear hE hs
      go_wp2_with fail
      go_ret
      exact ⟨by rw [unhide HF]; rfl, (by repeat (first | exact Below.refl _ _ | refine balloc ?_))⟩
  rw [hx] at hE
  clear hx
  go_wp2_with fail
  refine (stampI_any _ o.atN o.atR).mono ?_
  rintro e w1 ⟨rfl, rfl⟩
  cases hs : stampB o.atN o.atR
  · have HF := hide (show opB o = false by rw [hE, hs]; rfl)
    clear hE hs
    go_wp2_with fail
    go_ret
    exact ⟨by rw [unhide HF]; rfl, (by repeat (first | exact Below.refl _ _ | refine balloc ?_))⟩
  · rw [hs] at hE
    have HF := hide (show opB o = zeroOpB (rest1 o) by rw [hE]; rfl)
    clear hE hs
    go_wp2_with fail
    refine (zeroI_any _ (rest1 o) none a2 a3 0 c2 c3).mono ?_
    rintro e w1 ⟨rfl, hB1⟩
    have hA := bstep (a := w) (by repeat (first | exact Below.refl _ _ | refine balloc ?_)) hB1
    clear hB1
    go_wp2_with fail
    go_ret
    exact ⟨by rw [unhide HF]; rfl, hA⟩

set_option maxHeartbeats 6400000 in
theorem opI_2 (w : World) (o : OpV) (a1 a2 a3 : Option Addr) (c1 c2 c3 : Nat) (hk : Ints w (.slice a1 o.key.length c1) o.key) (hn : Byt w (.slice a2 o.name.length c2) o.name) (ht : Byt w (.slice a3 o.text.length c3) o.text) (k0 : o.kind = 2) :
    Calls Tryz.prog 78 #[opVal o (.slice a1 o.key.length c1) (.slice a2 o.name.length c2) (.slice a3 o.text.length c3)] w fun e w' => e = .returned (.bool (opB o)) ∧ Below w.heap.size w w' := by
  have hE := opB_2 k0
  have HK := hide hk
  have HM := hide hn
  have HX := hide ht
  clear hk hn ht
  unfold opVal
  rw [k0]
  go_enter Tryz.func78, Tryz.ntmps78
  go_wp2_with fail
  refine (idI_any _ o.nodeN o.nodeR).mono ?_
  rintro e w1 ⟨rfl, ew⟩
  obtain rfl := ew
  cases hx : idB o.nodeN o.nodeR
  · rw [hx] at hE
    clear hx
    go_wp2_with fail
    refine (stampI_any _ o.atN o.atR).mono ?_
    rintro e w1 ⟨rfl, rfl⟩
    cases hs : stampB o.atN o.atR
    · have HF := hide (show opB o = false by rw [hE, hs]; rfl)
      clear hE hs
      go_wp2_with fail
      go_ret
      exact ⟨by rw [unhide HF]; rfl, (by repeat (first | exact Below.refl _ _ | refine balloc ?_))⟩
    · have HF := hide (show opB o = false by rw [hE, hs]; rfl)
      clear hE hs
      go_wp2_with fail
      go_ret
      exact ⟨by rw [unhide HF]; rfl, (by repeat (first | exact Below.refl _ _ | refine balloc ?_))⟩
  rw [hx] at hE
  clear hx
  go_wp2_with fail
  refine (textI_b _ _ o.text ((unhide HX).keep (by repeat (first | exact Below.refl _ _ | refine balloc ?_)))).mono ?_
  rintro e w1 ⟨rfl, ew⟩
  obtain rfl := ew
  cases hx : textB o.text
  · rw [hx] at hE
    clear hx
    go_wp2_with fail
    refine (stampI_any _ o.atN o.atR).mono ?_
    rintro e w1 ⟨rfl, rfl⟩
    cases hs : stampB o.atN o.atR
    · have HF := hide (show opB o = false by rw [hE, hs]; rfl)
      clear hE hs
      go_wp2_with fail
      go_ret
      exact ⟨by rw [unhide HF]; rfl, (by repeat (first | exact Below.refl _ _ | refine balloc ?_))⟩
    · have HF := hide (show opB o = false by rw [hE, hs]; rfl)
      clear hE hs
      go_wp2_with fail
      go_ret
      exact ⟨by rw [unhide HF]; rfl, (by repeat (first | exact Below.refl _ _ | refine balloc ?_))⟩
  rw [hx] at hE
  clear hx
  go_wp2_with fail
  refine (stampI_any _ o.atN o.atR).mono ?_
  rintro e w1 ⟨rfl, rfl⟩
  cases hs : stampB o.atN o.atR
  · have HF := hide (show opB o = false by rw [hE, hs]; rfl)
    clear hE hs
    go_wp2_with fail
    go_ret
    exact ⟨by rw [unhide HF]; rfl, (by repeat (first | exact Below.refl _ _ | refine balloc ?_))⟩
  · rw [hs] at hE
    have HF := hide (show opB o = zeroOpB (rest2 o) by rw [hE]; rfl)
    clear hE hs
    go_wp2_with fail
    refine (zeroI_any _ (rest2 o) a1 a2 none c1 c2 0).mono ?_
    rintro e w1 ⟨rfl, hB1⟩
    have hA := bstep (a := w) (by repeat (first | exact Below.refl _ _ | refine balloc ?_)) hB1
    clear hB1
    go_wp2_with fail
    go_ret
    exact ⟨by rw [unhide HF]; rfl, hA⟩

set_option maxHeartbeats 6400000 in
theorem opI_3 (w : World) (o : OpV) (a1 a2 a3 : Option Addr) (c1 c2 c3 : Nat) (hk : Ints w (.slice a1 o.key.length c1) o.key) (hn : Byt w (.slice a2 o.name.length c2) o.name) (ht : Byt w (.slice a3 o.text.length c3) o.text) (k0 : o.kind = 3) :
    Calls Tryz.prog 78 #[opVal o (.slice a1 o.key.length c1) (.slice a2 o.name.length c2) (.slice a3 o.text.length c3)] w fun e w' => e = .returned (.bool (opB o)) ∧ Below w.heap.size w w' := by
  have hE := opB_3 k0
  have HK := hide hk
  have HM := hide hn
  have HX := hide ht
  clear hk hn ht
  unfold opVal
  rw [k0]
  go_enter Tryz.func78, Tryz.ntmps78
  go_wp2_with fail
  refine (idI_any _ o.nodeN o.nodeR).mono ?_
  rintro e w1 ⟨rfl, ew⟩
  obtain rfl := ew
  cases hx : idB o.nodeN o.nodeR
  · rw [hx] at hE
    clear hx
    go_wp2_with fail
    refine (stampI_any _ o.atN o.atR).mono ?_
    rintro e w1 ⟨rfl, rfl⟩
    cases hs : stampB o.atN o.atR
    · have HF := hide (show opB o = false by rw [hE, hs]; rfl)
      clear hE hs
      go_wp2_with fail
      go_ret
      exact ⟨by rw [unhide HF]; rfl, (by repeat (first | exact Below.refl _ _ | refine balloc ?_))⟩
    · have HF := hide (show opB o = false by rw [hE, hs]; rfl)
      clear hE hs
      go_wp2_with fail
      go_ret
      exact ⟨by rw [unhide HF]; rfl, (by repeat (first | exact Below.refl _ _ | refine balloc ?_))⟩
  rw [hx] at hE
  clear hx
  go_wp2_with fail
  refine (nameI_b _ _ o.name ((unhide HM).keep (by repeat (first | exact Below.refl _ _ | refine balloc ?_)))).mono ?_
  rintro e w1 ⟨rfl, ew⟩
  obtain rfl := ew
  cases hx : nameB o.name
  · rw [hx] at hE
    clear hx
    go_wp2_with fail
    refine (stampI_any _ o.atN o.atR).mono ?_
    rintro e w1 ⟨rfl, rfl⟩
    cases hs : stampB o.atN o.atR
    · have HF := hide (show opB o = false by rw [hE, hs]; rfl)
      clear hE hs
      go_wp2_with fail
      go_ret
      exact ⟨by rw [unhide HF]; rfl, (by repeat (first | exact Below.refl _ _ | refine balloc ?_))⟩
    · have HF := hide (show opB o = false by rw [hE, hs]; rfl)
      clear hE hs
      go_wp2_with fail
      go_ret
      exact ⟨by rw [unhide HF]; rfl, (by repeat (first | exact Below.refl _ _ | refine balloc ?_))⟩
  rw [hx] at hE
  clear hx
  go_wp2_with fail
  refine (valI_any _ _ o.text o.gone ((unhide HX).keep (by repeat (first | exact Below.refl _ _ | refine balloc ?_)))).mono ?_
  rintro e w1 ⟨rfl, ew⟩
  obtain rfl := ew
  cases hx : valB o.text o.gone
  · rw [hx] at hE
    clear hx
    go_wp2_with fail
    refine (stampI_any _ o.atN o.atR).mono ?_
    rintro e w1 ⟨rfl, rfl⟩
    cases hs : stampB o.atN o.atR
    · have HF := hide (show opB o = false by rw [hE, hs]; rfl)
      clear hE hs
      go_wp2_with fail
      go_ret
      exact ⟨by rw [unhide HF]; rfl, (by repeat (first | exact Below.refl _ _ | refine balloc ?_))⟩
    · have HF := hide (show opB o = false by rw [hE, hs]; rfl)
      clear hE hs
      go_wp2_with fail
      go_ret
      exact ⟨by rw [unhide HF]; rfl, (by repeat (first | exact Below.refl _ _ | refine balloc ?_))⟩
  rw [hx] at hE
  clear hx
  go_wp2_with fail
  refine (stampI_any _ o.atN o.atR).mono ?_
  rintro e w1 ⟨rfl, rfl⟩
  cases hs : stampB o.atN o.atR
  · have HF := hide (show opB o = false by rw [hE, hs]; rfl)
    clear hE hs
    go_wp2_with fail
    go_ret
    exact ⟨by rw [unhide HF]; rfl, (by repeat (first | exact Below.refl _ _ | refine balloc ?_))⟩
  · rw [hs] at hE
    have HF := hide (show opB o = zeroOpB (rest3 o) by rw [hE]; rfl)
    clear hE hs
    go_wp2_with fail
    refine (zeroI_any _ (rest3 o) a1 none none c1 0 0).mono ?_
    rintro e w1 ⟨rfl, hB1⟩
    have hA := bstep (a := w) (by repeat (first | exact Below.refl _ _ | refine balloc ?_)) hB1
    clear hB1
    go_wp2_with fail
    go_ret
    exact ⟨by rw [unhide HF]; rfl, hA⟩

set_option maxHeartbeats 6400000 in
theorem opI_4 (w : World) (o : OpV) (a1 a2 a3 : Option Addr) (c1 c2 c3 : Nat) (h0 : o.kind ≠ 0) (h1 : o.kind ≠ 1) (h2 : o.kind ≠ 2) (h3 : o.kind ≠ 3) :
    Calls Tryz.prog 78 #[opVal o (.slice a1 o.key.length c1) (.slice a2 o.name.length c2) (.slice a3 o.text.length c3)] w fun e w' => e = .returned (.bool (opB o)) ∧ Below w.heap.size w w' := by
  have HF := hide (opB_4 h0 h1 h2 h3)
  have q0 : (o.kind == 0) = false := by simpa using h0
  have q1 : (o.kind == 1) = false := by simpa using h1
  have q2 : (o.kind == 2) = false := by simpa using h2
  have q3 : (o.kind == 3) = false := by simpa using h3
  clear h0 h1 h2 h3
  unfold opVal
  go_enter Tryz.func78, Tryz.ntmps78
  go_wp2_with fail
  refine (stampI_any _ o.atN o.atR).mono ?_
  rintro e w1 ⟨rfl, rfl⟩
  cases hs : stampB o.atN o.atR
  all_goals
    clear hs
    go_wp2_with fail
    go_ret
    exact ⟨by rw [unhide HF]; rfl, (by repeat (first | exact Below.refl _ _ | refine balloc ?_))⟩

/-- impl.OpOk, whatever it is asked. -/
theorem opI_any (w : World) (v : Value) (o : OpV) (h : RdOp w v o) :
    Calls Tryz.prog 78 #[v] w fun e w' => e = .returned (.bool (opB o)) ∧ Below w.heap.size w w' := by
  obtain ⟨k, n, t, rfl, hk, hn, ht⟩ := h
  obtain ⟨a1, c1, rfl, _, _⟩ := hk.shape
  obtain ⟨a2, c2, rfl, _, _⟩ := hn.shape
  obtain ⟨a3, c3, rfl, _, _⟩ := ht.shape
  by_cases k0 : o.kind = 0
  · exact opI_0 w o a1 a2 a3 c1 c2 c3 hk hn ht k0
  by_cases k1 : o.kind = 1
  · exact opI_1 w o a1 a2 a3 c1 c2 c3 hk hn ht k1
  by_cases k2 : o.kind = 2
  · exact opI_2 w o a1 a2 a3 c1 c2 c3 hk hn ht k2
  by_cases k3 : o.kind = 3
  · exact opI_3 w o a1 a2 a3 c1 c2 c3 hk hn ht k3
  exact opI_4 w o a1 a2 a3 c1 c2 c3 k0 k1 k2 k3
theorem opI_said : OpISaid := fun w o base k n t h _ => opI_any w _ o h.rd
end Go.Proofs.YtfhekoipnlmhoaaGreat

/- impl.OpsOk answers what the plain test of a row says. -/
namespace Go.Proofs.YtfhekoipnlmhoaaGreat
open Go.RowKit
set_option linter.unusedVariables false
set_option maxRecDepth 100000

set_option maxHeartbeats 6400000 in
theorem opsI_any (w : World) (v : Value) (l : List OpV) (h : RdOps w v l) :
    Calls Tryz.prog 42 #[v] w fun e w' => e = .returned (.bool (opsB l)) ∧ Below w.heap.size w w' := by
  have hm := h.1
  unfold maxLen at hm
  by_cases hlong : 150 < l.length
  · obtain ⟨a, cap, rfl, _, _⟩ := Elems.shape h
    have hd : (150 : Int) < (l.length : Int) := by omega
    rw [opsB_long hlong]
    go_enter Tryz.func42, Tryz.ntmps42
    go_wp2_with fail
    go_ret
    exact ⟨rfl, Below.refl _ _⟩
  have hd : ¬ (150 : Int) < (l.length : Int) := by omega
  obtain ⟨rfl, a, cap, rfl⟩ | ⟨b, off, cap, rfl, hnil, g4, g5⟩ := h.cases
  · go_enter Tryz.func42, Tryz.ntmps42
    go_wp2_with fail
    refine wp_loop_rounds 1 ?_
    rw [rounds_succ]
    go_wp2_with fail
    go_ret
    exact ⟨rfl, Below.refl _ _⟩
  have HG := hide (fun hh => opsB_good (l := l) (by omega) hh)
  have HN := hide (fun k hk hh => opsB_bad (l := l) (k := k) hk hh)
  generalize opsB l = res at *
  go_enter Tryz.func42, Tryz.ntmps42
  go_wp2_with fail
  go_loopw [3, 4, 10] (fun _ _ i wr => ∃ k : Nat, k ≤ l.length ∧ i = .int .i64 k ∧ (∀ j, j < k → okAt l j = true) ∧ Below w.heap.size w wr) (fun _ _ i _ => l.length - (intOf i).toNat)
  case atStart => exact ⟨0, Nat.zero_le _, rfl, fun j hj => by omega, Below.refl _ _⟩
  case round =>
    obtain ⟨k, hk, rfl, hok, hB⟩ := hrel
    by_cases hlt : k < l.length
    · have HX := hide (fun W u (hu : RdOp W u l[k]) => opI_any W u l[k] hu)
      have HL := hide (fun W n r n' r' => lessI_any W n r n' r')
      have H0 := hide (fun (h : opB l[k] = false) => okAt_no hlt h)
      have HZ := hide (fun (h : opB l[k] = true) (e : k = 0) => (show okAt l k = true by subst e; exact okAt_0 hlt h))
      have HS := hide (fun j (e : k = j + 1) (h : opB l[k] = true) => (show okAt l k = lessB (l[j]'(by omega)).atN (l[j]'(by omega)).atR l[k].atN l[k].atR by subst e; exact okAt_s hlt h))
      have HP := hide (fun j (e : k = j + 1) => opc_at hB g4 (g5 j (by omega)))
      have HJ := hide (fun j (hj : j < k + 1) (h : okAt l k = true) => (show okAt l j = true by rcases Nat.lt_succ_iff_lt_or_eq.1 hj with h1 | rfl; exact hok j h1; exact h))
      have HNK := hide (fun (h : okAt l k = false) => unhide HN k hlt h)
      obtain ⟨a1, c1, a2, c2, a3, c3, e0, e1, e2, e3, e4, e5, e6, e7, e8, e9, e10, e11, hr⟩ := opc_at hB g4 (g5 k hlt)
      have hlt' : (k : Int) < (l.length : Int) := by omega
      have hk0 : (0 : Int) ≤ (k : Int) := by omega
      have HR := hide hr
      unfold opVal at HR
      generalize hoo : l[k] = o at *
      generalize o.key.length = nK at *
      generalize o.name.length = nN at *
      generalize o.text.length = nT at *
      clear g5 hr hnil hoo HG HN hok
      generalize okAt l k = okk at *
      have lo := Loc.made wr #[.int .i64 o.kind, .int .i64 o.atN, .int .i64 o.atR, .int .i64 o.nodeN, .int .i64 o.nodeR, .int .i64 o.parN, .int .i64 o.parR, .slice a1 nK c1, .int .i64 o.elem, .slice a2 nN c2, .slice a3 nT c3, .bool o.gone] 28
      have hAb := (Below.refl wr.heap.size wr).alloc (Nat.le_refl _) (.cells #[.int .i64 o.kind, .int .i64 o.atN, .int .i64 o.atR, .int .i64 o.nodeN, .int .i64 o.nodeR, .int .i64 o.parN, .int .i64 o.parR, .slice a1 nK c1, .int .i64 o.elem, .slice a2 nN c2, .slice a3 nT c3, .bool o.gone] 28)
      have LL := hide (And.intro lo hAb)
      clear lo hAb
      go_wp2_with fail
      obtain ⟨lo, hAb⟩ := unhide LL
      clear LL
      have hB' := bstep hB hAb
      have HRb := hide ((unhide HR).keep hAb)
      have g4' : b < wr.heap.size := Nat.lt_of_lt_of_le g4 hB.size
      have hcb := fun a v (hb : a.block < wr.heap.size) (h : wr.cell? a = some v) => (hAb.cell hb).trans h
      have hzz := hAb.size
      have HCB := hide hcb
      clear hcb hAb HR
      generalize (wr.alloc (.cells #[.int .i64 o.kind, .int .i64 o.atN, .int .i64 o.atR, .int .i64 o.nodeN, .int .i64 o.nodeR, .int .i64 o.parN, .int .i64 o.parR, .slice a1 nK c1, .int .i64 o.elem, .slice a2 nN c2, .slice a3 nT c3, .bool o.gone] 28)) = wb at *
      have hSl : wr.heap.size < wb.heap.size := lo.lt
      generalize wr.heap.size = S at *
      have hNE : Nonempty (Gr wb) := ⟨⟨wb, Below.refl _ _⟩⟩
      obtain ⟨y0, y1, y2, y3, y4, y5, y6, y7, y8, y9, y10, y11⟩ := lo.twelve
      replace y0 := Gr.cell hSl y0
      replace y1 := Gr.cell hSl y1
      replace y2 := Gr.cell hSl y2
      replace y3 := Gr.cell hSl y3
      replace y4 := Gr.cell hSl y4
      replace y5 := Gr.cell hSl y5
      replace y6 := Gr.cell hSl y6
      replace y7 := Gr.cell hSl y7
      replace y8 := Gr.cell hSl y8
      replace y9 := Gr.cell hSl y9
      replace y10 := Gr.cell hSl y10
      replace y11 := Gr.cell hSl y11
      clear lo e0 e1 e2 e3 e4 e5 e6 e7 e8 e9 e10 e11
      by_cases hq : opB o = true
      · rw [hq] at HX
        rcases Nat.eq_zero_or_pos k with hz | hpos
        · have HY := hide (unhide HZ hq hz)
          have dz3 : ¬ 0 < k := by omega
          have dz4 : decide (0 < k) = false := by simp; omega
          clear H0 HZ HS HP hq HL hz
          refine wp_region_gr (by kernel_rfl) (by kernel_rfl) ?_
          repeat (go_big_quiet_step ((rename_i p; exact calls_gr (unhide HX _ _ ((unhide HRb).keep p.h)))))
          refine wpQuiet_nil ?_
          rintro _ ⟨p, rfl⟩
          have hB3 := bstep hB' p.h
          clear y0 y1 y2 y3 y4 y5 y6 y7 y8 y9 y10 y11 HRb
          go_wp2_with fail
          go_roundw
          case rel => exact ⟨k + 1, by omega, by go_num, fun j hj => unhide HJ j hj (unhide HY), hB3⟩
          case measure => simp [intOf]; omega
        · obtain ⟨j, ej⟩ : ∃ j, k = j + 1 := ⟨k - 1, by omega⟩
          have dz3 : 0 < k := hpos
          have dz4 : decide (0 < k) = true := by simp; omega
          have hj1 : (k : Int) - 1 = (j : Int) := by omega
          have hj0 : (0 : Int) ≤ (j : Int) := by omega
          have hjl : (j : Int) < (l.length : Int) := by omega
          obtain ⟨pn, pr, i1, i2, HE⟩ : ∃ pn pr, wb.cell? ⟨b, off + j * 12 + 1, none⟩ = some (.int .i64 pn) ∧ wb.cell? ⟨b, off + j * 12 + 2, none⟩ = some (.int .i64 pr) ∧ okk = lessB pn pr o.atN o.atR := by
            obtain ⟨_, _, _, _, _, _, _, i1, i2, _⟩ := unhide HP j ej
            exact ⟨_, _, unhide HCB _ _ g4' i1, unhide HCB _ _ g4' i2, unhide HS j ej hq⟩
          replace i1 := Gr.cell (Nat.lt_trans g4' hSl) i1
          replace i2 := Gr.cell (Nat.lt_trans g4' hSl) i2
          clear H0 HZ HS HP hq hpos
          have HLL := hide (fun W => unhide HL W pn pr o.atN o.atR)
          generalize lessB pn pr o.atN o.atR = lb at *
          subst HE
          clear HL ej
          refine wp_region_gr (by kernel_rfl) (by kernel_rfl) ?_
          repeat (go_big_quiet_step ((rename_i p; first | exact calls_gr (unhide HX _ _ ((unhide HRb).keep p.h)) | exact calls_gr (unhide HLL _))))
          refine wpQuiet_nil ?_
          rintro _ ⟨p, rfl⟩
          have hB3 := bstep hB' p.h
          clear y0 y1 y2 y3 y4 y5 y6 y7 y8 y9 y10 y11 HRb i1 i2
          cases okk with
          | true =>
            go_wp2_with fail
            go_roundw
            case rel => exact ⟨k + 1, by omega, by go_num, fun j hj => unhide HJ j hj rfl, hB3⟩
            case measure => simp [intOf]; omega
          | false =>
            have HF := hide (unhide HNK rfl)
            clear HNK
            go_wp2_with fail
            go_ret
            exact ⟨by rw [unhide HF]; rfl, hB3⟩
      · have hq' : opB o = false := by simpa using hq
        rw [hq'] at HX
        have HY := hide (unhide HNK (unhide H0 hq'))
        clear H0 HZ HS HP hq hq' HL HNK
        refine wp_region_gr (by kernel_rfl) (by kernel_rfl) ?_
        repeat (go_big_quiet_step ((rename_i p; exact calls_gr (unhide HX _ _ ((unhide HRb).keep p.h)))))
        refine wpQuiet_nil ?_
        rintro _ ⟨p, rfl⟩
        have hB3 := bstep hB' p.h
        clear y0 y1 y2 y3 y4 y5 y6 y7 y8 y9 y10 y11 HRb
        go_wp2_with fail
        go_ret
        exact ⟨by rw [unhide HY]; rfl, hB3⟩
    · have HY := hide (unhide HG (fun j hj => hok j (by omega)))
      clear g5
      go_wp2_with fail
      go_ret
      exact ⟨by rw [unhide HY]; rfl, hB⟩
end Go.Proofs.YtfhekoipnlmhoaaGreat

/- impl.ReplicaOk. -/
namespace Go.Proofs.YtfhekoipnlmhoaaGreat
open Go.RowKit
set_option linter.unusedVariables false
set_option maxRecDepth 100000

set_option maxHeartbeats 6400000 in
theorem repI_any (n : Nat) (w : World) (a b c d e vo vu : Value) (r : RepV n) (h : RdRep n w a b c d e vo vu r) (hsz : szT (n + 1) r.first ≤ 2097152) :
    Calls Tryz.prog 26 #[repVal r a b c d e vo vu] w fun e w' => e = .returned (.bool (repB r)) ∧ Below w.heap.size w w' := by
  obtain ⟨z, ab, nb, cb, ac, nc, cc, ad, nd, cd, ae, ne, ce, rfl, rfl, rfl, rfl, rfl⟩ := rd5 h.1
  obtain ⟨ao, co, rfl, _, _⟩ := Elems.shape h.2.1
  obtain ⟨au, cu, rfl, _, _⟩ := Elems.shape h.2.2
  have HS := hide (fun W (hW : Below w.heap.size w W) => startI_any n W r.id _ _ _ _ _ r.first (h.1.keep hW) hsz)
  have HO := hide (fun W (hW : Below w.heap.size w W) => opsI_any W _ r.ops (h.2.1.keep hW))
  have HT := hide (fun W (hW : Below w.heap.size w W) => staI_any n W _ _ _ _ _ _ _ r (h.keep hW))
  have HU := hide (fun W (hW : Below w.heap.size w W) => undI_any n W _ _ _ _ _ _ _ r (h.keep hW))
  unfold repVal at HT HU ⊢
  unfold repB
  clear h
  generalize startB n r.id r.first = sb at *
  generalize opsB r.ops = ob at *
  generalize stampsB r.ops r.clock = tb at *
  generalize undB r.und r.id r.clock = ub at *
  generalize r.ops.length = no at *
  generalize r.und.length = nu at *
  have hA := (Below.refl w.heap.size w).alloc (Nat.le_refl _) (.cells #[.int .i64 r.id, .int .i64 r.clock, .int .i64 z, .slice ab nb cb, .slice ac nc cc, .slice ad nd cd, .slice ae ne ce, .slice ao no co, .slice au nu cu, .bool r.lost] 65)
  have l0 := Loc.made w #[.int .i64 r.id, .int .i64 r.clock, .int .i64 z, .slice ab nb cb, .slice ac nc cc, .slice ad nd cd, .slice ae ne ce, .slice ao no co, .slice au nu cu, .bool r.lost] 65
  go_enter Tryz.func26, Tryz.ntmps26
  go_wp2_with fail
  generalize (w.alloc (.cells #[.int .i64 r.id, .int .i64 r.clock, .int .i64 z, .slice ab nb cb, .slice ac nc cc, .slice ad nd cd, .slice ae ne ce, .slice ao no co, .slice au nu cu, .bool r.lost] 65)) = wa at *
  refine (unhide HS _ hA).mono ?_
  rintro e w1 ⟨rfl, hB⟩
  have hA1 := bstep hA hB
  replace l0 := l0.all hB
  clear hA hB HS
  obtain ⟨x0, x1, x2, x3, x4, x5, x6, x7, x8, x9⟩ := l0.ten
  cases hs : sb with
  | false =>
    go_wp2_with fail
    go_ret
    exact ⟨by rw [hs]; rfl, hA1⟩
  | true =>
  by_cases q1 : 0 ≤ r.clock
  case neg =>
    have d1 : decide (0 ≤ r.clock) = false := by simpa using q1
    go_wp2_with fail
    go_ret
    exact ⟨by rw [hs, d1]; rfl, hA1⟩
  have d1 : decide (0 ≤ r.clock) = true := by simpa using q1
  by_cases q2 : r.clock ≤ 1000000
  case neg =>
    have d2 : decide (r.clock ≤ 1000000) = false := by simpa using q2
    go_wp2_with fail
    go_ret
    exact ⟨by rw [hs, d1, d2]; rfl, hA1⟩
  have d2 : decide (r.clock ≤ 1000000) = true := by simpa using q2
  go_wp2_with fail
  clear x0 x1 x2 x3 x4 x5 x6 x7 x8 x9
  refine (unhide HO _ hA1).mono ?_
  rintro e w2 ⟨rfl, hB⟩
  have hA2 := bstep hA1 hB
  replace l0 := l0.all hB
  clear hA1 hB HO
  obtain ⟨x0, x1, x2, x3, x4, x5, x6, x7, x8, x9⟩ := l0.ten
  cases ho : ob with
  | false =>
    go_wp2_with fail
    go_ret
    exact ⟨by rw [hs, d1, d2, ho]; rfl, hA2⟩
  | true =>
  go_wp2_with fail
  clear x0 x1 x2 x3 x4 x5 x6 x7 x8 x9
  refine (unhide HT _ hA2).mono ?_
  rintro e w3 ⟨rfl, hB⟩
  have hA3 := bstep hA2 hB
  replace l0 := l0.all hB
  clear hA2 hB HT
  obtain ⟨x0, x1, x2, x3, x4, x5, x6, x7, x8, x9⟩ := l0.ten
  cases ht : tb with
  | false =>
    go_wp2_with fail
    go_ret
    exact ⟨by rw [hs, d1, d2, ho, ht]; rfl, hA3⟩
  | true =>
  go_wp2_with fail
  clear x0 x1 x2 x3 x4 x5 x6 x7 x8 x9
  refine (unhide HU _ hA3).mono ?_
  rintro e w4 ⟨rfl, hB⟩
  have hA4 := bstep hA3 hB
  go_wp2_with fail
  go_ret
  exact ⟨by rw [hs, d1, d2, ho, ht]; rfl, hA4⟩
end Go.Proofs.YtfhekoipnlmhoaaGreat

/- The law on ReplicaOk, walked by its callees' contracts. -/
namespace Go.Proofs.YtfhekoipnlmhoaaGreat
open Go.RowKit
set_option linter.unusedVariables false
set_option maxRecDepth 100000

set_option maxHeartbeats 20000000 in
theorem law_replicaok (n : Nat) (w : World) (a b c d e vo vu : Value) (r : RepV n) (h : RdRep n w a b c d e vo vu r) :
    Calls Tryz.prog 5 #[repVal r a b c d e vo vu] w fun e w' => e = .returned (.bool true) ∧ Below w.heap.size w w' := by
  obtain ⟨z, ab, nb, cb, ac, nc, cc, ad, nd, cd, ae, ne, ce, rfl, rfl, rfl, rfl, rfl⟩ := rd5 h.1
  obtain ⟨ao, co, rfl, _, _⟩ := Elems.shape h.2.1
  obtain ⟨au, cu, rfl, _, _⟩ := Elems.shape h.2.2
  have HZ := hide (fun W (hW : Below w.heap.size w W) => szRep_any n W _ _ _ _ _ _ _ r 1048576 (h.keep hW) (by omega) (by omega))
  have HT := hide (fun (hz : szR r ≤ 1048576) W (hW : Below w.heap.size w W) => toRep_any n W _ _ _ _ _ _ _ r (h.keep hW) (by unfold szR at hz; omega) (by unfold szR at hz; omega) (by unfold szR at hz; omega))
  have HI := hide (fun (hz : szR r ≤ 1048576) W a b c d e vo vu (h : RdRep n W a b c d e vo vu r) => repI_any n W a b c d e vo vu r h (by unfold szR at hz; omega))
  have HS := hide (fun W a b c d e vo vu (h : RdRep n W a b c d e vo vu r) => repS_any n W a b c d e vo vu r h)
  have HE := hide (fun W a b c d e vo vu a' b' c' d' e' vo' vu' h h' => eqRep_same n W a b c d e vo vu a' b' c' d' e' vo' vu' r h h')
  unfold repVal at HZ HT HI HS HE ⊢
  clear h
  generalize repB r = ok at *
  generalize r.ops.length = no at *
  generalize r.und.length = nu at *
  have hne : (ok != ok) = false := by simp
  have hA := (Below.refl w.heap.size w).alloc (Nat.le_refl _) (.cells #[.int .i64 r.id, .int .i64 r.clock, .int .i64 z, .slice ab nb cb, .slice ac nc cc, .slice ad nd cd, .slice ae ne ce, .slice ao no co, .slice au nu cu, .bool r.lost] 56)
  have l0 := Loc.made w #[.int .i64 r.id, .int .i64 r.clock, .int .i64 z, .slice ab nb cb, .slice ac nc cc, .slice ad nd cd, .slice ae ne ce, .slice ao no co, .slice au nu cu, .bool r.lost] 56
  go_enter Tryz.func5, Tryz.ntmps5
  go_wp2_with fail
  generalize (w.alloc (.cells #[.int .i64 r.id, .int .i64 r.clock, .int .i64 z, .slice ab nb cb, .slice ac nc cc, .slice ad nd cd, .slice ae ne ce, .slice ao no co, .slice au nu cu, .bool r.lost] 56)) = wa at *
  generalize hSS : w.heap.size = S at *
  have BS := hide (show ∀ (b c : World), Below S w b → Below b.heap.size b c → Below S w c from fun b c h k => h.trans (k.mono (by have := h.size; omega)))
  refine (unhide HZ _ hA).mono ?_
  rintro e w1 ⟨rfl, hB⟩
  have hA1 := unhide BS _ _ hA hB
  replace l0 := l0.all hB
  clear hA hB HZ
  by_cases hbig : ((szR r : Nat) : Int) ≤ 1048576
  case neg =>
    rw [rest_out hbig]
    go_wp2_with fail
    go_ret
    exact ⟨rfl, by rw [hSS]; exact hA1⟩
  rw [rest_in hbig]
  have hsz : szR r ≤ 1048576 := by omega
  replace HT := hide (unhide HT hsz)
  replace HI := hide (unhide HI hsz)
  have hd : ¬ 1048576 - ((szR r : Nat) : Int) < 0 := by omega
  obtain ⟨x0, x1, x2, x3, x4, x5, x6, x7, x8, x9⟩ := l0.ten
  go_wp2_with fail
  refine (unhide HT _ hA1).mono ?_
  rintro e w2 ⟨kdp, a1p, n1p, c1p, a2p, n2p, c2p, a3p, n3p, c3p, a4p, n4p, c4p, a5p, c5p, a6p, c6p, rfl, F2, ho2, _, _, hB⟩
  have hA2 := unhide BS _ _ hA1 hB
  replace l0 := l0.all hB
  clear hA1 hB x0 x1 x2 x3 x4 x5 x6 x7 x8 x9
  go_wp2_with fail
  refine (unhide HS w2 _ _ _ _ _ _ _ ho2.rd).mono ?_
  rintro e w3 ⟨rfl, hB⟩
  have hA3 := unhide BS _ _ hA2 hB
  replace l0 := l0.all hB
  clear hA2 hB ho2
  obtain ⟨x0, x1, x2, x3, x4, x5, x6, x7, x8, x9⟩ := l0.ten
  go_wp2_with fail
  refine (unhide HT _ hA3).mono ?_
  rintro e w4 ⟨kdq, a1q, n1q, c1q, a2q, n2q, c2q, a3q, n3q, c3q, a4q, n4q, c4q, a5q, c5q, a6q, c6q, rfl, F4, ho4, _, _, hB⟩
  have hA4 := unhide BS _ _ hA3 hB
  replace l0 := l0.all hB
  clear hA3 hB x0 x1 x2 x3 x4 x5 x6 x7 x8 x9
  have hB : Below w4.heap.size w4 (w4.alloc (.cells #[.int .i64 r.id, .int .i64 r.clock, .int .i64 kdq, .slice a1q n1q c1q, .slice a2q n2q c2q, .slice a3q n3q c3q, .slice a4q n4q c4q, .slice a5q no c5q, .slice a6q nu c6q, .bool r.lost] 65)) := (Below.refl _ _).alloc (Nat.le_refl _) _
  have l5 := Loc.made w4 #[.int .i64 r.id, .int .i64 r.clock, .int .i64 kdq, .slice a1q n1q c1q, .slice a2q n2q c2q, .slice a3q n3q c3q, .slice a4q n4q c4q, .slice a5q no c5q, .slice a6q nu c6q, .bool r.lost] 65
  have LL := hide (And.intro (unhide BS _ _ hA4 hB) (And.intro (l0.all hB) (And.intro l5 (ho4.keep hB))))
  clear hA4 hB l0 l5 ho4
  go_wp2_with fail
  obtain ⟨hA5, l0, l5, ho4⟩ := unhide LL
  clear LL
  generalize (w4.alloc (.cells #[.int .i64 r.id, .int .i64 r.clock, .int .i64 kdq, .slice a1q n1q c1q, .slice a2q n2q c2q, .slice a3q n3q c3q, .slice a4q n4q c4q, .slice a5q no c5q, .slice a6q nu c6q, .bool r.lost] 65)) = w5 at *
  generalize w4.heap.size = S5 at *
  refine (unhide HI w5 _ _ _ _ _ _ _ ho4.rd).mono ?_
  rintro e w6 ⟨rfl, hB⟩
  have hA6 := unhide BS _ _ hA5 hB
  replace l0 := l0.all hB
  replace l5 := l5.all hB
  replace ho4 := ho4.keep hB
  clear hA5 hB
  obtain ⟨x0, x1, x2, x3, x4, x5, x6, x7, x8, x9⟩ := l0.ten
  obtain ⟨y0, y1, y2, y3, y4, y5, y6, y7, y8, y9⟩ := l5.ten
  go_wp2_with fail
  go_region_held3 (fun w' => w'.cell? ⟨S, 0, none⟩ = some (.int .i64 r.id) ∧ w'.cell? ⟨S, 1, none⟩ = some (.int .i64 r.clock) ∧ w'.cell? ⟨S, 2, none⟩ = some (.int .i64 z) ∧ w'.cell? ⟨S, 3, none⟩ = some (.slice ab nb cb) ∧ w'.cell? ⟨S, 4, none⟩ = some (.slice ac nc cc) ∧ w'.cell? ⟨S, 5, none⟩ = some (.slice ad nd cd) ∧ w'.cell? ⟨S, 6, none⟩ = some (.slice ae ne ce) ∧ w'.cell? ⟨S, 7, none⟩ = some (.slice ao no co) ∧ w'.cell? ⟨S, 8, none⟩ = some (.slice au nu cu) ∧ w'.cell? ⟨S, 9, none⟩ = some (.bool r.lost) ∧ w'.cell? ⟨S5, 0, none⟩ = some (.int .i64 r.id) ∧ w'.cell? ⟨S5, 1, none⟩ = some (.int .i64 r.clock) ∧ w'.cell? ⟨S5, 2, none⟩ = some (.int .i64 kdq) ∧ w'.cell? ⟨S5, 3, none⟩ = some (.slice a1q n1q c1q) ∧ w'.cell? ⟨S5, 4, none⟩ = some (.slice a2q n2q c2q) ∧ w'.cell? ⟨S5, 5, none⟩ = some (.slice a3q n3q c3q) ∧ w'.cell? ⟨S5, 6, none⟩ = some (.slice a4q n4q c4q) ∧ w'.cell? ⟨S5, 7, none⟩ = some (.slice a5q no c5q) ∧ w'.cell? ⟨S5, 8, none⟩ = some (.slice a6q nu c6q) ∧ w'.cell? ⟨S5, 9, none⟩ = some (.bool r.lost))
    (first | exact ⟨by assumption, by assumption, by assumption, by assumption, by assumption, by assumption, by assumption, by assumption, by assumption, by assumption, by assumption, by assumption, by assumption, by assumption, by assumption, by assumption, by assumption, by assumption, by assumption, by assumption⟩ | simp [*])
    (first
      | (go_at_call 25; refine (unhide HT _ hA6.drew).mono ?_; rintro e w7 ⟨kds, a1s, n1s, c1s, a2s, n2s, c2s, a3s, n3s, c3s, a4s, n4s, c4s, a5s, c5s, a6s, c6s, rfl, F7, ho7, _, _, hB7⟩; have hE7 := bstep ((Below.refl w6.heap.size w6).drew) hB7; have hD7 := unhide BS _ _ hA6 hE7; obtain ⟨x0, x1, x2, x3, x4, x5, x6, x7, x8, x9⟩ := (l0.all hE7).ten; obtain ⟨y0, y1, y2, y3, y4, y5, y6, y7, y8, y9⟩ := (l5.all hE7).ten)
      | (go_at_call 27; refine (unhide HE _ _ _ _ _ _ _ _ _ _ _ _ _ _ _ (ho4.keep hE7).rd ho7.rd).mono ?_; rintro e w8 ⟨rfl, hB8⟩; have hE8 := bstep hE7 hB8; have hD8 := unhide BS _ _ hA6 hE8; obtain ⟨x0, x1, x2, x3, x4, x5, x6, x7, x8, x9⟩ := (l0.all hE8).ten; obtain ⟨y0, y1, y2, y3, y4, y5, y6, y7, y8, y9⟩ := (l5.all hE8).ten))
  clear x0 x1 x2 x3 x4 x5 x6 x7 x8 x9 y0 y1 y2 y3 y4 y5 y6 y7 y8 y9 l0 l5 ho4 ho7
  go_wp2_with fail
  go_ret
  exact ⟨rfl, by rw [hSS]; exact hD8⟩
end Go.Proofs.YtfhekoipnlmhoaaGreat

/- An argument of a law that can be read as data is a row of numbers, a stamp, an operation: what the data's readings open to. No condition. -/
namespace Go.Proofs.YtfhekoipnlmhoaaGreat
open Go.RowKit Go.ChangeShapes
set_option linter.unusedVariables false
set_option maxRecDepth 100000

variable {H : Type} {enc : TypeId × Value → H} {W : World} {held : Bool}

theorem open_bytesO {fuel : Nat} {cs : List Value} {x : DataW H × List MemPlace} (h : DataW.trod enc Tryz.prog W 0 (fun _ => true) held fuel 22 cs = some x) :
    ∃ v l, cs = [v] ∧ Byt W v l := by
  rcases open_ints Tryz.underlying22 Tryz.underlying5 (by kernel_rfl) h with ⟨hcs, _⟩ | ⟨a, len, cap, zs, hcs, _, hl, hm, hz, _, hcell, hwz⟩
  · exact ⟨_, _, hcs, byt_of_row (zs := []) (.inl ⟨rfl, rfl, rfl, rfl⟩)⟩
  · exact ⟨_, _, hcs, byt_of_row (.inr ⟨_, rfl, hl, hm, by simpa using hz, hcell, hwz⟩)⟩
theorem open_intsO {fuel : Nat} {cs : List Value} {x : DataW H × List MemPlace} (h : DataW.trod enc Tryz.prog W 0 (fun _ => true) held fuel 26 cs = some x) :
    ∃ v l, cs = [v] ∧ Ints W v l := by
  rcases open_ints Tryz.underlying26 Tryz.underlying3 (by kernel_rfl) h with ⟨hcs, _⟩ | ⟨a, len, cap, zs, hcs, _, hl, hm, hz, _, hcell, hwz⟩
  · exact ⟨_, _, hcs, ints_of_row (zs := []) (.inl ⟨rfl, rfl, rfl, rfl⟩)⟩
  · exact ⟨_, _, hcs, ints_of_row (.inr ⟨_, rfl, hl, hm, by simpa using hz, hcell, hwz⟩)⟩

theorem some_atO {α : Type} {l : List α} {n i : Nat} (h : l.length = n) (hi : i < n) : ∃ y, l[i]? = some y := ⟨l[i]'(by omega), List.getElem?_eq_getElem (by omega)⟩

/-- An argument that is a row of bytes. -/
theorem arg_bytesO {r : Reach} {base : Nat} {v : Value} {d : DataW H} {p : List MemPlace} (hv : Value.okWide Tryz.prog W r base 22 v) (h : DataW.Trod enc Tryz.prog W 0 (fun _ => true) held 22 v d p) : ∃ l, Byt W v l := by
  obtain ⟨a, len, cap, rfl⟩ := WideShapes.okWide_slice Tryz.underlying22 hv
  obtain ⟨fuel, hf⟩ := h
  obtain ⟨u, l, hu, hb⟩ := open_bytesO hf
  simp [Value.cells] at hu
  subst hu
  exact ⟨l, hb⟩
/-- An argument that is a row of numbers. -/
theorem arg_ints {r : Reach} {base : Nat} {v : Value} {d : DataW H} {p : List MemPlace} (hv : Value.okWide Tryz.prog W r base 26 v) (h : DataW.Trod enc Tryz.prog W 0 (fun _ => true) held 26 v d p) : ∃ l, Ints W v l := by
  obtain ⟨a, len, cap, rfl⟩ := WideShapes.okWide_slice Tryz.underlying26 hv
  obtain ⟨fuel, hf⟩ := h
  obtain ⟨u, l, hu, hb⟩ := open_intsO hf
  simp [Value.cells] at hu
  subst hu
  exact ⟨l, hb⟩

theorem open_id {fuel : Nat} {cs : List Value} {x : DataW H × List MemPlace} (h : DataW.trod enc Tryz.prog W 0 (fun _ => true) held fuel 39 cs = some x) : ∃ n r : Int, cs = [.int .i64 n, .int .i64 r] := by
  obtain ⟨xs, n, _, _, hlen, hxs, hf⟩ := DataW.trod_struct Tryz.underlying39 h
  have hlen2 : cs.length = 2 := hlen.trans (by kernel_rfl)
  match cs, hlen2 with
  | [c0, c1], _ =>
    obtain ⟨y0, e0⟩ := some_atO (i := 0) hxs (by simp)
    obtain ⟨y1, e1⟩ := some_atO (i := 1) hxs (by simp)
    have h0 : DataW.trod enc Tryz.prog W 0 (fun _ => true) held n 3 (([c0, c1].drop 0).take (Tryz.prog.cellsOf 3)) = some y0 := (hf 0 _ rfl).trans e0
    have h1 : DataW.trod enc Tryz.prog W 0 (fun _ => true) held n 3 (([c0, c1].drop 1).take (Tryz.prog.cellsOf 3)) = some y1 := (hf 1 _ rfl).trans e1
    have k1 : Tryz.prog.cellsOf 3 = 1 := by kernel_rfl
    simp only [k1, List.drop, List.take] at h0 h1
    obtain ⟨z0, g0, _, _⟩ := DataW.trod_int Tryz.underlying3 h0
    obtain ⟨z1, g1, _, _⟩ := DataW.trod_int Tryz.underlying3 h1
    simp at g0 g1
    subst g0; subst g1
    exact ⟨z0, z1, rfl⟩
/-- An argument that is a stamp. -/
theorem arg_id {r : Reach} {base : Nat} {v : Value} {x : DataW H} {p : List MemPlace} (hv : Value.okWide Tryz.prog W r base 39 v) (h : DataW.Trod enc Tryz.prog W 0 (fun _ => true) held 39 v x p) :
    ∃ n m : Int, v = .agg #[.int .i64 n, .int .i64 m] := by
  obtain ⟨cs, rfl, hsz⟩ := WideShapes.okWide_struct Tryz.underlying39 hv
  obtain ⟨fuel, hf⟩ := h
  obtain ⟨n, m, e⟩ := open_id hf
  refine ⟨n, m, ?_⟩
  obtain ⟨l⟩ := cs
  have e' : l = [.int .i64 n, .int .i64 m] := e
  rw [e']
end Go.Proofs.YtfhekoipnlmhoaaGreat

/- An argument of a law that can be read as data is an operation: what the data's reading opens to. No condition. -/
namespace Go.Proofs.YtfhekoipnlmhoaaGreat
open Go.RowKit Go.ChangeShapes
set_option linter.unusedVariables false
set_option maxRecDepth 100000

variable {H : Type} {enc : TypeId × Value → H} {W : World} {held : Bool}

theorem open_op {fuel : Nat} {cs : List Value} {x : DataW H × List MemPlace} (h : DataW.trod enc Tryz.prog W 0 (fun _ => true) held fuel 41 cs = some x) : ∃ o, RdOp W (.agg cs.toArray) o := by
  obtain ⟨xs, n, _, _, hlen, hxs, hf⟩ := DataW.trod_struct Tryz.underlying41 h
  have hlen2 : cs.length = 12 := hlen.trans (by kernel_rfl)
  match cs, hlen2 with
  | [c0, c1, c2, c3, c4, c5, c6, c7, c8, c9, c10, c11], _ =>
    obtain ⟨y0, e0⟩ := some_atO (i := 0) hxs (by simp)
    obtain ⟨y1, e1⟩ := some_atO (i := 1) hxs (by simp)
    obtain ⟨y2, e2⟩ := some_atO (i := 2) hxs (by simp)
    obtain ⟨y3, e3⟩ := some_atO (i := 3) hxs (by simp)
    obtain ⟨y4, e4⟩ := some_atO (i := 4) hxs (by simp)
    obtain ⟨y5, e5⟩ := some_atO (i := 5) hxs (by simp)
    obtain ⟨y6, e6⟩ := some_atO (i := 6) hxs (by simp)
    obtain ⟨y7, e7⟩ := some_atO (i := 7) hxs (by simp)
    obtain ⟨y8, e8⟩ := some_atO (i := 8) hxs (by simp)
    have h0 : DataW.trod enc Tryz.prog W 0 (fun _ => true) held n 3 (([c0, c1, c2, c3, c4, c5, c6, c7, c8, c9, c10, c11].drop 0).take (Tryz.prog.cellsOf 3)) = some y0 := (hf 0 _ rfl).trans e0
    have h1 : DataW.trod enc Tryz.prog W 0 (fun _ => true) held n 39 (([c0, c1, c2, c3, c4, c5, c6, c7, c8, c9, c10, c11].drop 1).take (Tryz.prog.cellsOf 39)) = some y1 := (hf 1 _ rfl).trans e1
    have h2 : DataW.trod enc Tryz.prog W 0 (fun _ => true) held n 39 (([c0, c1, c2, c3, c4, c5, c6, c7, c8, c9, c10, c11].drop 3).take (Tryz.prog.cellsOf 39)) = some y2 := (hf 2 _ rfl).trans e2
    have h3 : DataW.trod enc Tryz.prog W 0 (fun _ => true) held n 39 (([c0, c1, c2, c3, c4, c5, c6, c7, c8, c9, c10, c11].drop 5).take (Tryz.prog.cellsOf 39)) = some y3 := (hf 3 _ rfl).trans e3
    have h4 : DataW.trod enc Tryz.prog W 0 (fun _ => true) held n 26 (([c0, c1, c2, c3, c4, c5, c6, c7, c8, c9, c10, c11].drop 7).take (Tryz.prog.cellsOf 26)) = some y4 := (hf 4 _ rfl).trans e4
    have h5 : DataW.trod enc Tryz.prog W 0 (fun _ => true) held n 3 (([c0, c1, c2, c3, c4, c5, c6, c7, c8, c9, c10, c11].drop 8).take (Tryz.prog.cellsOf 3)) = some y5 := (hf 5 _ rfl).trans e5
    have h6 : DataW.trod enc Tryz.prog W 0 (fun _ => true) held n 22 (([c0, c1, c2, c3, c4, c5, c6, c7, c8, c9, c10, c11].drop 9).take (Tryz.prog.cellsOf 22)) = some y6 := (hf 6 _ rfl).trans e6
    have h7 : DataW.trod enc Tryz.prog W 0 (fun _ => true) held n 22 (([c0, c1, c2, c3, c4, c5, c6, c7, c8, c9, c10, c11].drop 10).take (Tryz.prog.cellsOf 22)) = some y7 := (hf 7 _ rfl).trans e7
    have h8 : DataW.trod enc Tryz.prog W 0 (fun _ => true) held n 4 (([c0, c1, c2, c3, c4, c5, c6, c7, c8, c9, c10, c11].drop 11).take (Tryz.prog.cellsOf 4)) = some y8 := (hf 8 _ rfl).trans e8
    have ki : Tryz.prog.cellsOf 3 = 1 := by kernel_rfl
    have k1 : Tryz.prog.cellsOf 22 = 1 := by kernel_rfl
    have k2 : Tryz.prog.cellsOf 26 = 1 := by kernel_rfl
    have k3 : Tryz.prog.cellsOf 39 = 2 := by kernel_rfl
    have k4 : Tryz.prog.cellsOf 4 = 1 := by kernel_rfl
    simp only [ki, k1, k2, k3, k4, List.drop, List.take] at h0 h1 h2 h3 h4 h5 h6 h7 h8
    obtain ⟨z0, g0, _, _⟩ := DataW.trod_int Tryz.underlying3 h0
    obtain ⟨z1, z2, g1⟩ := open_id h1
    obtain ⟨z3, z4, g2⟩ := open_id h2
    obtain ⟨z5, z6, g3⟩ := open_id h3
    obtain ⟨v7, l7, g4, b7⟩ := open_intsO h4
    obtain ⟨z8, g5, _, _⟩ := DataW.trod_int Tryz.underlying3 h5
    obtain ⟨v9, l9, g6, b9⟩ := open_bytesO h6
    obtain ⟨v10, l10, g7, b10⟩ := open_bytesO h7
    obtain ⟨z11, g8, _⟩ := DataW.trod_bool Tryz.underlying4 h8
    simp at g0 g1 g2 g3 g4 g5 g6 g7 g8
    obtain ⟨rfl, rfl⟩ := g1
    obtain ⟨rfl, rfl⟩ := g2
    obtain ⟨rfl, rfl⟩ := g3
    subst g0; subst g4; subst g5; subst g6; subst g7; subst g8
    exact ⟨⟨z0, z1, z2, z3, z4, z5, z6, l7, z8, l9, l10, z11⟩, _, _, _, rfl, b7, b9, b10⟩
/-- An argument that is an operation. -/
theorem arg_op {r : Reach} {base : Nat} {v : Value} {x : DataW H} {p : List MemPlace} (hv : Value.okWide Tryz.prog W r base 41 v) (h : DataW.Trod enc Tryz.prog W 0 (fun _ => true) held 41 v x p) :
    ∃ o, RdOp W v o := by
  obtain ⟨cs, rfl, hsz⟩ := WideShapes.okWide_struct Tryz.underlying41 hv
  obtain ⟨fuel, hf⟩ := h
  obtain ⟨l⟩ := cs
  exact open_op hf
end Go.Proofs.YtfhekoipnlmhoaaGreat

/- An argument of a law that can be read as data is a row of operations. No condition. -/
namespace Go.Proofs.YtfhekoipnlmhoaaGreat
open Go.RowKit Go.ChangeShapes
set_option linter.unusedVariables false
set_option maxRecDepth 100000

variable {H : Type} {enc : TypeId × Value → H} {W : World} {held : Bool}

theorem opc_of {C : List Value} {o : OpV} (h : RdOp W (.agg C.toArray) o) : RdOpC W C o := by
  obtain ⟨k, n, t, e, h1, h2, h3⟩ := h
  refine ⟨k, n, t, ?_, h1, h2, h3⟩
  unfold opVal at e
  have e1 := Value.agg.inj e
  have e2 := congrArg Array.toList e1
  simpa using e2
/-- An argument that is a row of operations. -/
theorem arg_ops {r : Reach} {base : Nat} {v : Value} {d : DataW H} {p : List MemPlace} (hv : Value.okWide Tryz.prog W r base 38 v) (h : DataW.Trod enc Tryz.prog W 0 (fun _ => true) held 38 v d p) : ∃ l, RdOps W v l := by
  obtain ⟨a, len, cap, rfl⟩ := WideShapes.okWide_slice Tryz.underlying38 hv
  obtain ⟨fuel, hf⟩ := h
  obtain ⟨u, l, hu, hb⟩ := open_elems (sz := 12) (R := RdOpC W) Tryz.underlying38 (by kernel_rfl) (by omega) (fun n C y _ hy => (open_op hy).imp fun o ho => opc_of ho) hf
  simp [Value.cells] at hu
  subst hu
  exact ⟨l, hb⟩
end Go.Proofs.YtfhekoipnlmhoaaGreat

/- An argument of a law that can be read as data is a replica. No condition. -/
namespace Go.Proofs.YtfhekoipnlmhoaaGreat
open Go.RowKit Go.ChangeShapes
set_option linter.unusedVariables false
set_option maxRecDepth 100000

variable {H : Type} {enc : TypeId × Value → H} {W : World} {held : Bool}

theorem open_rep {fuel : Nat} {cs : List Value} {x : DataW H × List MemPlace} (h : DataW.trod enc Tryz.prog W 0 (fun _ => true) held fuel 56 cs = some x) : ∃ (m : Nat) (r : RepV m) (a b c d e vo vu : Value), cs = [.int .i64 r.id, .int .i64 r.clock, a, b, c, d, e, vo, vu, .bool r.lost] ∧ RdRep m W a b c d e vo vu r := by
  obtain ⟨xs, n, _, _, hlen, hxs, hf⟩ := DataW.trod_struct Tryz.underlying56 h
  have hlen2 : cs.length = 10 := hlen.trans (by kernel_rfl)
  match cs, hlen2 with
  | [c0, c1, c2, c3, c4, c5, c6, c7, c8, c9], _ =>
    obtain ⟨y0, e0⟩ := some_atO (i := 0) hxs (by simp)
    obtain ⟨y1, e1⟩ := some_atO (i := 1) hxs (by simp)
    obtain ⟨y2, e2⟩ := some_atO (i := 2) hxs (by simp)
    obtain ⟨y3, e3⟩ := some_atO (i := 3) hxs (by simp)
    obtain ⟨y4, e4⟩ := some_atO (i := 4) hxs (by simp)
    obtain ⟨y5, e5⟩ := some_atO (i := 5) hxs (by simp)
    have h0 : DataW.trod enc Tryz.prog W 0 (fun _ => true) held n 3 (([c0, c1, c2, c3, c4, c5, c6, c7, c8, c9].drop 0).take (Tryz.prog.cellsOf 3)) = some y0 := (hf 0 _ rfl).trans e0
    have h1 : DataW.trod enc Tryz.prog W 0 (fun _ => true) held n 3 (([c0, c1, c2, c3, c4, c5, c6, c7, c8, c9].drop 1).take (Tryz.prog.cellsOf 3)) = some y1 := (hf 1 _ rfl).trans e1
    have h2 : DataW.trod enc Tryz.prog W 0 (fun _ => true) held n 53 (([c0, c1, c2, c3, c4, c5, c6, c7, c8, c9].drop 2).take (Tryz.prog.cellsOf 53)) = some y2 := (hf 2 _ rfl).trans e2
    have h3 : DataW.trod enc Tryz.prog W 0 (fun _ => true) held n 38 (([c0, c1, c2, c3, c4, c5, c6, c7, c8, c9].drop 7).take (Tryz.prog.cellsOf 38)) = some y3 := (hf 3 _ rfl).trans e3
    have h4 : DataW.trod enc Tryz.prog W 0 (fun _ => true) held n 54 (([c0, c1, c2, c3, c4, c5, c6, c7, c8, c9].drop 8).take (Tryz.prog.cellsOf 54)) = some y4 := (hf 4 _ rfl).trans e4
    have h5 : DataW.trod enc Tryz.prog W 0 (fun _ => true) held n 4 (([c0, c1, c2, c3, c4, c5, c6, c7, c8, c9].drop 9).take (Tryz.prog.cellsOf 4)) = some y5 := (hf 5 _ rfl).trans e5
    have ki : Tryz.prog.cellsOf 3 = 1 := by kernel_rfl
    have k1 : Tryz.prog.cellsOf 53 = 5 := by kernel_rfl
    have k2 : Tryz.prog.cellsOf 38 = 1 := by kernel_rfl
    have k3 : Tryz.prog.cellsOf 54 = 1 := by kernel_rfl
    have k4 : Tryz.prog.cellsOf 4 = 1 := by kernel_rfl
    simp only [ki, k1, k2, k3, k4, List.drop, List.take] at h0 h1 h2 h3 h4 h5
    obtain ⟨z0, g0, _, _⟩ := DataW.trod_int Tryz.underlying3 h0
    obtain ⟨z1, g1, _, _⟩ := DataW.trod_int Tryz.underlying3 h1
    obtain ⟨t, ht⟩ := open_node (n + 1) (by omega) h2
    obtain ⟨v3, l3, g3, b3⟩ := open_elems (sz := 12) (R := RdOpC W) Tryz.underlying38 (by kernel_rfl) (by omega) (fun n C y _ hy => (open_op hy).imp fun o ho => opc_of ho) h3
    obtain ⟨v4, l4, g4, b4⟩ := open_elems (sz := 2) (R := RdIdC) Tryz.underlying54 (by kernel_rfl) (by omega) (fun n C y _ hy => by
      obtain ⟨p, q, e⟩ := open_id hy
      exact ⟨(p, q), e⟩) h4
    obtain ⟨z5, g5, _⟩ := DataW.trod_bool Tryz.underlying4 h5
    simp at g0 g1 g3 g4 g5
    subst g0; subst g1; subst g3; subst g4; subst g5
    exact ⟨n, ⟨z0, z1, t, l3, l4, z5⟩, _, _, _, _, _, _, _, rfl, ht, b3, b4⟩
/-- An argument that is a replica. -/
theorem arg_rep {r : Reach} {base : Nat} {v : Value} {x : DataW H} {p : List MemPlace} (hv : Value.okWide Tryz.prog W r base 56 v) (h : DataW.Trod enc Tryz.prog W 0 (fun _ => true) held 56 v x p) :
    ∃ (a b c d e vo vu : Value) (m : Nat) (r : RepV m), v = repVal r a b c d e vo vu ∧ RdRep m W a b c d e vo vu r := by
  obtain ⟨cs, rfl, hsz⟩ := WideShapes.okWide_struct Tryz.underlying56 hv
  obtain ⟨fuel, hf⟩ := h
  obtain ⟨l⟩ := cs
  obtain ⟨m, r, a, b, c, d, e, vo, vu, el, hr⟩ := open_rep hf
  have el' : l = [.int .i64 r.id, .int .i64 r.clock, a, b, c, d, e, vo, vu, .bool r.lost] := el
  exact ⟨a, b, c, d, e, vo, vu, m, r, by rw [el']; rfl, hr⟩
end Go.Proofs.YtfhekoipnlmhoaaGreat
