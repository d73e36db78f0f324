/- Own texts joined: BytI, DrawO, RopX, EqB, RimI, Mark, MarkZ, MarkO, Apart. -/
import Derived.Test.YtcabolcfoijglaaJa
import Derived.Test.YtcabolcfoijglaaJb
import Derived.Test.YtcabolcfoijglaaJc
import Derived.Test.YtcabolcfoijglaaJd
import Derived.Test.YtcabolcfoijglaaJe
import Derived.Test.YtcabolcfoijglaaJf
import Derived.Test.YtcabolcfoijglaaJg
import Derived.Test.YtcabolcfoijglaaJh
import Derived.Deep.CutBlock
import Derived.Test.YtcabolcfoijglaaChecked

/- impl.OpBytes tells the bytes of an operation that may be. -/
namespace Go.Proofs.Ytcabolcfoijglaa
open Go.RowKit
set_option linter.unusedVariables false
set_option maxRecDepth 100000

theorem ints_at1 {W : World} {g : Nat} {n : Int} (h : W.cell? ⟨g, 0, none⟩ = some (.int .i64 n)) (hn : inR n) : Ints W (.slice (some ⟨g, 0, none⟩) 1 1) [n] := by
  refine ⟨okZ_in hn, by simp [maxLen], .inr (.inr ⟨g, 0, 1, rfl, by simp, by simp [maxLen], by simp, lt_of_cell h, fun i hi => ?_⟩)⟩
  have : i = 0 := by simpa using hi
  subst this
  exact h
theorem putNum_at (w : World) (base : Nat) (v : Value) (l : List Int) (n : Int) (g : Nat) (h : Own w base v l) (hb : base ≤ w.heap.size) (hn : inR n) (c0 : w.cell? ⟨g, 0, none⟩ = some (.int .i64 n)) (hl : l.length ≤ 20000000) :
    Calls Try.prog 29 #[v, .slice (some ⟨g, 0, none⟩) 1 1] w fun e w' => ∃ a c, e = .returned (.slice a (putAll l n).length c) ∧ Own w' base (.slice a (putAll l n).length c) (putAll l n) ∧ Below w.heap.size w w' :=
  putNums_any w base v _ l [n] h hb (ints_at1 c0 hn) hl (by simp)
theorem putId_at (w : World) (base : Nat) (v : Value) (l : List Int) (n r : Int) (g : Nat) (h : Own w base v l) (hb : base ≤ w.heap.size) (hn : inR n) (hr : inR r) (c0 : w.cell? ⟨g, 0, none⟩ = some (.int .i64 n)) (c1 : w.cell? ⟨g, 1, none⟩ = some (.int .i64 r)) (hl : l.length ≤ 10000000) :
    Calls Try.prog 28 #[v, .slice (some ⟨g, 0, none⟩) 1 1] w fun e w' => ∃ a c, e = .returned (.slice a (putId l n r).length c) ∧ Own w' base (.slice a (putId l n r).length c) (putId l n r) ∧ Below w.heap.size w w' :=
  putIds_any w base v l [(n, r)] g 0 1 h hb hl (by simp) (lt_of_cell c0) (fun x hx => by simp at hx; subst hx; exact okZ_in2 hn hr)
    (fun j hj => by have : j = 0 := by simpa using hj
                    subst this; exact c0)
    (fun j hj => by have : j = 0 := by simpa using hj
                    subst this; exact c1)
theorem putId_at2 (w : World) (base : Nat) (v : Value) (l : List Int) (n r n' r' : Int) (g : Nat) (h : Own w base v l) (hb : base ≤ w.heap.size) (hn : inR n) (hr : inR r) (hn' : inR n') (hr' : inR r') (c0 : w.cell? ⟨g, 0, none⟩ = some (.int .i64 n)) (c1 : w.cell? ⟨g, 1, none⟩ = some (.int .i64 r)) (c2 : w.cell? ⟨g, 2, none⟩ = some (.int .i64 n')) (c3 : w.cell? ⟨g, 3, none⟩ = some (.int .i64 r')) (hl : l.length ≤ 10000000) :
    Calls Try.prog 28 #[v, .slice (some ⟨g, 0, none⟩) 2 2] w fun e w' => ∃ a c, e = .returned (.slice a (putId (putId l n r) n' r').length c) ∧ Own w' base (.slice a (putId (putId l n r) n' r').length c) (putId (putId l n r) n' r') ∧ Below w.heap.size w w' :=
  putIds_any w base v l [(n, r), (n', r')] g 0 2 h hb hl (by simp) (lt_of_cell c0) (fun x hx => by
      simp at hx
      rcases hx with rfl | rfl
      · exact okZ_in2 hn hr
      · exact okZ_in2 hn' hr')
    (fun j hj => by have : j = 0 ∨ j = 1 := by simp at hj; omega
                    rcases this with rfl | rfl
                    · exact c0
                    · exact c2)
    (fun j hj => by have : j = 0 ∨ j = 1 := by simp at hj; omega
                    rcases this with rfl | rfl
                    · exact c1
                    · exact c3)
theorem putId_len2 (l : List Int) (n r n' r' : Int) : (putId (putId l n r) n' r').length ≤ l.length + 20 := by
  have := putId_len (putId l n r) n' r'
  have := putId_len l n r
  omega
theorem putVal_len (l t : List Int) (g : Bool) : (putVal l t g).length ≤ l.length + 50 := by
  unfold putVal
  split
  · have := putAll_len l 1; omega
  · have := putT_len (putAll l 0) t
    have := putAll_len l 0
    omega

set_option maxHeartbeats 12800000 in
theorem bytesI_0 (w : World) (o : OpV) (a1 a2 a3 : Option Addr) (c1 c2 c3 : Nat) (hk : Ints w (.slice a1 o.key.length c1) o.key) (hn : Byt w (.slice a2 o.name.length c2) o.name) (ht : Byt w (.slice a3 o.text.length c3) o.text) (hs : o.key.length ≤ 2097152) (hb : opB o = true) (F1 : inR o.atN) (F2 : inR o.atR) (F5 : inR o.parN) (F6 : inR o.parR) (F8 : inR o.elem) (k0 : o.kind = 0) :
    Calls Try.prog 7 #[opVal o (.slice a1 o.key.length c1) (.slice a2 o.name.length c2) (.slice a3 o.text.length c3)] w fun e w' => ∃ a c, e = .returned (.tuple #[.slice a (opBytes o).length c, .bool true]) ∧ Own w' w.heap.size (.slice a (opBytes o).length c) (opBytes o) ∧ Below w.heap.size w w' := by
  have HK := hide hk
  have HM := hide hn
  have HX := hide ht
  clear hk hn ht
  have Ln : ([] : List Int).length = 0 := rfl
  have HO := hide (fun (W : World) (hW : Below w.heap.size w W) => opI_any W _ o ⟨_, _, _, rfl, (unhide HK).keep hW, (unhide HM).keep hW, (unhide HX).keep hW⟩)
  rw [hb] at HO
  clear hb
  unfold opVal at HO
  rw [k0] at HO
  obtain ⟨r1, e1⟩ : ∃ r, r = putAll ([] : List Int) 0 := ⟨_, rfl⟩
  have L1 := putAll_len ([] : List Int) 0
  have H1 := hide (fun (W : World) (hW : Below w.heap.size w W) (v : Value) (h : Own W w.heap.size v ([] : List Int)) (g : Nat) (c0 : W.cell? ⟨g, 0, none⟩ = some (.int .i64 (0))) => putNum_at W w.heap.size v ([] : List Int) 0 g h hW.size ⟨by decide, by decide⟩ c0 (by omega))
  rw [← e1] at L1 H1
  obtain ⟨r2, e2⟩ : ∃ r, r = putId r1 o.atN o.atR := ⟨_, rfl⟩
  have L2 := putId_len r1 o.atN o.atR
  have H2 := hide (fun (W : World) (hW : Below w.heap.size w W) (v : Value) (h : Own W w.heap.size v r1) (g : Nat) (c0 : W.cell? ⟨g, 0, none⟩ = some (.int .i64 o.atN)) (c1 : W.cell? ⟨g, 1, none⟩ = some (.int .i64 o.atR)) => putId_at W w.heap.size v r1 o.atN o.atR g h hW.size F1 F2 c0 c1 (by omega))
  rw [← e2] at L2 H2
  obtain ⟨r3, e3⟩ : ∃ r, r = putId r2 o.parN o.parR := ⟨_, rfl⟩
  have L3 := putId_len r2 o.parN o.parR
  have H3 := hide (fun (W : World) (hW : Below w.heap.size w W) (v : Value) (h : Own W w.heap.size v r2) (g : Nat) (c0 : W.cell? ⟨g, 0, none⟩ = some (.int .i64 o.parN)) (c1 : W.cell? ⟨g, 1, none⟩ = some (.int .i64 o.parR)) => putId_at W w.heap.size v r2 o.parN o.parR g h hW.size F5 F6 c0 c1 (by omega))
  rw [← e3] at L3 H3
  obtain ⟨r4, e4⟩ : ∃ r, r = putKey r3 o.key := ⟨_, rfl⟩
  have L4 := putKey_len r3 o.key
  have H4 := hide (fun (W : World) (hW : Below w.heap.size w W) (v : Value) (h : Own W w.heap.size v r3) => putKey_any W w.heap.size v _ r3 o.key h hW.size ((unhide HK).keep hW) (by omega) (by omega))
  rw [← e4] at L4 H4
  obtain ⟨r5, e5⟩ : ∃ r, r = putAll r4 o.elem := ⟨_, rfl⟩
  have L5 := putAll_len r4 o.elem
  have H5 := hide (fun (W : World) (hW : Below w.heap.size w W) (v : Value) (h : Own W w.heap.size v r4) (g : Nat) (c0 : W.cell? ⟨g, 0, none⟩ = some (.int .i64 (o.elem))) => putNum_at W w.heap.size v r4 o.elem g h hW.size F8 c0 (by omega))
  rw [← e5] at L5 H5
  obtain ⟨r6, e6⟩ : ∃ r, r = putT r5 o.name := ⟨_, rfl⟩
  have L6 := putT_len r5 o.name
  have H6 := hide (fun (W : World) (hW : Below w.heap.size w W) (v : Value) (h : Own W w.heap.size v r5) => rw_base (putTI_own W v _ r5 o.name h.byt ((unhide HM).keep hW) (by omega)) hW.size)
  rw [← e6] at L6 H6
  obtain ⟨r7, e7⟩ : ∃ r, r = putT r6 o.text := ⟨_, rfl⟩
  have L7 := putT_len r6 o.text
  have H7 := hide (fun (W : World) (hW : Below w.heap.size w W) (v : Value) (h : Own W w.heap.size v r6) => rw_base (putTI_own W v _ r6 o.text h.byt ((unhide HX).keep hW) (by omega)) hW.size)
  rw [← e7] at L7 H7
  have HE := hide (show opBytes o = r7 by unfold opBytes opHd; rw [k0, if_pos rfl]; rw [e7, e6, e5, e4, e3, e2, e1])
  clear e7 L7 e6 L6 e5 L5 e4 L4 e3 L3 e2 L2 e1 L1
  have hA0 : Below w.heap.size w (w.alloc (.cells #[.int .i64 0, .int .i64 o.atN, .int .i64 o.atR, .int .i64 o.nodeN, .int .i64 o.nodeR, .int .i64 o.parN, .int .i64 o.parR, .slice a1 o.key.length c1, .int .i64 o.elem, .slice a2 o.name.length c2, .slice a3 o.text.length c3, .bool o.gone] 27)) := (Below.refl w.heap.size w).alloc (Nat.le_refl _) _
  have l0 := Loc.made w #[.int .i64 0, .int .i64 o.atN, .int .i64 o.atR, .int .i64 o.nodeN, .int .i64 o.nodeR, .int .i64 o.parN, .int .i64 o.parR, .slice a1 o.key.length c1, .int .i64 o.elem, .slice a2 o.name.length c2, .slice a3 o.text.length c3, .bool o.gone] 27
  rw [unhide HE]
  clear HE
  unfold opVal
  rw [k0]
  go_enter Try.func7, Try.ntmps7
  go_wp2_with fail
  generalize (w.alloc (.cells #[.int .i64 0, .int .i64 o.atN, .int .i64 o.atR, .int .i64 o.nodeN, .int .i64 o.nodeR, .int .i64 o.parN, .int .i64 o.parR, .slice a1 o.key.length c1, .int .i64 o.elem, .slice a2 o.name.length c2, .slice a3 o.text.length c3, .bool o.gone] 27)) = w0 at *
  refine (unhide HO w0 hA0).mono ?_
  clear HO
  rintro e w1 ⟨rfl, hB0⟩
  have hA1 := bstep hA0 hB0
  have l1 := l0.all hB0
  clear hA0 l0 hB0
  obtain ⟨x0, x1, x2, x3, x4, x5, x6, x7, x8, x9, x10, x11⟩ := l1.twelve
  go_wp2_with fail
  clear x0 x1 x2 x3 x4 x5 x6 x7 x8 x9 x10 x11
  obtain ⟨x0, x1, x2, x3, x4, x5, x6, x7, x8, x9, x10, x11⟩ := l1.twelve
  go_region_held3 (fun w' => w'.cell? ⟨w.heap.size, 0, none⟩ = some (.int .i64 0) ∧ w'.cell? ⟨w.heap.size, 1, none⟩ = some (.int .i64 o.atN) ∧ w'.cell? ⟨w.heap.size, 2, none⟩ = some (.int .i64 o.atR))
    (first | exact ⟨by assumption, by assumption, by assumption⟩ | go_keep)
    (first
      | (go_at_call 29; refine (unhide H1 _ (by repeat (first | exact hA1 | exact Below.refl _ _ | refine balloc2 ?_ | refine Below.drew ?_)) _ (own_nil2 _ _) _ (by first | (simp; done))).mono ?_; clear H1; rintro e w11 ⟨b1, d1, rfl, ho1, hB1⟩; have hA11 := bstep (a := w) (by repeat (first | exact hA1 | exact Below.refl _ _ | refine balloc2 ?_ | refine Below.drew ?_)) hB1; have hD11 := bstep (a := w1) (by repeat (first | exact Below.refl _ _ | exact Below.refl _ _ | refine balloc2 ?_ | refine Below.drew ?_)) hB1; have hY1 := fun p v h => cell_later hB1 (p := p) (v := v) h; obtain ⟨x0, x1, x2, x3, x4, x5, x6, x7, x8, x9, x10, x11⟩ := (l1.all hD11).twelve)
      | (go_at_call 28; refine (unhide H2 _ (by repeat (first | exact hA11 | exact Below.refl _ _ | refine balloc2 ?_ | refine Below.drew ?_)) _ (ho1.keep (by repeat (first | exact Below.refl _ _ | exact Below.refl _ _ | refine balloc2 ?_ | refine Below.drew ?_))) _ (by first | (simp; done) | exact (hY1 _ _ (by simp))) (by first | (simp; done) | exact (hY1 _ _ (by simp)))).mono ?_; clear H2; rintro e w12 ⟨b2, d2, rfl, ho2, hB2⟩; have hA12 := bstep (a := w) (by repeat (first | exact hA11 | exact Below.refl _ _ | refine balloc2 ?_ | refine Below.drew ?_)) hB2; have hD12 := bstep (a := w1) (by repeat (first | exact hD11 | exact Below.refl _ _ | refine balloc2 ?_ | refine Below.drew ?_)) hB2; have hY2 := fun p v h => cell_later hB2 (p := p) (v := v) h; obtain ⟨x0, x1, x2, x3, x4, x5, x6, x7, x8, x9, x10, x11⟩ := (l1.all hD12).twelve))
  all_goals
    have l12 := l1.all hD12
    clear x0 x1 x2 x3 x4 x5 x6 x7 x8 x9 x10 x11 hY1 hB1 hD11 hY2 hB2 hD12 ho1 hA11
    obtain ⟨x0, x1, x2, x3, x4, x5, x6, x7, x8, x9, x10, x11⟩ := l12.twelve
    go_wp2_with fail
    clear x0 x1 x2 x3 x4 x5 x6 x7 x8 x9 x10 x11
    obtain ⟨x0, x1, x2, x3, x4, x5, x6, x7, x8, x9, x10, x11⟩ := l12.twelve
    go_region_held3 (fun w' => w'.cell? ⟨w.heap.size, 5, none⟩ = some (.int .i64 o.parN) ∧ w'.cell? ⟨w.heap.size, 6, none⟩ = some (.int .i64 o.parR) ∧ w'.cell? ⟨w.heap.size, 7, none⟩ = some (.slice a1 o.key.length c1) ∧ w'.cell? ⟨w.heap.size, 8, none⟩ = some (.int .i64 o.elem))
      (first | exact ⟨by assumption, by assumption, by assumption, by assumption⟩ | go_keep)
      (first
        | (go_at_call 28; refine (unhide H3 _ (by repeat (first | exact hA12 | exact Below.refl _ _ | refine balloc2 ?_ | refine Below.drew ?_)) _ (ho2.keep (by repeat (first | exact Below.refl _ _ | exact Below.refl _ _ | refine balloc2 ?_ | refine Below.drew ?_))) _ (by first | (simp; done)) (by first | (simp; done))).mono ?_; clear H3; rintro e w13 ⟨b3, d3, rfl, ho3, hB3⟩; have hA13 := bstep (a := w) (by repeat (first | exact hA12 | exact Below.refl _ _ | refine balloc2 ?_ | refine Below.drew ?_)) hB3; have hD13 := bstep (a := w12) (by repeat (first | exact Below.refl _ _ | exact Below.refl _ _ | refine balloc2 ?_ | refine Below.drew ?_)) hB3; have hY3 := fun p v h => cell_later hB3 (p := p) (v := v) h; obtain ⟨x0, x1, x2, x3, x4, x5, x6, x7, x8, x9, x10, x11⟩ := (l12.all hD13).twelve)
        | (go_at_call 30; refine (unhide H4 _ (by repeat (first | exact hA13 | exact Below.refl _ _ | refine balloc2 ?_ | refine Below.drew ?_)) _ (ho3.keep (by repeat (first | exact Below.refl _ _ | exact Below.refl _ _ | refine balloc2 ?_ | refine Below.drew ?_)))).mono ?_; clear H4; rintro e w14 ⟨b4, d4, rfl, ho4, hB4⟩; have hA14 := bstep (a := w) (by repeat (first | exact hA13 | exact Below.refl _ _ | refine balloc2 ?_ | refine Below.drew ?_)) hB4; have hD14 := bstep (a := w12) (by repeat (first | exact hD13 | exact Below.refl _ _ | refine balloc2 ?_ | refine Below.drew ?_)) hB4; have hY4 := fun p v h => cell_later hB4 (p := p) (v := v) h; obtain ⟨x0, x1, x2, x3, x4, x5, x6, x7, x8, x9, x10, x11⟩ := (l12.all hD14).twelve)
        | (go_at_call 29; refine (unhide H5 _ (by repeat (first | exact hA14 | exact Below.refl _ _ | refine balloc2 ?_ | refine Below.drew ?_)) _ (ho4.keep (by repeat (first | exact Below.refl _ _ | exact Below.refl _ _ | refine balloc2 ?_ | refine Below.drew ?_))) _ (by first | (simp; done) | exact (hY4 _ _ (by simp)) | exact (hY4 _ _ (hY3 _ _ (by simp))))).mono ?_; clear H5; rintro e w15 ⟨b5, d5, rfl, ho5, hB5⟩; have hA15 := bstep (a := w) (by repeat (first | exact hA14 | exact Below.refl _ _ | refine balloc2 ?_ | refine Below.drew ?_)) hB5; have hD15 := bstep (a := w12) (by repeat (first | exact hD14 | exact Below.refl _ _ | refine balloc2 ?_ | refine Below.drew ?_)) hB5; have hY5 := fun p v h => cell_later hB5 (p := p) (v := v) h; obtain ⟨x0, x1, x2, x3, x4, x5, x6, x7, x8, x9, x10, x11⟩ := (l12.all hD15).twelve))
    all_goals
      have l15 := l12.all hD15
      clear x0 x1 x2 x3 x4 x5 x6 x7 x8 x9 x10 x11 hY3 hB3 hD13 hY4 hB4 hD14 hY5 hB5 hD15 ho3 ho4 hA13 hA14
      obtain ⟨x0, x1, x2, x3, x4, x5, x6, x7, x8, x9, x10, x11⟩ := l15.twelve
      go_wp2_with fail
      clear x0 x1 x2 x3 x4 x5 x6 x7 x8 x9 x10 x11
      obtain ⟨x0, x1, x2, x3, x4, x5, x6, x7, x8, x9, x10, x11⟩ := l15.twelve
      go_region_held3 (fun w' => w'.cell? ⟨w.heap.size, 9, none⟩ = some (.slice a2 o.name.length c2) ∧ w'.cell? ⟨w.heap.size, 10, none⟩ = some (.slice a3 o.text.length c3))
        (first | exact ⟨by assumption, by assumption⟩ | go_keep)
        (first
          | (go_at_call 31; refine (unhide H6 _ (by repeat (first | exact hA15 | exact Below.refl _ _ | refine balloc2 ?_ | refine Below.drew ?_)) _ (ho5.keep (by repeat (first | exact Below.refl _ _ | exact Below.refl _ _ | refine balloc2 ?_ | refine Below.drew ?_)))).mono ?_; clear H6; rintro e w16 ⟨b6, d6, rfl, ho6, hB6⟩; have hA16 := bstep (a := w) (by repeat (first | exact hA15 | exact Below.refl _ _ | refine balloc2 ?_ | refine Below.drew ?_)) hB6; have hD16 := bstep (a := w15) (by repeat (first | exact Below.refl _ _ | exact Below.refl _ _ | refine balloc2 ?_ | refine Below.drew ?_)) hB6; have hY6 := fun p v h => cell_later hB6 (p := p) (v := v) h; obtain ⟨x0, x1, x2, x3, x4, x5, x6, x7, x8, x9, x10, x11⟩ := (l15.all hD16).twelve)
          | (go_at_call 31; refine (unhide H7 _ (by repeat (first | exact hA16 | exact Below.refl _ _ | refine balloc2 ?_ | refine Below.drew ?_)) _ (ho6.keep (by repeat (first | exact Below.refl _ _ | exact Below.refl _ _ | refine balloc2 ?_ | refine Below.drew ?_)))).mono ?_; clear H7; rintro e w17 ⟨b7, d7, rfl, ho7, hB7⟩; have hA17 := bstep (a := w) (by repeat (first | exact hA16 | exact Below.refl _ _ | refine balloc2 ?_ | refine Below.drew ?_)) hB7; have hD17 := bstep (a := w15) (by repeat (first | exact hD16 | exact Below.refl _ _ | refine balloc2 ?_ | refine Below.drew ?_)) hB7; have hY7 := fun p v h => cell_later hB7 (p := p) (v := v) h; obtain ⟨x0, x1, x2, x3, x4, x5, x6, x7, x8, x9, x10, x11⟩ := (l15.all hD17).twelve))
      all_goals
        have l17 := l15.all hD17
        clear x0 x1 x2 x3 x4 x5 x6 x7 x8 x9 x10 x11 hY6 hB6 hD16 hY7 hB7 hD17 ho6 hA16
        obtain ⟨x0, x1, x2, x3, x4, x5, x6, x7, x8, x9, x10, x11⟩ := l17.twelve
        go_wp2_with fail
        clear x0 x1 x2 x3 x4 x5 x6 x7 x8 x9 x10 x11
        go_ret2
        exact ⟨b7, d7, rfl, ho7, hA17⟩

set_option maxHeartbeats 12800000 in
theorem bytesI_1 (w : World) (o : OpV) (a1 a2 a3 : Option Addr) (c1 c2 c3 : Nat) (hk : Ints w (.slice a1 o.key.length c1) o.key) (hn : Byt w (.slice a2 o.name.length c2) o.name) (ht : Byt w (.slice a3 o.text.length c3) o.text) (hs : o.key.length ≤ 2097152) (hb : opB o = true) (F1 : inR o.atN) (F2 : inR o.atR) (F3 : inR o.nodeN) (F4 : inR o.nodeR) (F5 : inR o.parN) (F6 : inR o.parR) (k0 : o.kind = 1) :
    Calls Try.prog 7 #[opVal o (.slice a1 o.key.length c1) (.slice a2 o.name.length c2) (.slice a3 o.text.length c3)] w fun e w' => ∃ a c, e = .returned (.tuple #[.slice a (opBytes o).length c, .bool true]) ∧ Own w' w.heap.size (.slice a (opBytes o).length c) (opBytes o) ∧ Below w.heap.size w w' := by
  have HK := hide hk
  have HM := hide hn
  have HX := hide ht
  clear hk hn ht
  have Ln : ([] : List Int).length = 0 := rfl
  have HO := hide (fun (W : World) (hW : Below w.heap.size w W) => opI_any W _ o ⟨_, _, _, rfl, (unhide HK).keep hW, (unhide HM).keep hW, (unhide HX).keep hW⟩)
  rw [hb] at HO
  clear hb
  unfold opVal at HO
  rw [k0] at HO
  obtain ⟨r1, e1⟩ : ∃ r, r = putAll ([] : List Int) 1 := ⟨_, rfl⟩
  have L1 := putAll_len ([] : List Int) 1
  have H1 := hide (fun (W : World) (hW : Below w.heap.size w W) (v : Value) (h : Own W w.heap.size v ([] : List Int)) (g : Nat) (c0 : W.cell? ⟨g, 0, none⟩ = some (.int .i64 (1))) => putNum_at W w.heap.size v ([] : List Int) 1 g h hW.size ⟨by decide, by decide⟩ c0 (by omega))
  rw [← e1] at L1 H1
  obtain ⟨r2, e2⟩ : ∃ r, r = putId r1 o.atN o.atR := ⟨_, rfl⟩
  have L2 := putId_len r1 o.atN o.atR
  have H2 := hide (fun (W : World) (hW : Below w.heap.size w W) (v : Value) (h : Own W w.heap.size v r1) (g : Nat) (c0 : W.cell? ⟨g, 0, none⟩ = some (.int .i64 o.atN)) (c1 : W.cell? ⟨g, 1, none⟩ = some (.int .i64 o.atR)) => putId_at W w.heap.size v r1 o.atN o.atR g h hW.size F1 F2 c0 c1 (by omega))
  rw [← e2] at L2 H2
  obtain ⟨r3, e3⟩ : ∃ r, r = putId (putId r2 o.nodeN o.nodeR) o.parN o.parR := ⟨_, rfl⟩
  have L3 := putId_len2 r2 o.nodeN o.nodeR o.parN o.parR
  have H3 := hide (fun (W : World) (hW : Below w.heap.size w W) (v : Value) (h : Own W w.heap.size v r2) (g : Nat) (c0 : W.cell? ⟨g, 0, none⟩ = some (.int .i64 o.nodeN)) (c1 : W.cell? ⟨g, 1, none⟩ = some (.int .i64 o.nodeR)) (c2 : W.cell? ⟨g, 2, none⟩ = some (.int .i64 o.parN)) (c3 : W.cell? ⟨g, 3, none⟩ = some (.int .i64 o.parR)) => putId_at2 W w.heap.size v r2 o.nodeN o.nodeR o.parN o.parR g h hW.size F3 F4 F5 F6 c0 c1 c2 c3 (by omega))
  rw [← e3] at L3 H3
  obtain ⟨r4, e4⟩ : ∃ r, r = putKey r3 o.key := ⟨_, rfl⟩
  have L4 := putKey_len r3 o.key
  have H4 := hide (fun (W : World) (hW : Below w.heap.size w W) (v : Value) (h : Own W w.heap.size v r3) => putKey_any W w.heap.size v _ r3 o.key h hW.size ((unhide HK).keep hW) (by omega) (by omega))
  rw [← e4] at L4 H4
  have HE := hide (show opBytes o = r4 by unfold opBytes opHd; rw [k0, if_neg (by decide), if_pos rfl]; rw [e4, e3, e2, e1])
  clear e4 L4 e3 L3 e2 L2 e1 L1
  have hA0 : Below w.heap.size w (w.alloc (.cells #[.int .i64 1, .int .i64 o.atN, .int .i64 o.atR, .int .i64 o.nodeN, .int .i64 o.nodeR, .int .i64 o.parN, .int .i64 o.parR, .slice a1 o.key.length c1, .int .i64 o.elem, .slice a2 o.name.length c2, .slice a3 o.text.length c3, .bool o.gone] 27)) := (Below.refl w.heap.size w).alloc (Nat.le_refl _) _
  have l0 := Loc.made w #[.int .i64 1, .int .i64 o.atN, .int .i64 o.atR, .int .i64 o.nodeN, .int .i64 o.nodeR, .int .i64 o.parN, .int .i64 o.parR, .slice a1 o.key.length c1, .int .i64 o.elem, .slice a2 o.name.length c2, .slice a3 o.text.length c3, .bool o.gone] 27
  rw [unhide HE]
  clear HE
  unfold opVal
  rw [k0]
  go_enter Try.func7, Try.ntmps7
  go_wp2_with fail
  generalize (w.alloc (.cells #[.int .i64 1, .int .i64 o.atN, .int .i64 o.atR, .int .i64 o.nodeN, .int .i64 o.nodeR, .int .i64 o.parN, .int .i64 o.parR, .slice a1 o.key.length c1, .int .i64 o.elem, .slice a2 o.name.length c2, .slice a3 o.text.length c3, .bool o.gone] 27)) = w0 at *
  refine (unhide HO w0 hA0).mono ?_
  clear HO
  rintro e w1 ⟨rfl, hB0⟩
  have hA1 := bstep hA0 hB0
  have l1 := l0.all hB0
  clear hA0 l0 hB0
  obtain ⟨x0, x1, x2, x3, x4, x5, x6, x7, x8, x9, x10, x11⟩ := l1.twelve
  go_wp2_with fail
  clear x0 x1 x2 x3 x4 x5 x6 x7 x8 x9 x10 x11
  obtain ⟨x0, x1, x2, x3, x4, x5, x6, x7, x8, x9, x10, x11⟩ := l1.twelve
  go_region_held3 (fun w' => w'.cell? ⟨w.heap.size, 0, none⟩ = some (.int .i64 1) ∧ w'.cell? ⟨w.heap.size, 1, none⟩ = some (.int .i64 o.atN) ∧ w'.cell? ⟨w.heap.size, 2, none⟩ = some (.int .i64 o.atR))
    (first | exact ⟨by assumption, by assumption, by assumption⟩ | go_keep)
    (first
      | (go_at_call 29; refine (unhide H1 _ (by repeat (first | exact hA1 | exact Below.refl _ _ | refine balloc2 ?_ | refine Below.drew ?_)) _ (own_nil2 _ _) _ (by first | (simp; done))).mono ?_; clear H1; rintro e w11 ⟨b1, d1, rfl, ho1, hB1⟩; have hA11 := bstep (a := w) (by repeat (first | exact hA1 | exact Below.refl _ _ | refine balloc2 ?_ | refine Below.drew ?_)) hB1; have hD11 := bstep (a := w1) (by repeat (first | exact Below.refl _ _ | exact Below.refl _ _ | refine balloc2 ?_ | refine Below.drew ?_)) hB1; have hY1 := fun p v h => cell_later hB1 (p := p) (v := v) h; obtain ⟨x0, x1, x2, x3, x4, x5, x6, x7, x8, x9, x10, x11⟩ := (l1.all hD11).twelve)
      | (go_at_call 28; refine (unhide H2 _ (by repeat (first | exact hA11 | exact Below.refl _ _ | refine balloc2 ?_ | refine Below.drew ?_)) _ (ho1.keep (by repeat (first | exact Below.refl _ _ | exact Below.refl _ _ | refine balloc2 ?_ | refine Below.drew ?_))) _ (by first | (simp; done) | exact (hY1 _ _ (by simp))) (by first | (simp; done) | exact (hY1 _ _ (by simp)))).mono ?_; clear H2; rintro e w12 ⟨b2, d2, rfl, ho2, hB2⟩; have hA12 := bstep (a := w) (by repeat (first | exact hA11 | exact Below.refl _ _ | refine balloc2 ?_ | refine Below.drew ?_)) hB2; have hD12 := bstep (a := w1) (by repeat (first | exact hD11 | exact Below.refl _ _ | refine balloc2 ?_ | refine Below.drew ?_)) hB2; have hY2 := fun p v h => cell_later hB2 (p := p) (v := v) h; obtain ⟨x0, x1, x2, x3, x4, x5, x6, x7, x8, x9, x10, x11⟩ := (l1.all hD12).twelve))
  all_goals
    have l12 := l1.all hD12
    clear x0 x1 x2 x3 x4 x5 x6 x7 x8 x9 x10 x11 hY1 hB1 hD11 hY2 hB2 hD12 ho1 hA11
    obtain ⟨x0, x1, x2, x3, x4, x5, x6, x7, x8, x9, x10, x11⟩ := l12.twelve
    go_wp2_with fail
    clear x0 x1 x2 x3 x4 x5 x6 x7 x8 x9 x10 x11
    obtain ⟨x0, x1, x2, x3, x4, x5, x6, x7, x8, x9, x10, x11⟩ := l12.twelve
    go_region_held3 (fun w' => w'.cell? ⟨w.heap.size, 3, none⟩ = some (.int .i64 o.nodeN) ∧ w'.cell? ⟨w.heap.size, 4, none⟩ = some (.int .i64 o.nodeR) ∧ w'.cell? ⟨w.heap.size, 5, none⟩ = some (.int .i64 o.parN) ∧ w'.cell? ⟨w.heap.size, 6, none⟩ = some (.int .i64 o.parR) ∧ w'.cell? ⟨w.heap.size, 7, none⟩ = some (.slice a1 o.key.length c1))
      (first | exact ⟨by assumption, by assumption, by assumption, by assumption, by assumption⟩ | go_keep)
      (first
        | (go_at_call 28; refine (unhide H3 _ (by repeat (first | exact hA12 | exact Below.refl _ _ | refine balloc2 ?_ | refine Below.drew ?_)) _ (ho2.keep (by repeat (first | exact Below.refl _ _ | exact Below.refl _ _ | refine balloc2 ?_ | refine Below.drew ?_))) _ (by first | (simp; done)) (by first | (simp; done)) (by first | (simp; done)) (by first | (simp; done))).mono ?_; clear H3; rintro e w13 ⟨b3, d3, rfl, ho3, hB3⟩; have hA13 := bstep (a := w) (by repeat (first | exact hA12 | exact Below.refl _ _ | refine balloc2 ?_ | refine Below.drew ?_)) hB3; have hD13 := bstep (a := w12) (by repeat (first | exact Below.refl _ _ | exact Below.refl _ _ | refine balloc2 ?_ | refine Below.drew ?_)) hB3; have hY3 := fun p v h => cell_later hB3 (p := p) (v := v) h; obtain ⟨x0, x1, x2, x3, x4, x5, x6, x7, x8, x9, x10, x11⟩ := (l12.all hD13).twelve)
        | (go_at_call 30; refine (unhide H4 _ (by repeat (first | exact hA13 | exact Below.refl _ _ | refine balloc2 ?_ | refine Below.drew ?_)) _ (ho3.keep (by repeat (first | exact Below.refl _ _ | exact Below.refl _ _ | refine balloc2 ?_ | refine Below.drew ?_)))).mono ?_; clear H4; rintro e w14 ⟨b4, d4, rfl, ho4, hB4⟩; have hA14 := bstep (a := w) (by repeat (first | exact hA13 | exact Below.refl _ _ | refine balloc2 ?_ | refine Below.drew ?_)) hB4; have hD14 := bstep (a := w12) (by repeat (first | exact hD13 | exact Below.refl _ _ | refine balloc2 ?_ | refine Below.drew ?_)) hB4; have hY4 := fun p v h => cell_later hB4 (p := p) (v := v) h; obtain ⟨x0, x1, x2, x3, x4, x5, x6, x7, x8, x9, x10, x11⟩ := (l12.all hD14).twelve))
    all_goals
      have l14 := l12.all hD14
      clear x0 x1 x2 x3 x4 x5 x6 x7 x8 x9 x10 x11 hY3 hB3 hD13 hY4 hB4 hD14 ho3 hA13
      obtain ⟨x0, x1, x2, x3, x4, x5, x6, x7, x8, x9, x10, x11⟩ := l14.twelve
      go_wp2_with fail
      clear x0 x1 x2 x3 x4 x5 x6 x7 x8 x9 x10 x11
      go_ret2
      exact ⟨b4, d4, rfl, ho4, hA14⟩

set_option maxHeartbeats 12800000 in
theorem bytesI_2 (w : World) (o : OpV) (a1 a2 a3 : Option Addr) (c1 c2 c3 : Nat) (hk : Ints w (.slice a1 o.key.length c1) o.key) (hn : Byt w (.slice a2 o.name.length c2) o.name) (ht : Byt w (.slice a3 o.text.length c3) o.text) (hs : o.key.length ≤ 2097152) (hb : opB o = true) (F1 : inR o.atN) (F2 : inR o.atR) (F3 : inR o.nodeN) (F4 : inR o.nodeR) (k0 : o.kind = 2) :
    Calls Try.prog 7 #[opVal o (.slice a1 o.key.length c1) (.slice a2 o.name.length c2) (.slice a3 o.text.length c3)] w fun e w' => ∃ a c, e = .returned (.tuple #[.slice a (opBytes o).length c, .bool true]) ∧ Own w' w.heap.size (.slice a (opBytes o).length c) (opBytes o) ∧ Below w.heap.size w w' := by
  have HK := hide hk
  have HM := hide hn
  have HX := hide ht
  clear hk hn ht
  have Ln : ([] : List Int).length = 0 := rfl
  have HO := hide (fun (W : World) (hW : Below w.heap.size w W) => opI_any W _ o ⟨_, _, _, rfl, (unhide HK).keep hW, (unhide HM).keep hW, (unhide HX).keep hW⟩)
  rw [hb] at HO
  clear hb
  unfold opVal at HO
  rw [k0] at HO
  obtain ⟨r1, e1⟩ : ∃ r, r = putAll ([] : List Int) 2 := ⟨_, rfl⟩
  have L1 := putAll_len ([] : List Int) 2
  have H1 := hide (fun (W : World) (hW : Below w.heap.size w W) (v : Value) (h : Own W w.heap.size v ([] : List Int)) (g : Nat) (c0 : W.cell? ⟨g, 0, none⟩ = some (.int .i64 (2))) => putNum_at W w.heap.size v ([] : List Int) 2 g h hW.size ⟨by decide, by decide⟩ c0 (by omega))
  rw [← e1] at L1 H1
  obtain ⟨r2, e2⟩ : ∃ r, r = putId r1 o.atN o.atR := ⟨_, rfl⟩
  have L2 := putId_len r1 o.atN o.atR
  have H2 := hide (fun (W : World) (hW : Below w.heap.size w W) (v : Value) (h : Own W w.heap.size v r1) (g : Nat) (c0 : W.cell? ⟨g, 0, none⟩ = some (.int .i64 o.atN)) (c1 : W.cell? ⟨g, 1, none⟩ = some (.int .i64 o.atR)) => putId_at W w.heap.size v r1 o.atN o.atR g h hW.size F1 F2 c0 c1 (by omega))
  rw [← e2] at L2 H2
  obtain ⟨r3, e3⟩ : ∃ r, r = putId r2 o.nodeN o.nodeR := ⟨_, rfl⟩
  have L3 := putId_len r2 o.nodeN o.nodeR
  have H3 := hide (fun (W : World) (hW : Below w.heap.size w W) (v : Value) (h : Own W w.heap.size v r2) (g : Nat) (c0 : W.cell? ⟨g, 0, none⟩ = some (.int .i64 o.nodeN)) (c1 : W.cell? ⟨g, 1, none⟩ = some (.int .i64 o.nodeR)) => putId_at W w.heap.size v r2 o.nodeN o.nodeR g h hW.size F3 F4 c0 c1 (by omega))
  rw [← e3] at L3 H3
  obtain ⟨r4, e4⟩ : ∃ r, r = putT r3 o.text := ⟨_, rfl⟩
  have L4 := putT_len r3 o.text
  have H4 := hide (fun (W : World) (hW : Below w.heap.size w W) (v : Value) (h : Own W w.heap.size v r3) => rw_base (putTI_own W v _ r3 o.text h.byt ((unhide HX).keep hW) (by omega)) hW.size)
  rw [← e4] at L4 H4
  have HE := hide (show opBytes o = r4 by unfold opBytes opHd; rw [k0, if_neg (by decide), if_neg (by decide), if_pos rfl]; rw [e4, e3, e2, e1])
  clear e4 L4 e3 L3 e2 L2 e1 L1
  have hA0 : Below w.heap.size w (w.alloc (.cells #[.int .i64 2, .int .i64 o.atN, .int .i64 o.atR, .int .i64 o.nodeN, .int .i64 o.nodeR, .int .i64 o.parN, .int .i64 o.parR, .slice a1 o.key.length c1, .int .i64 o.elem, .slice a2 o.name.length c2, .slice a3 o.text.length c3, .bool o.gone] 27)) := (Below.refl w.heap.size w).alloc (Nat.le_refl _) _
  have l0 := Loc.made w #[.int .i64 2, .int .i64 o.atN, .int .i64 o.atR, .int .i64 o.nodeN, .int .i64 o.nodeR, .int .i64 o.parN, .int .i64 o.parR, .slice a1 o.key.length c1, .int .i64 o.elem, .slice a2 o.name.length c2, .slice a3 o.text.length c3, .bool o.gone] 27
  rw [unhide HE]
  clear HE
  unfold opVal
  rw [k0]
  go_enter Try.func7, Try.ntmps7
  go_wp2_with fail
  generalize (w.alloc (.cells #[.int .i64 2, .int .i64 o.atN, .int .i64 o.atR, .int .i64 o.nodeN, .int .i64 o.nodeR, .int .i64 o.parN, .int .i64 o.parR, .slice a1 o.key.length c1, .int .i64 o.elem, .slice a2 o.name.length c2, .slice a3 o.text.length c3, .bool o.gone] 27)) = w0 at *
  refine (unhide HO w0 hA0).mono ?_
  clear HO
  rintro e w1 ⟨rfl, hB0⟩
  have hA1 := bstep hA0 hB0
  have l1 := l0.all hB0
  clear hA0 l0 hB0
  obtain ⟨x0, x1, x2, x3, x4, x5, x6, x7, x8, x9, x10, x11⟩ := l1.twelve
  go_wp2_with fail
  clear x0 x1 x2 x3 x4 x5 x6 x7 x8 x9 x10 x11
  obtain ⟨x0, x1, x2, x3, x4, x5, x6, x7, x8, x9, x10, x11⟩ := l1.twelve
  go_region_held3 (fun w' => w'.cell? ⟨w.heap.size, 0, none⟩ = some (.int .i64 2) ∧ w'.cell? ⟨w.heap.size, 1, none⟩ = some (.int .i64 o.atN) ∧ w'.cell? ⟨w.heap.size, 2, none⟩ = some (.int .i64 o.atR))
    (first | exact ⟨by assumption, by assumption, by assumption⟩ | go_keep)
    (first
      | (go_at_call 29; refine (unhide H1 _ (by repeat (first | exact hA1 | exact Below.refl _ _ | refine balloc2 ?_ | refine Below.drew ?_)) _ (own_nil2 _ _) _ (by first | (simp; done))).mono ?_; clear H1; rintro e w11 ⟨b1, d1, rfl, ho1, hB1⟩; have hA11 := bstep (a := w) (by repeat (first | exact hA1 | exact Below.refl _ _ | refine balloc2 ?_ | refine Below.drew ?_)) hB1; have hD11 := bstep (a := w1) (by repeat (first | exact Below.refl _ _ | exact Below.refl _ _ | refine balloc2 ?_ | refine Below.drew ?_)) hB1; have hY1 := fun p v h => cell_later hB1 (p := p) (v := v) h; obtain ⟨x0, x1, x2, x3, x4, x5, x6, x7, x8, x9, x10, x11⟩ := (l1.all hD11).twelve)
      | (go_at_call 28; refine (unhide H2 _ (by repeat (first | exact hA11 | exact Below.refl _ _ | refine balloc2 ?_ | refine Below.drew ?_)) _ (ho1.keep (by repeat (first | exact Below.refl _ _ | exact Below.refl _ _ | refine balloc2 ?_ | refine Below.drew ?_))) _ (by first | (simp; done) | exact (hY1 _ _ (by simp))) (by first | (simp; done) | exact (hY1 _ _ (by simp)))).mono ?_; clear H2; rintro e w12 ⟨b2, d2, rfl, ho2, hB2⟩; have hA12 := bstep (a := w) (by repeat (first | exact hA11 | exact Below.refl _ _ | refine balloc2 ?_ | refine Below.drew ?_)) hB2; have hD12 := bstep (a := w1) (by repeat (first | exact hD11 | exact Below.refl _ _ | refine balloc2 ?_ | refine Below.drew ?_)) hB2; have hY2 := fun p v h => cell_later hB2 (p := p) (v := v) h; obtain ⟨x0, x1, x2, x3, x4, x5, x6, x7, x8, x9, x10, x11⟩ := (l1.all hD12).twelve))
  all_goals
    have l12 := l1.all hD12
    clear x0 x1 x2 x3 x4 x5 x6 x7 x8 x9 x10 x11 hY1 hB1 hD11 hY2 hB2 hD12 ho1 hA11
    obtain ⟨x0, x1, x2, x3, x4, x5, x6, x7, x8, x9, x10, x11⟩ := l12.twelve
    go_wp2_with fail
    clear x0 x1 x2 x3 x4 x5 x6 x7 x8 x9 x10 x11
    obtain ⟨x0, x1, x2, x3, x4, x5, x6, x7, x8, x9, x10, x11⟩ := l12.twelve
    go_region_held3 (fun w' => w'.cell? ⟨w.heap.size, 3, none⟩ = some (.int .i64 o.nodeN) ∧ w'.cell? ⟨w.heap.size, 4, none⟩ = some (.int .i64 o.nodeR) ∧ w'.cell? ⟨w.heap.size, 10, none⟩ = some (.slice a3 o.text.length c3))
      (first | exact ⟨by assumption, by assumption, by assumption⟩ | go_keep)
      (first
        | (go_at_call 28; refine (unhide H3 _ (by repeat (first | exact hA12 | exact Below.refl _ _ | refine balloc2 ?_ | refine Below.drew ?_)) _ (ho2.keep (by repeat (first | exact Below.refl _ _ | exact Below.refl _ _ | refine balloc2 ?_ | refine Below.drew ?_))) _ (by first | (simp; done)) (by first | (simp; done))).mono ?_; clear H3; rintro e w13 ⟨b3, d3, rfl, ho3, hB3⟩; have hA13 := bstep (a := w) (by repeat (first | exact hA12 | exact Below.refl _ _ | refine balloc2 ?_ | refine Below.drew ?_)) hB3; have hD13 := bstep (a := w12) (by repeat (first | exact Below.refl _ _ | exact Below.refl _ _ | refine balloc2 ?_ | refine Below.drew ?_)) hB3; have hY3 := fun p v h => cell_later hB3 (p := p) (v := v) h; obtain ⟨x0, x1, x2, x3, x4, x5, x6, x7, x8, x9, x10, x11⟩ := (l12.all hD13).twelve)
        | (go_at_call 31; refine (unhide H4 _ (by repeat (first | exact hA13 | exact Below.refl _ _ | refine balloc2 ?_ | refine Below.drew ?_)) _ (ho3.keep (by repeat (first | exact Below.refl _ _ | exact Below.refl _ _ | refine balloc2 ?_ | refine Below.drew ?_)))).mono ?_; clear H4; rintro e w14 ⟨b4, d4, rfl, ho4, hB4⟩; have hA14 := bstep (a := w) (by repeat (first | exact hA13 | exact Below.refl _ _ | refine balloc2 ?_ | refine Below.drew ?_)) hB4; have hD14 := bstep (a := w12) (by repeat (first | exact hD13 | exact Below.refl _ _ | refine balloc2 ?_ | refine Below.drew ?_)) hB4; have hY4 := fun p v h => cell_later hB4 (p := p) (v := v) h; obtain ⟨x0, x1, x2, x3, x4, x5, x6, x7, x8, x9, x10, x11⟩ := (l12.all hD14).twelve))
    all_goals
      have l14 := l12.all hD14
      clear x0 x1 x2 x3 x4 x5 x6 x7 x8 x9 x10 x11 hY3 hB3 hD13 hY4 hB4 hD14 ho3 hA13
      obtain ⟨x0, x1, x2, x3, x4, x5, x6, x7, x8, x9, x10, x11⟩ := l14.twelve
      go_wp2_with fail
      clear x0 x1 x2 x3 x4 x5 x6 x7 x8 x9 x10 x11
      go_ret2
      exact ⟨b4, d4, rfl, ho4, hA14⟩

set_option maxHeartbeats 12800000 in
theorem bytesI_3 (w : World) (o : OpV) (a1 a2 a3 : Option Addr) (c1 c2 c3 : Nat) (hk : Ints w (.slice a1 o.key.length c1) o.key) (hn : Byt w (.slice a2 o.name.length c2) o.name) (ht : Byt w (.slice a3 o.text.length c3) o.text) (hs : o.key.length ≤ 2097152) (hb : opB o = true) (F1 : inR o.atN) (F2 : inR o.atR) (F3 : inR o.nodeN) (F4 : inR o.nodeR) (k0 : o.kind = 3) :
    Calls Try.prog 7 #[opVal o (.slice a1 o.key.length c1) (.slice a2 o.name.length c2) (.slice a3 o.text.length c3)] w fun e w' => ∃ a c, e = .returned (.tuple #[.slice a (opBytes o).length c, .bool true]) ∧ Own w' w.heap.size (.slice a (opBytes o).length c) (opBytes o) ∧ Below w.heap.size w w' := by
  have HK := hide hk
  have HM := hide hn
  have HX := hide ht
  clear hk hn ht
  have Ln : ([] : List Int).length = 0 := rfl
  have HO := hide (fun (W : World) (hW : Below w.heap.size w W) => opI_any W _ o ⟨_, _, _, rfl, (unhide HK).keep hW, (unhide HM).keep hW, (unhide HX).keep hW⟩)
  rw [hb] at HO
  clear hb
  unfold opVal at HO
  rw [k0] at HO
  obtain ⟨r1, e1⟩ : ∃ r, r = putAll ([] : List Int) 3 := ⟨_, rfl⟩
  have L1 := putAll_len ([] : List Int) 3
  have H1 := hide (fun (W : World) (hW : Below w.heap.size w W) (v : Value) (h : Own W w.heap.size v ([] : List Int)) (g : Nat) (c0 : W.cell? ⟨g, 0, none⟩ = some (.int .i64 (3))) => putNum_at W w.heap.size v ([] : List Int) 3 g h hW.size ⟨by decide, by decide⟩ c0 (by omega))
  rw [← e1] at L1 H1
  obtain ⟨r2, e2⟩ : ∃ r, r = putId r1 o.atN o.atR := ⟨_, rfl⟩
  have L2 := putId_len r1 o.atN o.atR
  have H2 := hide (fun (W : World) (hW : Below w.heap.size w W) (v : Value) (h : Own W w.heap.size v r1) (g : Nat) (c0 : W.cell? ⟨g, 0, none⟩ = some (.int .i64 o.atN)) (c1 : W.cell? ⟨g, 1, none⟩ = some (.int .i64 o.atR)) => putId_at W w.heap.size v r1 o.atN o.atR g h hW.size F1 F2 c0 c1 (by omega))
  rw [← e2] at L2 H2
  obtain ⟨r3, e3⟩ : ∃ r, r = putId r2 o.nodeN o.nodeR := ⟨_, rfl⟩
  have L3 := putId_len r2 o.nodeN o.nodeR
  have H3 := hide (fun (W : World) (hW : Below w.heap.size w W) (v : Value) (h : Own W w.heap.size v r2) (g : Nat) (c0 : W.cell? ⟨g, 0, none⟩ = some (.int .i64 o.nodeN)) (c1 : W.cell? ⟨g, 1, none⟩ = some (.int .i64 o.nodeR)) => putId_at W w.heap.size v r2 o.nodeN o.nodeR g h hW.size F3 F4 c0 c1 (by omega))
  rw [← e3] at L3 H3
  obtain ⟨r4, e4⟩ : ∃ r, r = putT r3 o.name := ⟨_, rfl⟩
  have L4 := putT_len r3 o.name
  have H4 := hide (fun (W : World) (hW : Below w.heap.size w W) (v : Value) (h : Own W w.heap.size v r3) => rw_base (putTI_own W v _ r3 o.name h.byt ((unhide HM).keep hW) (by omega)) hW.size)
  rw [← e4] at L4 H4
  obtain ⟨r5, e5⟩ : ∃ r, r = putVal r4 o.text o.gone := ⟨_, rfl⟩
  have L5 := putVal_len r4 o.text o.gone
  have H5 := hide (fun (W : World) (hW : Below w.heap.size w W) (v : Value) (h : Own W w.heap.size v r4) => putVal_any W w.heap.size v _ r4 o.text o.gone h hW.size ((unhide HX).keep hW) (by omega))
  rw [← e5] at L5 H5
  have HE := hide (show opBytes o = r5 by unfold opBytes opHd; rw [k0, if_neg (by decide), if_neg (by decide), if_neg (by decide)]; rw [e5, e4, e3, e2, e1]; unfold putVal; rfl)
  clear e5 L5 e4 L4 e3 L3 e2 L2 e1 L1
  have hA0 : Below w.heap.size w (w.alloc (.cells #[.int .i64 3, .int .i64 o.atN, .int .i64 o.atR, .int .i64 o.nodeN, .int .i64 o.nodeR, .int .i64 o.parN, .int .i64 o.parR, .slice a1 o.key.length c1, .int .i64 o.elem, .slice a2 o.name.length c2, .slice a3 o.text.length c3, .bool o.gone] 27)) := (Below.refl w.heap.size w).alloc (Nat.le_refl _) _
  have l0 := Loc.made w #[.int .i64 3, .int .i64 o.atN, .int .i64 o.atR, .int .i64 o.nodeN, .int .i64 o.nodeR, .int .i64 o.parN, .int .i64 o.parR, .slice a1 o.key.length c1, .int .i64 o.elem, .slice a2 o.name.length c2, .slice a3 o.text.length c3, .bool o.gone] 27
  rw [unhide HE]
  clear HE
  unfold opVal
  rw [k0]
  go_enter Try.func7, Try.ntmps7
  go_wp2_with fail
  generalize (w.alloc (.cells #[.int .i64 3, .int .i64 o.atN, .int .i64 o.atR, .int .i64 o.nodeN, .int .i64 o.nodeR, .int .i64 o.parN, .int .i64 o.parR, .slice a1 o.key.length c1, .int .i64 o.elem, .slice a2 o.name.length c2, .slice a3 o.text.length c3, .bool o.gone] 27)) = w0 at *
  refine (unhide HO w0 hA0).mono ?_
  clear HO
  rintro e w1 ⟨rfl, hB0⟩
  have hA1 := bstep hA0 hB0
  have l1 := l0.all hB0
  clear hA0 l0 hB0
  obtain ⟨x0, x1, x2, x3, x4, x5, x6, x7, x8, x9, x10, x11⟩ := l1.twelve
  go_wp2_with fail
  clear x0 x1 x2 x3 x4 x5 x6 x7 x8 x9 x10 x11
  obtain ⟨x0, x1, x2, x3, x4, x5, x6, x7, x8, x9, x10, x11⟩ := l1.twelve
  go_region_held3 (fun w' => w'.cell? ⟨w.heap.size, 0, none⟩ = some (.int .i64 3) ∧ w'.cell? ⟨w.heap.size, 1, none⟩ = some (.int .i64 o.atN) ∧ w'.cell? ⟨w.heap.size, 2, none⟩ = some (.int .i64 o.atR))
    (first | exact ⟨by assumption, by assumption, by assumption⟩ | go_keep)
    (first
      | (go_at_call 29; refine (unhide H1 _ (by repeat (first | exact hA1 | exact Below.refl _ _ | refine balloc2 ?_ | refine Below.drew ?_)) _ (own_nil2 _ _) _ (by first | (simp; done))).mono ?_; clear H1; rintro e w11 ⟨b1, d1, rfl, ho1, hB1⟩; have hA11 := bstep (a := w) (by repeat (first | exact hA1 | exact Below.refl _ _ | refine balloc2 ?_ | refine Below.drew ?_)) hB1; have hD11 := bstep (a := w1) (by repeat (first | exact Below.refl _ _ | exact Below.refl _ _ | refine balloc2 ?_ | refine Below.drew ?_)) hB1; have hY1 := fun p v h => cell_later hB1 (p := p) (v := v) h; obtain ⟨x0, x1, x2, x3, x4, x5, x6, x7, x8, x9, x10, x11⟩ := (l1.all hD11).twelve)
      | (go_at_call 28; refine (unhide H2 _ (by repeat (first | exact hA11 | exact Below.refl _ _ | refine balloc2 ?_ | refine Below.drew ?_)) _ (ho1.keep (by repeat (first | exact Below.refl _ _ | exact Below.refl _ _ | refine balloc2 ?_ | refine Below.drew ?_))) _ (by first | (simp; done) | exact (hY1 _ _ (by simp))) (by first | (simp; done) | exact (hY1 _ _ (by simp)))).mono ?_; clear H2; rintro e w12 ⟨b2, d2, rfl, ho2, hB2⟩; have hA12 := bstep (a := w) (by repeat (first | exact hA11 | exact Below.refl _ _ | refine balloc2 ?_ | refine Below.drew ?_)) hB2; have hD12 := bstep (a := w1) (by repeat (first | exact hD11 | exact Below.refl _ _ | refine balloc2 ?_ | refine Below.drew ?_)) hB2; have hY2 := fun p v h => cell_later hB2 (p := p) (v := v) h; obtain ⟨x0, x1, x2, x3, x4, x5, x6, x7, x8, x9, x10, x11⟩ := (l1.all hD12).twelve))
  all_goals
    have l12 := l1.all hD12
    clear x0 x1 x2 x3 x4 x5 x6 x7 x8 x9 x10 x11 hY1 hB1 hD11 hY2 hB2 hD12 ho1 hA11
    obtain ⟨x0, x1, x2, x3, x4, x5, x6, x7, x8, x9, x10, x11⟩ := l12.twelve
    go_wp2_with fail
    clear x0 x1 x2 x3 x4 x5 x6 x7 x8 x9 x10 x11
    obtain ⟨x0, x1, x2, x3, x4, x5, x6, x7, x8, x9, x10, x11⟩ := l12.twelve
    go_region_held3 (fun w' => w'.cell? ⟨w.heap.size, 3, none⟩ = some (.int .i64 o.nodeN) ∧ w'.cell? ⟨w.heap.size, 4, none⟩ = some (.int .i64 o.nodeR) ∧ w'.cell? ⟨w.heap.size, 9, none⟩ = some (.slice a2 o.name.length c2) ∧ w'.cell? ⟨w.heap.size, 10, none⟩ = some (.slice a3 o.text.length c3) ∧ w'.cell? ⟨w.heap.size, 11, none⟩ = some (.bool o.gone))
      (first | exact ⟨by assumption, by assumption, by assumption, by assumption, by assumption⟩ | go_keep)
      (first
        | (go_at_call 28; refine (unhide H3 _ (by repeat (first | exact hA12 | exact Below.refl _ _ | refine balloc2 ?_ | refine Below.drew ?_)) _ (ho2.keep (by repeat (first | exact Below.refl _ _ | exact Below.refl _ _ | refine balloc2 ?_ | refine Below.drew ?_))) _ (by first | (simp; done)) (by first | (simp; done))).mono ?_; clear H3; rintro e w13 ⟨b3, d3, rfl, ho3, hB3⟩; have hA13 := bstep (a := w) (by repeat (first | exact hA12 | exact Below.refl _ _ | refine balloc2 ?_ | refine Below.drew ?_)) hB3; have hD13 := bstep (a := w12) (by repeat (first | exact Below.refl _ _ | exact Below.refl _ _ | refine balloc2 ?_ | refine Below.drew ?_)) hB3; have hY3 := fun p v h => cell_later hB3 (p := p) (v := v) h; obtain ⟨x0, x1, x2, x3, x4, x5, x6, x7, x8, x9, x10, x11⟩ := (l12.all hD13).twelve)
        | (go_at_call 31; refine (unhide H4 _ (by repeat (first | exact hA13 | exact Below.refl _ _ | refine balloc2 ?_ | refine Below.drew ?_)) _ (ho3.keep (by repeat (first | exact Below.refl _ _ | exact Below.refl _ _ | refine balloc2 ?_ | refine Below.drew ?_)))).mono ?_; clear H4; rintro e w14 ⟨b4, d4, rfl, ho4, hB4⟩; have hA14 := bstep (a := w) (by repeat (first | exact hA13 | exact Below.refl _ _ | refine balloc2 ?_ | refine Below.drew ?_)) hB4; have hD14 := bstep (a := w12) (by repeat (first | exact hD13 | exact Below.refl _ _ | refine balloc2 ?_ | refine Below.drew ?_)) hB4; have hY4 := fun p v h => cell_later hB4 (p := p) (v := v) h; obtain ⟨x0, x1, x2, x3, x4, x5, x6, x7, x8, x9, x10, x11⟩ := (l12.all hD14).twelve)
        | (go_at_call 32; refine (unhide H5 _ (by repeat (first | exact hA14 | exact Below.refl _ _ | refine balloc2 ?_ | refine Below.drew ?_)) _ (ho4.keep (by repeat (first | exact Below.refl _ _ | exact Below.refl _ _ | refine balloc2 ?_ | refine Below.drew ?_)))).mono ?_; clear H5; rintro e w15 ⟨b5, d5, rfl, ho5, hB5⟩; have hA15 := bstep (a := w) (by repeat (first | exact hA14 | exact Below.refl _ _ | refine balloc2 ?_ | refine Below.drew ?_)) hB5; have hD15 := bstep (a := w12) (by repeat (first | exact hD14 | exact Below.refl _ _ | refine balloc2 ?_ | refine Below.drew ?_)) hB5; have hY5 := fun p v h => cell_later hB5 (p := p) (v := v) h; obtain ⟨x0, x1, x2, x3, x4, x5, x6, x7, x8, x9, x10, x11⟩ := (l12.all hD15).twelve))
    all_goals
      have l15 := l12.all hD15
      clear x0 x1 x2 x3 x4 x5 x6 x7 x8 x9 x10 x11 hY3 hB3 hD13 hY4 hB4 hD14 hY5 hB5 hD15 ho3 ho4 hA13 hA14
      obtain ⟨x0, x1, x2, x3, x4, x5, x6, x7, x8, x9, x10, x11⟩ := l15.twelve
      go_wp2_with fail
      clear x0 x1 x2 x3 x4 x5 x6 x7 x8 x9 x10 x11
      go_ret2
      exact ⟨b5, d5, rfl, ho5, hA15⟩

def obV (o : OpV) : List Int := if opB o then opBytes o else []

set_option maxHeartbeats 3200000 in
theorem bytesI_bad (w : World) (o : OpV) (a1 a2 a3 : Option Addr) (c1 c2 c3 : Nat) (hk : Ints w (.slice a1 o.key.length c1) o.key) (hn : Byt w (.slice a2 o.name.length c2) o.name) (ht : Byt w (.slice a3 o.text.length c3) o.text) (hb : opB o = false) :
    Calls Try.prog 7 #[opVal o (.slice a1 o.key.length c1) (.slice a2 o.name.length c2) (.slice a3 o.text.length c3)] w fun e w' => e = .returned (.tuple #[.slice none 0 0, .bool false]) ∧ Below w.heap.size w w' := by
  have hA0 : Below w.heap.size w (w.alloc (.cells #[.int .i64 o.kind, .int .i64 o.atN, .int .i64 o.atR, .int .i64 o.nodeN, .int .i64 o.nodeR, .int .i64 o.parN, .int .i64 o.parR, .slice a1 o.key.length c1, .int .i64 o.elem, .slice a2 o.name.length c2, .slice a3 o.text.length c3, .bool o.gone] 27)) := (Below.refl w.heap.size w).alloc (Nat.le_refl _) _
  have HO := hide (opI_any _ _ o ⟨_, _, _, rfl, hk.keep hA0, hn.keep hA0, ht.keep hA0⟩)
  rw [hb] at HO
  unfold opVal at HO
  have HA := hide hA0
  clear hk hn ht hA0
  unfold opVal
  go_enter Try.func7, Try.ntmps7
  go_wp2_with fail
  refine (unhide HO).mono ?_
  rintro e w1 ⟨rfl, hB⟩
  have hB1 := bstep (unhide HA) hB
  clear HA hB HO
  go_wp2_with fail
  go_ret2
  exact ⟨rfl, hB1⟩

/-- impl.OpBytes, whatever it is asked. -/
theorem bytesI_any (w : World) (v : Value) (o : OpV) (h : RdOp w v o) (hs : o.key.length ≤ 2097152) :
    Calls Try.prog 7 #[v] w fun e w' => ∃ a c, e = .returned (.tuple #[.slice a (obV o).length c, .bool (opB o)]) ∧ Own w' w.heap.size (.slice a (obV o).length c) (obV o) ∧ Below w.heap.size w w' := by
  obtain ⟨k, n, t, rfl, hk, hn, ht⟩ := h
  obtain ⟨a1, c1, rfl, _, _⟩ := hk.shape
  obtain ⟨a2, c2, rfl, _, _⟩ := hn.shape
  obtain ⟨a3, c3, rfl, _, _⟩ := ht.shape
  unfold obV
  cases hb : opB o with
  | false =>
    refine (bytesI_bad w o a1 a2 a3 c1 c2 c3 hk hn ht hb).mono ?_
    rintro e w' ⟨rfl, hB⟩
    exact ⟨none, 0, rfl, own_nil2 _ _, hB⟩
  | true =>
    rw [if_pos rfl]
    obtain ⟨⟨f1, f2⟩, _, h | h | h | h⟩ := opB_facts hb
    · exact bytesI_0 w o a1 a2 a3 c1 c2 c3 hk hn ht hs hb f1 f2 h.2.2.1.1 h.2.2.1.2 h.2.2.2.2.1 h.1
    · exact bytesI_1 w o a1 a2 a3 c1 c2 c3 hk hn ht hs hb f1 f2 h.2.1.1 h.2.1.2 h.2.2.1.1 h.2.2.1.2 h.1
    · exact bytesI_2 w o a1 a2 a3 c1 c2 c3 hk hn ht hs hb f1 f2 h.2.1.1 h.2.1.2 h.1
    · exact bytesI_3 w o a1 a2 a3 c1 c2 c3 hk hn ht hs hb f1 f2 h.2.1.1 h.2.1.2 h.1
end Go.Proofs.Ytcabolcfoijglaa

/- spec.DrawOpBytes, spec.DrawOpRead. -/
namespace Go.Proofs.Ytcabolcfoijglaa
open Go.RowKit
set_option linter.unusedVariables false
set_option maxRecDepth 100000

theorem opBytes_len (o : OpV) (hK : o.key.length ≤ 13) : (opBytes o).length ≤ 1000 := by
  have e0 := putAll_len [] o.kind
  have e1 := putId_len (putAll [] o.kind) o.atN o.atR
  unfold opBytes opHd
  have Ln : ([] : List Int).length = 0 := rfl
  generalize putId (putAll [] o.kind) o.atN o.atR = r at *
  have m1 := putId_len r o.nodeN o.nodeR
  have m2 := putId_len r o.parN o.parR
  have m3 := putId_len (putId r o.nodeN o.nodeR) o.parN o.parR
  have m4 := putKey_len (putId r o.parN o.parR) o.key
  have m5 := putKey_len (putId (putId r o.nodeN o.nodeR) o.parN o.parR) o.key
  have m6 := putAll_len (putKey (putId r o.parN o.parR) o.key) o.elem
  have m7 := putT_len (putAll (putKey (putId r o.parN o.parR) o.key) o.elem) o.name
  have m8 := putT_len (putT (putAll (putKey (putId r o.parN o.parR) o.key) o.elem) o.name) o.text
  have m9 := putT_len (putId r o.nodeN o.nodeR) o.text
  have m10 := putT_len (putId r o.nodeN o.nodeR) o.name
  have m11 := putAll_len (putT (putId r o.nodeN o.nodeR) o.name) 1
  have m12 := putAll_len (putT (putId r o.nodeN o.nodeR) o.name) 0
  have m13 := putT_len (putAll (putT (putId r o.nodeN o.nodeR) o.name) 0) o.text
  split
  · omega
  · split
    · omega
    · split
      · omega
      · split <;> omega

set_option maxHeartbeats 6400000 in
theorem drawOpBytes_any (w : World) (code : Value) (l : List Int) (h : Byt w code l) :
    Calls Try.prog 6 #[code] w fun e w' => ∃ o v, e = .returned v ∧ RdOp w' v o ∧ SmO o 40 ∧ Below w.heap.size w w' := by
  have lr := Loc.made w #[.int .i64 0, .int .i64 0, .int .i64 0, .int .i64 0, .int .i64 0, .int .i64 0, .int .i64 0, .slice none 0 0, .int .i64 0, .slice none 0 0, .slice none 0 0, .bool false] 27
  have hA := (Below.refl w.heap.size w).alloc (Nat.le_refl _) (.cells #[.int .i64 0, .int .i64 0, .int .i64 0, .int .i64 0, .int .i64 0, .int .i64 0, .int .i64 0, .slice none 0 0, .int .i64 0, .slice none 0 0, .slice none 0 0, .bool false] 27)
  have HN := hide (l1New_any _ code l (h.keep hA))
  obtain ⟨a, c, rfl, _, _⟩ := h.shape
  have hsz : (w.alloc (.cells #[.int .i64 0, .int .i64 0, .int .i64 0, .int .i64 0, .int .i64 0, .int .i64 0, .int .i64 0, .slice none 0 0, .int .i64 0, .slice none 0 0, .slice none 0 0, .bool false] 27)).heap.size = w.heap.size + 1 := by simp
  rw [hsz] at HN
  have LL := hide (And.intro lr (And.intro hA hsz))
  clear h lr hA hsz
  refine calls_via ?_
  intro Q HQ
  go_enter Try.func6, Try.ntmps6
  go_upto_region 1 with fail
  go_cut [] from 3 to 5 (fun wx => ∃ (o : OpV) (k n t : Value), Loc wx w.heap.size #[.int .i64 o.kind, .int .i64 o.atN, .int .i64 o.atR, .int .i64 o.nodeN, .int .i64 o.nodeR, .int .i64 o.parN, .int .i64 o.parR, k, .int .i64 o.elem, n, t, .bool o.gone] 27 ∧ RdOp wx (opVal o k n t) o ∧ SmO o 40 ∧ Below w.heap.size w wx)
  case first =>
    go_wp2_with fail
    obtain ⟨lr, hA, hsz⟩ := unhide LL
    clear LL
    generalize (w.alloc (.cells #[.int .i64 0, .int .i64 0, .int .i64 0, .int .i64 0, .int .i64 0, .int .i64 0, .int .i64 0, .slice none 0 0, .int .i64 0, .slice none 0 0, .slice none 0 0, .bool false] 27)) = wa at *
    refine (unhide HN).mono ?_
    rintro e w1 ⟨rfl, hC, hB1⟩
    have lr1 := lr.keep hB1 (by omega)
    have HL := hide (l4bent_any wa w1 _ _ l hC)
    have hcl := hC.lt
    have hB1' : Below wa.heap.size wa w1 := by rw [hsz]; exact hB1
    clear hC HN lr
    go_wp2_with fail
    refine (unhide HL).mono ?_
    rintro e w2 ⟨o, k, n, t, rfl, hOw, hSm, hC2, hG2⟩
    obtain ⟨ak, ck, rfl, _, _⟩ := hOw.1.ints.shape
    obtain ⟨an, cn, rfl⟩ := hOw.2.1.shape
    obtain ⟨tt, ct, rfl⟩ := hOw.2.2.1.shape
    have lr2 := lr1.frm (Frm.ofGrown hG2) (by simp)
    have hw1 : w.heap.size < w1.heap.size := lr1.lt
    have hw2 : w.heap.size < w2.heap.size := lr2.lt
    have hB2 := bstep hA hC2.below
    have lrz : Loc ((((((((((((w2.setCell ⟨w.heap.size, 0, none⟩ (.int .i64 o.kind)).setCell ⟨w.heap.size, 1, none⟩ (.int .i64 o.atN)).setCell ⟨w.heap.size, 2, none⟩ (.int .i64 o.atR)).setCell ⟨w.heap.size, 3, none⟩ (.int .i64 o.nodeN)).setCell ⟨w.heap.size, 4, none⟩ (.int .i64 o.nodeR)).setCell ⟨w.heap.size, 5, none⟩ (.int .i64 o.parN)).setCell ⟨w.heap.size, 6, none⟩ (.int .i64 o.parR)).setCell ⟨w.heap.size, 7, none⟩ (.slice ak o.key.length ck)).setCell ⟨w.heap.size, 8, none⟩ (.int .i64 o.elem)).setCell ⟨w.heap.size, 9, none⟩ (.slice an o.name.length cn)).setCell ⟨w.heap.size, 10, none⟩ (.slice tt o.text.length ct)).setCell ⟨w.heap.size, 11, none⟩ (.bool o.gone)) w.heap.size #[.int .i64 o.kind, .int .i64 o.atN, .int .i64 o.atR, .int .i64 o.nodeN, .int .i64 o.nodeR, .int .i64 o.parN, .int .i64 o.parR, .slice ak o.key.length ck, .int .i64 o.elem, .slice an o.name.length cn, .slice tt o.text.length ct, .bool o.gone] 27 := set_twelve lr2 (.int .i64 o.kind) (.int .i64 o.atN) (.int .i64 o.atR) (.int .i64 o.nodeN) (.int .i64 o.nodeR) (.int .i64 o.parN) (.int .i64 o.parR) (.slice ak o.key.length ck) (.int .i64 o.elem) (.slice an o.name.length cn) (.slice tt o.text.length ct) (.bool o.gone)
    have hsR : w2.grownBy ((((((((((((w2.setCell ⟨w.heap.size, 0, none⟩ (.int .i64 o.kind)).setCell ⟨w.heap.size, 1, none⟩ (.int .i64 o.atN)).setCell ⟨w.heap.size, 2, none⟩ (.int .i64 o.atR)).setCell ⟨w.heap.size, 3, none⟩ (.int .i64 o.nodeN)).setCell ⟨w.heap.size, 4, none⟩ (.int .i64 o.nodeR)).setCell ⟨w.heap.size, 5, none⟩ (.int .i64 o.parN)).setCell ⟨w.heap.size, 6, none⟩ (.int .i64 o.parR)).setCell ⟨w.heap.size, 7, none⟩ (.slice ak o.key.length ck)).setCell ⟨w.heap.size, 8, none⟩ (.int .i64 o.elem)).setCell ⟨w.heap.size, 9, none⟩ (.slice an o.name.length cn)).setCell ⟨w.heap.size, 10, none⟩ (.slice tt o.text.length ct)).setCell ⟨w.heap.size, 11, none⟩ (.bool o.gone)) (some w.heap.size) := grow_twelve _ _ (.int .i64 o.kind) (.int .i64 o.atN) (.int .i64 o.atR) (.int .i64 o.nodeN) (.int .i64 o.nodeR) (.int .i64 o.parN) (.int .i64 o.parR) (.slice ak o.key.length ck) (.int .i64 o.elem) (.slice an o.name.length cn) (.slice tt o.text.length ct) (.bool o.gone)
    have hO9 := (hOw.by hsR (by omega)).rd
    have hB9 := bstepBy hB2 hsR (fun q hq => by cases hq; exact Nat.le_refl _)
    have KK := hide (And.intro lrz (And.intro hO9 (And.intro hSm hB9)))
    obtain ⟨z0, z1, z2, z3, z4, z5, z6, z7, z8, z9, z10, z11⟩ := lr2.twelve
    have g0 := lr2.frozen 0
    have g1 := lr2.frozen 1
    have g2 := lr2.frozen 2
    have g3 := lr2.frozen 3
    have g4 := lr2.frozen 4
    have g5 := lr2.frozen 5
    have g6 := lr2.frozen 6
    have g7 := lr2.frozen 7
    have g8 := lr2.frozen 8
    have g9 := lr2.frozen 9
    have g10 := lr2.frozen 10
    have g11 := lr2.frozen 11
    clear lrz hsR hO9 hB9 hSm hOw hC2 hG2 hB2 lr1 lr2 hA hB1 hB1' HL
    unfold opVal
    go_wp2_with fail
    go_meet
    exact ⟨o, _, _, _, unhide KK⟩
  case rest =>
    obtain ⟨o, k, n, t, hL, hR, hSm, hB⟩ := hcut
    obtain ⟨e0, e1, e2, e3, e4, e5, e6, e7, e8, e9, e10, e11⟩ := hL.twelve
    have K9 := hide (And.intro hR (And.intro hSm hB))
    clear hL hR hSm hB LL HN
    go_wp2_with fail
    exact bodyPost_ret (v := .agg #[.int .i64 o.kind, .int .i64 o.atN, .int .i64 o.atR, .int .i64 o.nodeN, .int .i64 o.nodeR, .int .i64 o.parN, .int .i64 o.parR, k, .int .i64 o.elem, n, t, .bool o.gone]) (by simp [results, Try.results6, go_sem, e0, e1, e2, e3, e4, e5, e6, e7, e8, e9, e10, e11]) rfl (unhide HQ _ _ ⟨o, _, rfl, unhide K9⟩)

set_option maxHeartbeats 6400000 in
theorem drawOpRead_any (w : World) (code : Value) (l : List Int) (h : Byt w code l) :
    Calls Try.prog 13 #[code] w fun e w' => ∃ v' l', e = .returned v' ∧ Byt w' v' l' ∧ Below w.heap.size w w' := by
  have HN := hide (l1New_any w code l h)
  obtain ⟨a, c, rfl, _, _⟩ := h.shape
  clear h
  go_enter Try.func13, Try.ntmps13
  go_wp2_with fail
  refine (unhide HN).mono ?_
  rintro e w1 ⟨rfl, hC1, hB1⟩
  have hl1 := hC1.lt
  go_wp2_with fail
  refine (l4op_any w w1 _ _ l hC1).mono ?_
  rintro e w2 ⟨o, k, n, t, rfl, hOw, hSm, hC2, hG2⟩
  have HBy := hide (bytesS_any w2 _ o hOw.rd (by have := hSm.1; omega))
  have hbl := opBytes_len o hSm.1
  obtain ⟨ak, ck, rfl, _, _⟩ := hOw.1.ints.shape
  obtain ⟨an, cn, rfl⟩ := hOw.2.1.shape
  obtain ⟨tt, ct, rfl⟩ := hOw.2.2.1.shape
  unfold opVal at HBy ⊢
  clear hOw
  go_wp2_with fail
  refine (unhide HBy).mono ?_
  rintro e w3 ⟨ab, cb, rfl, hob, hB3⟩
  have hC3 := hC2.keepAll hB3
  have z2 := hG2.size
  clear hC2 hG2 HBy hC1 hSm
  generalize opBytes o = rb at *
  go_wp2_with fail
  refine (l1Once_any w w3 _ _ l 2 hC3 (by omega) (by omega)).mono ?_
  rintro e w4 ⟨b, rfl, hC4, hG4⟩
  have hob4 := hob.keepBy hG4 (.inr (fun e => by have := (hob.lt _ e).1; omega))
  cases b with
  | true =>
    go_wp2_with fail
    refine (l1spoil_any w w4 _ _ l _ rb hC4 hob4.byt hbl).mono ?_
    rintro e w5 ⟨v', rfl, l', hv', _, _, hC5, hG5⟩
    have hB5 := hC5.below
    obtain ⟨a5, c5, rfl, _, _⟩ := hv'.shape
    go_wp2_with fail
    go_ret
    exact ⟨_, l', rfl, hv', hB5⟩
  | false =>
    have hB4 := hC4.below
    go_wp2_with fail
    go_ret
    exact ⟨_, rb, rfl, hob4.byt, hB4⟩
end Go.Proofs.Ytcabolcfoijglaa

/- impl's reader: an operation of no known kind, and any. -/
namespace Go.Proofs.Ytcabolcfoijglaa
open Go.RowKit
set_option linter.unusedVariables false
set_option maxRecDepth 100000

set_option maxHeartbeats 12800000 in
theorem rop_x (w0 w : World) (g : Nat) (code : Value) (l : List Int) (p : Int) (h : Rd 65 w0 w g code l p) (h0 : ¬ (getN l p).1 = 0) (h1 : ¬ (getN l p).1 = 1) (h2 : ¬ (getN l p).1 = 2) (h3 : ¬ (getN l p).1 = 3) :
    Calls Try.prog 46 #[.pointer (some ⟨g, 0, none⟩)] w fun e w' => ∃ k n t, e = .returned (opVal (rdRest rdKeyI l (getN l p).1 (rdId l (getN l p).2).1.1 (rdId l (getN l p).2).1.2 (rdId l (getN l p).2).2).1 k n t) ∧ OwOp w' w.heap.size (rdRest rdKeyI l (getN l p).1 (rdId l (getN l p).2).1.1 (rdId l (getN l p).2).1.2 (rdId l (getN l p).2).2).1 k n t ∧ Below w0.heap.size w0 w' := by
  have hgl := h.box.lt
  have hnew := h.below.size
  have HBL := hide h.below
  have hgn := h.new
  have H0 := hide (fun W (hW : Rd 65 w0 W g code l p) => rnum_any w0 W g code l p hW)
  have H1 := hide (fun W (hW : Rd 65 w0 W g code l (getN l p).2) => rid_any w0 W g code l (getN l p).2 hW)
  have hR := h.keep ((Below.refl w.heap.size w).alloc (Nat.le_refl _) (.cells #[.int .i64 0, .int .i64 0, .int .i64 0, .int .i64 0, .int .i64 0, .int .i64 0, .int .i64 0, .slice none 0 0, .int .i64 0, .slice none 0 0, .slice none 0 0, .bool false] 27))
  have lr := Loc.made w #[.int .i64 0, .int .i64 0, .int .i64 0, .int .i64 0, .int .i64 0, .int .i64 0, .int .i64 0, .slice none 0 0, .int .i64 0, .slice none 0 0, .slice none 0 0, .bool false] 27
  have hG := Below.toGrown ((Below.refl w.heap.size w).alloc (Nat.le_refl _) (.cells #[.int .i64 0, .int .i64 0, .int .i64 0, .int .i64 0, .int .i64 0, .int .i64 0, .int .i64 0, .slice none 0 0, .int .i64 0, .slice none 0 0, .slice none 0 0, .bool false] 27)) (some g)
  clear h
  unfold rdRest
  rw [if_neg h0, if_neg h1, if_neg h2, if_neg h3]
  generalize (rdId l (getN l p).2) = q1 at *
  generalize (getN l p) = q0 at *
  obtain ⟨kz, p1⟩ := q0
  obtain ⟨⟨n, r⟩, p2⟩ := q1
  simp only at *
  have d0 : (kz == 0) = false := by simpa using h0
  have d1 : (kz == 1) = false := by simpa using h1
  have d2 : (kz == 2) = false := by simpa using h2
  have d3 : (kz == 3) = false := by simpa using h3
  clear h0 h1 h2 h3
  have LL := hide (And.intro hR (And.intro lr hG))
  clear hR lr hG
  go_enter Try.func46, Try.ntmps46
  go_wp2_with fail
  obtain ⟨hR, lr, hG⟩ := unhide LL
  clear LL
  generalize (w.alloc (.cells #[.int .i64 0, .int .i64 0, .int .i64 0, .int .i64 0, .int .i64 0, .int .i64 0, .int .i64 0, .slice none 0 0, .int .i64 0, .slice none 0 0, .slice none 0 0, .bool false] 27)) = wa at *
  refine (unhide H0 wa hR).mono ?_
  rintro e w1 ⟨rfl, hRn, hGn⟩
  have sz0 := hGn.size
  have lrn := lr.frm (Frm.ofGrown hGn) (by simp; omega)
  have hGm := grown_trans hG hGn
  clear hG hGn lr hR
  have hG := hGm
  have hR := hRn
  have lr := lrn
  clear hGm hRn lrn
  go_wp2_with fail
  refine (unhide H1 w1 hR).mono ?_
  rintro e w2 ⟨rfl, hRn, hGn⟩
  have sz1 := hGn.size
  have lrn := lr.frm (Frm.ofGrown hGn) (by simp; omega)
  have hGm := grown_trans hG hGn
  clear hG hGn lr hR
  have hG := hGm
  have hR := hRn
  have lr := lrn
  clear hGm hRn lrn
  have hAb := (Below.refl w2.heap.size w2).alloc (Nat.le_refl _) (.cells #[.int .i64 kz, .int .i64 n, .int .i64 r, .int .i64 0, .int .i64 0, .int .i64 0, .int .i64 0, .slice none 0 0, .int .i64 0, .slice none 0 0, .slice none 0 0, .bool false] 27)
  have lo := Loc.made w2 #[.int .i64 kz, .int .i64 n, .int .i64 r, .int .i64 0, .int .i64 0, .int .i64 0, .int .i64 0, .slice none 0 0, .int .i64 0, .slice none 0 0, .slice none 0 0, .bool false] 27
  have hrS := lr.lt
  have hgS := hR.box.lt
  have LL := hide (And.intro (hR.keep hAb) (And.intro (lr.all hAb) (And.intro (grown_trans hG (Below.toGrown hAb (some g))) lo)))
  clear hR lr hG hAb lo
  go_upto_block 0 with fail
  obtain ⟨hR, lr, hG, lo⟩ := unhide LL
  clear LL
  generalize (w2.alloc (.cells #[.int .i64 kz, .int .i64 n, .int .i64 r, .int .i64 0, .int .i64 0, .int .i64 0, .int .i64 0, .slice none 0 0, .int .i64 0, .slice none 0 0, .slice none 0 0, .bool false] 27)) = wb at *
  generalize w2.heap.size = S at *
  have lrz : Loc ((((((((((((wb.setCell ⟨w.heap.size, 0, none⟩ (.int .i64 kz)).setCell ⟨w.heap.size, 1, none⟩ (.int .i64 n)).setCell ⟨w.heap.size, 2, none⟩ (.int .i64 r)).setCell ⟨w.heap.size, 3, none⟩ (.int .i64 0)).setCell ⟨w.heap.size, 4, none⟩ (.int .i64 0)).setCell ⟨w.heap.size, 5, none⟩ (.int .i64 0)).setCell ⟨w.heap.size, 6, none⟩ (.int .i64 0)).setCell ⟨w.heap.size, 7, none⟩ (.slice none 0 0)).setCell ⟨w.heap.size, 8, none⟩ (.int .i64 0)).setCell ⟨w.heap.size, 9, none⟩ (.slice none 0 0)).setCell ⟨w.heap.size, 10, none⟩ (.slice none 0 0)).setCell ⟨w.heap.size, 11, none⟩ (.bool false)) w.heap.size #[.int .i64 kz, .int .i64 n, .int .i64 r, .int .i64 0, .int .i64 0, .int .i64 0, .int .i64 0, .slice none 0 0, .int .i64 0, .slice none 0 0, .slice none 0 0, .bool false] 27 := set_twelve lr (.int .i64 kz) (.int .i64 n) (.int .i64 r) (.int .i64 0) (.int .i64 0) (.int .i64 0) (.int .i64 0) (.slice none 0 0) (.int .i64 0) (.slice none 0 0) (.slice none 0 0) (.bool false)
  have hsR : wb.grownBy ((((((((((((wb.setCell ⟨w.heap.size, 0, none⟩ (.int .i64 kz)).setCell ⟨w.heap.size, 1, none⟩ (.int .i64 n)).setCell ⟨w.heap.size, 2, none⟩ (.int .i64 r)).setCell ⟨w.heap.size, 3, none⟩ (.int .i64 0)).setCell ⟨w.heap.size, 4, none⟩ (.int .i64 0)).setCell ⟨w.heap.size, 5, none⟩ (.int .i64 0)).setCell ⟨w.heap.size, 6, none⟩ (.int .i64 0)).setCell ⟨w.heap.size, 7, none⟩ (.slice none 0 0)).setCell ⟨w.heap.size, 8, none⟩ (.int .i64 0)).setCell ⟨w.heap.size, 9, none⟩ (.slice none 0 0)).setCell ⟨w.heap.size, 10, none⟩ (.slice none 0 0)).setCell ⟨w.heap.size, 11, none⟩ (.bool false)) (some w.heap.size) := grow_twelve _ _ (.int .i64 kz) (.int .i64 n) (.int .i64 r) (.int .i64 0) (.int .i64 0) (.int .i64 0) (.int .i64 0) (.slice none 0 0) (.int .i64 0) (.slice none 0 0) (.slice none 0 0) (.bool false)
  obtain ⟨e0, e1, e2, e3, e4, e5, e6, e7, e8, e9, e10, e11⟩ := lrz.twelve
  obtain ⟨y0, y1, y2, y3, y4, y5, y6, y7, y8, y9, y10, y11⟩ := lo.twelve
  obtain ⟨z0, z1, z2, z3, z4, z5, z6, z7, z8, z9, z10, z11⟩ := lr.twelve
  have g0 := lr.frozen 0
  have g1 := lr.frozen 1
  have g2 := lr.frozen 2
  have g3 := lr.frozen 3
  have g4 := lr.frozen 4
  have g5 := lr.frozen 5
  have g6 := lr.frozen 6
  have g7 := lr.frozen 7
  have g8 := lr.frozen 8
  have g9 := lr.frozen 9
  have g10 := lr.frozen 10
  have g11 := lr.frozen 11
  have hGz := grow_new hG hsR (fun q hq => by simp at hq; omega)
  have hBz := bstepBy (unhide HBL) hGz (fun k hk => by cases hk; exact hgn)
  have hnd : (FB (.slice none 0 0) ++ FB (.slice none 0 0) ++ FB (.slice none 0 0)).Nodup := by
    have e0 : FB (.slice none 0 0) = [] := rfl
    simp only [e0, List.append_nil]
    exact List.nodup_nil
  have KK := hide (show OwnZ ((((((((((((wb.setCell ⟨w.heap.size, 0, none⟩ (.int .i64 kz)).setCell ⟨w.heap.size, 1, none⟩ (.int .i64 n)).setCell ⟨w.heap.size, 2, none⟩ (.int .i64 r)).setCell ⟨w.heap.size, 3, none⟩ (.int .i64 0)).setCell ⟨w.heap.size, 4, none⟩ (.int .i64 0)).setCell ⟨w.heap.size, 5, none⟩ (.int .i64 0)).setCell ⟨w.heap.size, 6, none⟩ (.int .i64 0)).setCell ⟨w.heap.size, 7, none⟩ (.slice none 0 0)).setCell ⟨w.heap.size, 8, none⟩ (.int .i64 0)).setCell ⟨w.heap.size, 9, none⟩ (.slice none 0 0)).setCell ⟨w.heap.size, 10, none⟩ (.slice none 0 0)).setCell ⟨w.heap.size, 11, none⟩ (.bool false)) w.heap.size (.slice none 0 0) _ ∧ Own ((((((((((((wb.setCell ⟨w.heap.size, 0, none⟩ (.int .i64 kz)).setCell ⟨w.heap.size, 1, none⟩ (.int .i64 n)).setCell ⟨w.heap.size, 2, none⟩ (.int .i64 r)).setCell ⟨w.heap.size, 3, none⟩ (.int .i64 0)).setCell ⟨w.heap.size, 4, none⟩ (.int .i64 0)).setCell ⟨w.heap.size, 5, none⟩ (.int .i64 0)).setCell ⟨w.heap.size, 6, none⟩ (.int .i64 0)).setCell ⟨w.heap.size, 7, none⟩ (.slice none 0 0)).setCell ⟨w.heap.size, 8, none⟩ (.int .i64 0)).setCell ⟨w.heap.size, 9, none⟩ (.slice none 0 0)).setCell ⟨w.heap.size, 10, none⟩ (.slice none 0 0)).setCell ⟨w.heap.size, 11, none⟩ (.bool false)) w.heap.size (.slice none 0 0) _ ∧ Own ((((((((((((wb.setCell ⟨w.heap.size, 0, none⟩ (.int .i64 kz)).setCell ⟨w.heap.size, 1, none⟩ (.int .i64 n)).setCell ⟨w.heap.size, 2, none⟩ (.int .i64 r)).setCell ⟨w.heap.size, 3, none⟩ (.int .i64 0)).setCell ⟨w.heap.size, 4, none⟩ (.int .i64 0)).setCell ⟨w.heap.size, 5, none⟩ (.int .i64 0)).setCell ⟨w.heap.size, 6, none⟩ (.int .i64 0)).setCell ⟨w.heap.size, 7, none⟩ (.slice none 0 0)).setCell ⟨w.heap.size, 8, none⟩ (.int .i64 0)).setCell ⟨w.heap.size, 9, none⟩ (.slice none 0 0)).setCell ⟨w.heap.size, 10, none⟩ (.slice none 0 0)).setCell ⟨w.heap.size, 11, none⟩ (.bool false)) w.heap.size (.slice none 0 0) _ ∧ _ ∧ _ from ⟨ownz_nil _ _, own_nilB _ _, own_nilB _ _, hnd, hBz⟩)
  clear hR lr hG lo lrz hsR hGz hBz hnd
  go_wp2_with fail
  obtain ⟨k1, k2, k3, k4, k5⟩ := unhide KK
  exact bodyPost_ret (v := .agg #[.int .i64 kz, .int .i64 n, .int .i64 r, .int .i64 0, .int .i64 0, .int .i64 0, .int .i64 0, .slice none 0 0, .int .i64 0, .slice none 0 0, .slice none 0 0, .bool false]) (by simp [results, Try.results46, go_sem, e0, e1, e2, e3, e4, e5, e6, e7, e8, e9, e10, e11]) rfl ⟨_, _, _, rfl, ⟨k1, k2, k3, k4⟩, k5⟩

theorem rop_any (w0 w : World) (g : Nat) (code : Value) (l : List Int) (p : Int) (h : Rd 65 w0 w g code l p) :
    Calls Try.prog 46 #[.pointer (some ⟨g, 0, none⟩)] w fun e w' => ∃ k n t, e = .returned (opVal (rdRest rdKeyI l (getN l p).1 (rdId l (getN l p).2).1.1 (rdId l (getN l p).2).1.2 (rdId l (getN l p).2).2).1 k n t) ∧ OwOp w' w.heap.size (rdRest rdKeyI l (getN l p).1 (rdId l (getN l p).2).1.1 (rdId l (getN l p).2).1.2 (rdId l (getN l p).2).2).1 k n t ∧ Below w0.heap.size w0 w' := by
  by_cases h0 : (getN l p).1 = 0
  · exact rop_0 w0 w g code l p h h0
  by_cases h1 : (getN l p).1 = 1
  · exact rop_1 w0 w g code l p h h1
  by_cases h2 : (getN l p).1 = 2
  · exact rop_2 w0 w g code l p h h2
  by_cases h3 : (getN l p).1 = 3
  · by_cases hg : (getN l (getT l (rdId l (rdId l (getN l p).2).2).2).2).1 = 1
    · exact rop_g w0 w g code l p h h3 hg
    · exact rop_n w0 w g code l p h h3 hg
  exact rop_x w0 w g code l p h h0 h1 h2 h3
theorem many_len (l : List Int) (n : Nat) (p : Int) : (rdMany l n p).1.length = n := by
  induction n generalizing p with
  | zero => rfl
  | succ n ih => unfold rdMany; simp [ih]
theorem keyI_len (l : List Int) (p : Int) : (rdKeyI l p).1.length ≤ 12 := by
  unfold rdKeyI
  rw [many_len]
  omega
theorem rdI_len (l : List Int) : (opRd rdKeyI l).1.key.length ≤ 12 := by
  unfold opRd rdRest
  split
  · exact keyI_len _ _
  · split
    · exact keyI_len _ _
    · split
      · exact Nat.zero_le _
      · split
        · split
          · exact Nat.zero_le _
          · exact Nat.zero_le _
        · exact Nat.zero_le _
end Go.Proofs.Ytcabolcfoijglaa

/- bytes.Equal at readable rows: whether they are one. -/
namespace Go.Proofs.Ytcabolcfoijglaa
open Go.RowKit
set_option linter.unusedVariables false
set_option maxRecDepth 100000

theorem equalI_any (w : World) (u v : Value) (a b : List Int) (hu : Byt w u a) (hv : Byt w v b) :
    Calls Try.prog 47 #[u, v] w fun e w' => e = .returned (.bool (decide (a = b))) ∧ w' = w := by
  have d1 := conv_any w u a hu
  have d2 := conv_any w v b hv
  have HB := hide (str_beq hu.1 hv.1)
  obtain ⟨a1, k1, rfl, _⟩ := hu.shape
  obtain ⟨a2, k2, rfl, _⟩ := hv.shape
  generalize str a = s at *
  generalize str b = t at *
  go_enter Try.func47, Try.ntmps47
  go_wp2
  go_ret
  exact ⟨by rw [← unhide HB]; rfl, rfl⟩
end Go.Proofs.Ytcabolcfoijglaa

/- impl.OpRead; both sides answer alike. -/
namespace Go.Proofs.Ytcabolcfoijglaa
open Go.RowKit
set_option linter.unusedVariables false
set_option maxRecDepth 100000

/-- spec.OpRead. -/
theorem readSS_any (w : World) (code : Value) (l : List Int) (hb : Byt w code l) :
    Calls Try.prog 14 #[code] w fun e w' => ∃ k n t, e = .returned (.tuple #[opVal (readV l) k n t, .bool (readOk l)]) ∧ OwOp w' w.heap.size (readV l) k n t ∧ Below w.heap.size w w' := by
  have e1 : ansOk (opRd rdKeyS l) l = readOk l := readS_ok l
  have e2 : ansV (opRd rdKeyS l) l = readV l := by
    unfold ansV readV
    rw [e1]
    by_cases h : readOk l = true
    · rw [if_pos h, if_pos h, readS_v h]
    · rw [if_neg h, if_neg h]
  have := readS_any w code l hb
  rw [e1, e2] at this
  exact this

set_option maxHeartbeats 12800000 in
/-- impl.OpRead. -/
theorem readI_any (w : World) (code : Value) (l : List Int) (hb : Byt w code l) :
    Calls Try.prog 10 #[code] w fun e w' => ∃ k n t, e = .returned (.tuple #[opVal (readV l) k n t, .bool (readOk l)]) ∧ OwOp w' w.heap.size (readV l) k n t ∧ Below w.heap.size w w' := by
  have HCB := hide (fun (W : World) (hW : Below w.heap.size w W) => hb.keep hW)
  have lr := Loc.made w #[.int .i64 0, .int .i64 0, .int .i64 0, .int .i64 0, .int .i64 0, .int .i64 0, .int .i64 0, .slice none 0 0, .int .i64 0, .slice none 0 0, .slice none 0 0, .bool false] 27
  have hA := (Below.refl w.heap.size w).alloc (Nat.le_refl _) (.cells #[.int .i64 0, .int .i64 0, .int .i64 0, .int .i64 0, .int .i64 0, .int .i64 0, .int .i64 0, .slice none 0 0, .int .i64 0, .slice none 0 0, .slice none 0 0, .bool false] 27)
  have hsz : (w.alloc (.cells #[.int .i64 0, .int .i64 0, .int .i64 0, .int .i64 0, .int .i64 0, .int .i64 0, .int .i64 0, .slice none 0 0, .int .i64 0, .slice none 0 0, .slice none 0 0, .bool false] 27)).heap.size = w.heap.size + 1 := by simp
  have hbx := Loc.made (w.alloc (.cells #[.int .i64 0, .int .i64 0, .int .i64 0, .int .i64 0, .int .i64 0, .int .i64 0, .int .i64 0, .slice none 0 0, .int .i64 0, .slice none 0 0, .slice none 0 0, .bool false] 27)) #[code, .int .i64 0] 65
  have hAA := (Below.refl (w.alloc (.cells #[.int .i64 0, .int .i64 0, .int .i64 0, .int .i64 0, .int .i64 0, .int .i64 0, .int .i64 0, .slice none 0 0, .int .i64 0, .slice none 0 0, .slice none 0 0, .bool false] 27)).heap.size (w.alloc (.cells #[.int .i64 0, .int .i64 0, .int .i64 0, .int .i64 0, .int .i64 0, .int .i64 0, .int .i64 0, .slice none 0 0, .int .i64 0, .slice none 0 0, .slice none 0 0, .bool false] 27))).alloc (Nat.le_refl _) (.cells #[code, .int .i64 0] 65)
  have hR : Rd 65 (w.alloc (.cells #[.int .i64 0, .int .i64 0, .int .i64 0, .int .i64 0, .int .i64 0, .int .i64 0, .int .i64 0, .slice none 0 0, .int .i64 0, .slice none 0 0, .slice none 0 0, .bool false] 27)) ((w.alloc (.cells #[.int .i64 0, .int .i64 0, .int .i64 0, .int .i64 0, .int .i64 0, .int .i64 0, .int .i64 0, .slice none 0 0, .int .i64 0, .slice none 0 0, .slice none 0 0, .bool false] 27)).alloc (.cells #[code, .int .i64 0] 65)) (w.alloc (.cells #[.int .i64 0, .int .i64 0, .int .i64 0, .int .i64 0, .int .i64 0, .int .i64 0, .int .i64 0, .slice none 0 0, .int .i64 0, .slice none 0 0, .slice none 0 0, .bool false] 27)).heap.size code l 0 := ⟨hb.keep hA, hAA, Nat.le_refl _, hbx, by omega, by omega⟩
  have H0 := hide (rop_any _ _ _ code l 0 hR)
  rw [hsz] at H0
  clear hbx hAA hR
  obtain ⟨a, c, rfl, hl1, hl2⟩ := hb.shape
  have hln := hb.2.1
  clear hb
  unfold maxLen at hln hl2
  have HL := hide (rdI_len l)
  have HZ : Hid (readOk l = (opB (opRd rdKeyI l).1 && (opBytes (opRd rdKeyI l).1 == l))) := hide rfl
  have HV : Hid (readV l = if readOk l then (opRd rdKeyI l).1 else zeroV) := hide rfl
  change Hid (Calls _ _ _ _ fun e w' => ∃ k n t, e = .returned (opVal (opRd rdKeyI l).1 k n t) ∧ OwOp w' _ (opRd rdKeyI l).1 k n t ∧ _) at H0
  generalize (opRd rdKeyI l).1 = o at *
  generalize readOk l = ok at *
  generalize readV l = rv at *
  refine calls_via ?_
  intro Q HQ
  have LL := hide (And.intro lr (And.intro hA hsz))
  clear lr hA hsz
  go_enter Try.func10, Try.ntmps10
  go_wp2_with fail
  obtain ⟨lr, hA, hsz⟩ := unhide LL
  clear LL
  refine (unhide H0).mono ?_
  rintro e w1 ⟨k, n, t, rfl, hO, hB⟩
  have lr1 := lr.keep hB (by omega)
  have hB1 := bstep hA (by rw [hsz]; exact hB)
  have hO1 : OwOp w1 (w.heap.size + 1) o k n t := ⟨hO.1.mono (by simp), hO.2.1.mono (by simp), hO.2.2.1.mono (by simp), hO.2.2.2⟩
  clear H0 lr hA hB hO
  clear hsz
  obtain ⟨a1, c1, rfl, _, _⟩ := hO1.1.ints.shape
  obtain ⟨a2, c2, rfl, _, _⟩ := hO1.2.1.byt.shape
  obtain ⟨a3, c3, rfl, _, _⟩ := hO1.2.2.1.byt.shape
  generalize hnK : o.key.length = nK at *
  generalize hnN : o.name.length = nN at *
  generalize hnT : o.text.length = nT at *
  have HNK := hide hnK
  clear hnK hnN hnT
  have hAb := (Below.refl w1.heap.size w1).alloc (Nat.le_refl _) (.cells #[.int .i64 o.kind, .int .i64 o.atN, .int .i64 o.atR, .int .i64 o.nodeN, .int .i64 o.nodeR, .int .i64 o.parN, .int .i64 o.parR, .slice a1 nK c1, .int .i64 o.elem, .slice a2 nN c2, .slice a3 nT c3, .bool o.gone] 27)
  have lo := Loc.made w1 #[.int .i64 o.kind, .int .i64 o.atN, .int .i64 o.atR, .int .i64 o.nodeN, .int .i64 o.nodeR, .int .i64 o.parN, .int .i64 o.parR, .slice a1 nK c1, .int .i64 o.elem, .slice a2 nN c2, .slice a3 nT c3, .bool o.gone] 27
  have HBy := hide (bytesI_any (w1.alloc (.cells #[.int .i64 o.kind, .int .i64 o.atN, .int .i64 o.atR, .int .i64 o.nodeN, .int .i64 o.nodeR, .int .i64 o.parN, .int .i64 o.parR, .slice a1 nK c1, .int .i64 o.elem, .slice a2 nN c2, .slice a3 nT c3, .bool o.gone] 27)) _ o (hO1.keep hAb).rd (by have := unhide HL; have := unhide HNK; omega))
  obtain ⟨x0, x1, x2, x3, x4, x5, x6, x7, x8, x9, x10, x11⟩ := lo.twelve
  have LL := hide (And.intro (lr1.all hAb) (And.intro (bstep hB1 hAb) (And.intro (hO1.keep hAb) lo)))
  clear lr1 hB1 hO1 hAb lo HNK
  unfold opVal at HBy ⊢
  go_wp2_with fail
  clear x0 x1 x2 x3 x4 x5 x6 x7 x8 x9 x10 x11
  obtain ⟨lr, hB, hO, lo⟩ := unhide LL
  clear LL
  generalize (w1.alloc (.cells #[.int .i64 o.kind, .int .i64 o.atN, .int .i64 o.atR, .int .i64 o.nodeN, .int .i64 o.nodeR, .int .i64 o.parN, .int .i64 o.parR, .slice a1 nK c1, .int .i64 o.elem, .slice a2 nN c2, .slice a3 nT c3, .bool o.gone] 27)) = wb at *
  generalize w1.heap.size = S at *
  refine (unhide HBy).mono ?_
  rintro e w2 ⟨ab, cb, rfl, hob, hB2⟩
  have lr2 := lr.all hB2
  have lo2 := lo.all hB2
  have hO2 := hO.keep hB2
  have hB3 := bstep hB hB2
  clear lr lo hO hB hB2 HBy
  have LL := hide (And.intro lr2 (And.intro lo2 (And.intro hO2 hB3)))
  have HEQ := hide (fun W (hW : Below w2.heap.size w2 W) => equalI_any W _ _ _ _ (hob.byt.keep hW) (unhide HCB W (bstep hB3 hW)))
  clear lr2 lo2 hO2 hB3 hob HCB
  have hE : (if opB o then decide (obV o = l) else false) = (opB o && (opBytes o == l)) := by
    unfold obV
    cases hq : opB o with
    | true => rw [if_pos rfl, if_pos rfl, Bool.true_and, Bool.eq_iff_iff]; simp
    | false => rfl
  have HE := hide (hE.trans (unhide HZ).symm)
  clear hE HZ
  generalize obV o = rb at *
  generalize hbq : opB o = bq at *
  clear hbq
  go_upto_region 4 with fail
  go_cut [23] from 16 to 22 (fun s23 wx => s23 = .bool (!ok) ∧ Below w2.heap.size w2 wx)
  case first =>
    cases bq with
    | true =>
      go_wp2_with fail
      refine (unhide HEQ _ (Below.refl _ _)).mono ?_
      rintro e w3 ⟨rfl, rfl⟩
      go_wp2_with fail
      go_meet
      exact ⟨by rw [← unhide HE]; rfl, Below.refl _ _⟩
    | false =>
      go_wp2_with fail
      go_meet
      exact ⟨by rw [← unhide HE]; rfl, Below.refl _ _⟩
  case rest =>
    obtain ⟨rfl, hK⟩ := hcut
    obtain ⟨lr, lo, hO, hB⟩ := unhide LL
    replace lr := lr.all hK
    replace lo := lo.all hK
    replace hO := hO.keep hK
    replace hB := bstep hB hK
    clear LL hK HEQ HE
    cases ok with
    | true =>
      have HZ : Hid (true = true) := hide rfl
      replace HV := hide ((unhide HV).trans (if_pos rfl))
      obtain ⟨y0, y1, y2, y3, y4, y5, y6, y7, y8, y9, y10, y11⟩ := lo.twelve
      have lrz : Loc ((((((((((((wc.setCell ⟨w.heap.size, 0, none⟩ (.int .i64 o.kind)).setCell ⟨w.heap.size, 1, none⟩ (.int .i64 o.atN)).setCell ⟨w.heap.size, 2, none⟩ (.int .i64 o.atR)).setCell ⟨w.heap.size, 3, none⟩ (.int .i64 o.nodeN)).setCell ⟨w.heap.size, 4, none⟩ (.int .i64 o.nodeR)).setCell ⟨w.heap.size, 5, none⟩ (.int .i64 o.parN)).setCell ⟨w.heap.size, 6, none⟩ (.int .i64 o.parR)).setCell ⟨w.heap.size, 7, none⟩ (.slice a1 nK c1)).setCell ⟨w.heap.size, 8, none⟩ (.int .i64 o.elem)).setCell ⟨w.heap.size, 9, none⟩ (.slice a2 nN c2)).setCell ⟨w.heap.size, 10, none⟩ (.slice a3 nT c3)).setCell ⟨w.heap.size, 11, none⟩ (.bool o.gone)) w.heap.size #[.int .i64 o.kind, .int .i64 o.atN, .int .i64 o.atR, .int .i64 o.nodeN, .int .i64 o.nodeR, .int .i64 o.parN, .int .i64 o.parR, .slice a1 nK c1, .int .i64 o.elem, .slice a2 nN c2, .slice a3 nT c3, .bool o.gone] 27 := set_twelve lr (.int .i64 o.kind) (.int .i64 o.atN) (.int .i64 o.atR) (.int .i64 o.nodeN) (.int .i64 o.nodeR) (.int .i64 o.parN) (.int .i64 o.parR) (.slice a1 nK c1) (.int .i64 o.elem) (.slice a2 nN c2) (.slice a3 nT c3) (.bool o.gone)
      have hsR : wc.grownBy ((((((((((((wc.setCell ⟨w.heap.size, 0, none⟩ (.int .i64 o.kind)).setCell ⟨w.heap.size, 1, none⟩ (.int .i64 o.atN)).setCell ⟨w.heap.size, 2, none⟩ (.int .i64 o.atR)).setCell ⟨w.heap.size, 3, none⟩ (.int .i64 o.nodeN)).setCell ⟨w.heap.size, 4, none⟩ (.int .i64 o.nodeR)).setCell ⟨w.heap.size, 5, none⟩ (.int .i64 o.parN)).setCell ⟨w.heap.size, 6, none⟩ (.int .i64 o.parR)).setCell ⟨w.heap.size, 7, none⟩ (.slice a1 nK c1)).setCell ⟨w.heap.size, 8, none⟩ (.int .i64 o.elem)).setCell ⟨w.heap.size, 9, none⟩ (.slice a2 nN c2)).setCell ⟨w.heap.size, 10, none⟩ (.slice a3 nT c3)).setCell ⟨w.heap.size, 11, none⟩ (.bool o.gone)) (some w.heap.size) := grow_twelve _ _ (.int .i64 o.kind) (.int .i64 o.atN) (.int .i64 o.atR) (.int .i64 o.nodeN) (.int .i64 o.nodeR) (.int .i64 o.parN) (.int .i64 o.parR) (.slice a1 nK c1) (.int .i64 o.elem) (.slice a2 nN c2) (.slice a3 nT c3) (.bool o.gone)
      have hBz := (bstepBy hB hsR (fun k hk => by simp at hk; omega))
      obtain ⟨z0, z1, z2, z3, z4, z5, z6, z7, z8, z9, z10, z11⟩ := lr.twelve
      have g0 := lr.frozen 0
      have g1 := lr.frozen 1
      have g2 := lr.frozen 2
      have g3 := lr.frozen 3
      have g4 := lr.frozen 4
      have g5 := lr.frozen 5
      have g6 := lr.frozen 6
      have g7 := lr.frozen 7
      have g8 := lr.frozen 8
      have g9 := lr.frozen 9
      have g10 := lr.frozen 10
      have g11 := lr.frozen 11
      have hO9 : OwOp ((((((((((((wc.setCell ⟨w.heap.size, 0, none⟩ (.int .i64 o.kind)).setCell ⟨w.heap.size, 1, none⟩ (.int .i64 o.atN)).setCell ⟨w.heap.size, 2, none⟩ (.int .i64 o.atR)).setCell ⟨w.heap.size, 3, none⟩ (.int .i64 o.nodeN)).setCell ⟨w.heap.size, 4, none⟩ (.int .i64 o.nodeR)).setCell ⟨w.heap.size, 5, none⟩ (.int .i64 o.parN)).setCell ⟨w.heap.size, 6, none⟩ (.int .i64 o.parR)).setCell ⟨w.heap.size, 7, none⟩ (.slice a1 nK c1)).setCell ⟨w.heap.size, 8, none⟩ (.int .i64 o.elem)).setCell ⟨w.heap.size, 9, none⟩ (.slice a2 nN c2)).setCell ⟨w.heap.size, 10, none⟩ (.slice a3 nT c3)).setCell ⟨w.heap.size, 11, none⟩ (.bool o.gone)) w.heap.size o (.slice a1 nK c1) (.slice a2 nN c2) (.slice a3 nT c3) := ⟨(hO.1.keepBy hsR (.inr (fun e => by have := (hO.1.lt _ e).1; omega))).mono (Nat.le_succ _), (hO.2.1.keepBy hsR (.inr (fun e => by have := (hO.2.1.lt _ e).1; omega))).mono (Nat.le_succ _), (hO.2.2.1.keepBy hsR (.inr (fun e => by have := (hO.2.2.1.lt _ e).1; omega))).mono (Nat.le_succ _), hO.2.2.2⟩
      have KK := hide (And.intro lrz (And.intro hBz hO9))
      clear lrz hsR hBz hO9 lo lr hO hB
      go_upto_region 6 with fail
      go_cut [3] from 25 to 25 (fun s3 wx => s3 = .bool true ∧ Loc wx w.heap.size #[.int .i64 o.kind, .int .i64 o.atN, .int .i64 o.atR, .int .i64 o.nodeN, .int .i64 o.nodeR, .int .i64 o.parN, .int .i64 o.parR, .slice a1 nK c1, .int .i64 o.elem, .slice a2 nN c2, .slice a3 nT c3, .bool o.gone] 27 ∧ Below w.heap.size w wx ∧ OwOp wx w.heap.size o (.slice a1 nK c1) (.slice a2 nN c2) (.slice a3 nT c3))
      case first =>
        go_wp2_with fail
        go_meet
        exact ⟨rfl, unhide KK⟩
      case rest =>
        obtain ⟨rfl, hL, hB9, hO9⟩ := hcut
        clear KK z0 z1 z2 z3 z4 z5 z6 z7 z8 z9 z10 z11 g0 g1 g2 g3 g4 g5 g6 g7 g8 g9 g10 g11 y0 y1 y2 y3 y4 y5 y6 y7 y8 y9 y10 y11
        obtain ⟨e0, e1, e2, e3, e4, e5, e6, e7, e8, e9, e10, e11⟩ := hL.twelve
        clear hL
        go_wp2_with fail
        exact bodyPost_ret (v := .tuple #[.agg #[.int .i64 o.kind, .int .i64 o.atN, .int .i64 o.atR, .int .i64 o.nodeN, .int .i64 o.nodeR, .int .i64 o.parN, .int .i64 o.parR, .slice a1 nK c1, .int .i64 o.elem, .slice a2 nN c2, .slice a3 nT c3, .bool o.gone], .bool true]) (by simp [results, Try.results10, go_sem, e0, e1, e2, e3, e4, e5, e6, e7, e8, e9, e10, e11]) rfl (unhide HQ _ _ ⟨_, _, _, by rw [unhide HV]; rfl, by rw [unhide HV]; exact hO9, hB9⟩)
    | false =>
      have HZ : Hid (false = false) := hide rfl
      replace HV := hide ((unhide HV).trans (if_neg (by decide)))
      have lrz : Loc ((((((((((((wc.setCell ⟨w.heap.size, 0, none⟩ (.int .i64 0)).setCell ⟨w.heap.size, 1, none⟩ (.int .i64 0)).setCell ⟨w.heap.size, 2, none⟩ (.int .i64 0)).setCell ⟨w.heap.size, 3, none⟩ (.int .i64 0)).setCell ⟨w.heap.size, 4, none⟩ (.int .i64 0)).setCell ⟨w.heap.size, 5, none⟩ (.int .i64 0)).setCell ⟨w.heap.size, 6, none⟩ (.int .i64 0)).setCell ⟨w.heap.size, 7, none⟩ (.slice none 0 0)).setCell ⟨w.heap.size, 8, none⟩ (.int .i64 0)).setCell ⟨w.heap.size, 9, none⟩ (.slice none 0 0)).setCell ⟨w.heap.size, 10, none⟩ (.slice none 0 0)).setCell ⟨w.heap.size, 11, none⟩ (.bool false)) w.heap.size #[.int .i64 0, .int .i64 0, .int .i64 0, .int .i64 0, .int .i64 0, .int .i64 0, .int .i64 0, .slice none 0 0, .int .i64 0, .slice none 0 0, .slice none 0 0, .bool false] 27 := set_twelve lr (.int .i64 0) (.int .i64 0) (.int .i64 0) (.int .i64 0) (.int .i64 0) (.int .i64 0) (.int .i64 0) (.slice none 0 0) (.int .i64 0) (.slice none 0 0) (.slice none 0 0) (.bool false)
      have hsR : wc.grownBy ((((((((((((wc.setCell ⟨w.heap.size, 0, none⟩ (.int .i64 0)).setCell ⟨w.heap.size, 1, none⟩ (.int .i64 0)).setCell ⟨w.heap.size, 2, none⟩ (.int .i64 0)).setCell ⟨w.heap.size, 3, none⟩ (.int .i64 0)).setCell ⟨w.heap.size, 4, none⟩ (.int .i64 0)).setCell ⟨w.heap.size, 5, none⟩ (.int .i64 0)).setCell ⟨w.heap.size, 6, none⟩ (.int .i64 0)).setCell ⟨w.heap.size, 7, none⟩ (.slice none 0 0)).setCell ⟨w.heap.size, 8, none⟩ (.int .i64 0)).setCell ⟨w.heap.size, 9, none⟩ (.slice none 0 0)).setCell ⟨w.heap.size, 10, none⟩ (.slice none 0 0)).setCell ⟨w.heap.size, 11, none⟩ (.bool false)) (some w.heap.size) := grow_twelve _ _ (.int .i64 0) (.int .i64 0) (.int .i64 0) (.int .i64 0) (.int .i64 0) (.int .i64 0) (.int .i64 0) (.slice none 0 0) (.int .i64 0) (.slice none 0 0) (.slice none 0 0) (.bool false)
      have hBz := (bstepBy hB hsR (fun k hk => by simp at hk; omega))
      obtain ⟨z0, z1, z2, z3, z4, z5, z6, z7, z8, z9, z10, z11⟩ := lr.twelve
      have g0 := lr.frozen 0
      have g1 := lr.frozen 1
      have g2 := lr.frozen 2
      have g3 := lr.frozen 3
      have g4 := lr.frozen 4
      have g5 := lr.frozen 5
      have g6 := lr.frozen 6
      have g7 := lr.frozen 7
      have g8 := lr.frozen 8
      have g9 := lr.frozen 9
      have g10 := lr.frozen 10
      have g11 := lr.frozen 11
      have KK := hide (And.intro lrz hBz)
      clear lrz hsR hBz lo lr hO hB
      go_upto_region 5 with fail
      go_cut [3] from 24 to 24 (fun s3 wx => s3 = .bool false ∧ Loc wx w.heap.size #[.int .i64 0, .int .i64 0, .int .i64 0, .int .i64 0, .int .i64 0, .int .i64 0, .int .i64 0, .slice none 0 0, .int .i64 0, .slice none 0 0, .slice none 0 0, .bool false] 27 ∧ Below w.heap.size w wx)
      case first =>
        go_wp2_with fail
        go_meet
        exact ⟨rfl, unhide KK⟩
      case rest =>
        obtain ⟨rfl, hL, hB9⟩ := hcut
        clear KK z0 z1 z2 z3 z4 z5 z6 z7 z8 z9 z10 z11 g0 g1 g2 g3 g4 g5 g6 g7 g8 g9 g10 g11
        obtain ⟨e0, e1, e2, e3, e4, e5, e6, e7, e8, e9, e10, e11⟩ := hL.twelve
        clear hL
        go_wp2_with fail
        exact bodyPost_ret (v := .tuple #[.agg #[.int .i64 0, .int .i64 0, .int .i64 0, .int .i64 0, .int .i64 0, .int .i64 0, .int .i64 0, .slice none 0 0, .int .i64 0, .slice none 0 0, .slice none 0 0, .bool false], .bool false]) (by simp [results, Try.results10, go_sem, e0, e1, e2, e3, e4, e5, e6, e7, e8, e9, e10, e11]) rfl (unhide HQ _ _ ⟨_, _, _, by rw [unhide HV]; rfl, by rw [unhide HV]; exact ⟨ownz_nil _ _, own_nilB _ _, own_nilB _ _, List.nodup_nil⟩, hB9⟩)
end Go.Proofs.Ytcabolcfoijglaa

/- The law's own helpers that write a count into a row of bytes and look for it again, by their contracts. -/
namespace Go.Proofs.Ytcabolcfoijglaa
open Go.RowKit
set_option linter.unusedVariables false

/-- n bytes that count on from k. -/
def marks (k : Int) (n : Nat) : List Int := (List.range n).map fun i : Nat => (k + (i : Int)) % 256
theorem marks_len (k : Int) (n : Nat) : (marks k n).length = n := by simp [marks]
theorem marks_ok (k : Int) (n : Nat) : okB (marks k n) := fun x hx => by
  obtain ⟨i, _, rfl⟩ := List.mem_map.1 hx
  omega
theorem marks_at (k : Int) (n i : Nat) (h : i < n) : (marks k n).getD i 0 = (k + (i : Int)) % 256 := by simp [marks, h]
theorem marks_step (k : Int) (l : List Int) (j : Nat) (h : j < l.length) : (vals (marks k j ++ l.drop j)).set j (.int .u8 ((k + (j : Int)) % 256)) = vals (marks k (j + 1) ++ l.drop (j + 1)) := by
  have e : marks k (j + 1) = marks k j ++ [(k + (j : Int)) % 256] := by simp [marks, List.range_succ]
  have hl : (vals (marks k j)).length = j := by simp [vals, marks_len]
  rw [vals_app, List.set_append_right _ _ (by omega), hl, Nat.sub_self, e, List.drop_eq_getElem_cons h, vals_app, vals_app, List.append_assoc]
  rfl

theorem markB_nil (w : World) (a : Option Addr) (cap : Nat) (k : Int) :
    Calls Try.prog 18 #[.slice a 0 cap, .int .i64 k] w fun e w' => e = .returned (.int .i64 k) ∧ w' = w := by
  go_enter Try.func18, Try.ntmps18
  go_wp2
  refine wp_loop_rounds 1 ?_
  rw [rounds_succ]
  go_wp2
  go_ret
  exact ⟨rfl, rfl⟩

set_option maxHeartbeats 1600000 in
set_option maxRecDepth 1000000 in
theorem markB_row (w : World) (base g cap : Nat) (l : List Int) (k : Int) (hw : w.ownsRow base 5 1 (.slice (some ⟨g, 0, none⟩) l.length cap) l.length (vals l)) (hs : l.length ≤ 16777216) (h0 : 0 ≤ k) (h1 : k ≤ 1000000000) :
    Calls Try.prog 18 #[.slice (some ⟨g, 0, none⟩) l.length cap, .int .i64 k] w fun e w' => e = .returned (.int .i64 (k + l.length)) ∧
      w'.ownsRow base 5 1 (.slice (some ⟨g, 0, none⟩) l.length cap) l.length (vals (marks k l.length)) ∧ w.grownBy w' (some g) := by
  generalize hn : l.length = n at *
  have HN := hide hn
  clear hn
  go_enter Try.func18, Try.ntmps18
  go_wp2
  go_loopw [1, 5] (fun c i wr => ∃ j : Nat, j ≤ n ∧ i = .int .i64 j ∧ c = .int .i64 (k + (j : Int)) ∧ wr.ownsRow base 5 1 (.slice (some ⟨g, 0, none⟩) n cap) n (vals (marks k j ++ l.drop j)) ∧ w.grownBy wr (some g)) (fun _ i _ => n - (intOf i).toNat)
  case atStart => exact ⟨0, Nat.zero_le _, rfl, by simp, by simpa [marks] using hw, World.grownBy.refl _ _⟩
  case round =>
    obtain ⟨j, hj, rfl, rfl, hr, hg⟩ := hrel
    by_cases hlt : j < n
    · have hlen := unhide HN
      have hjl : j < l.length := by omega
      obtain ⟨y, hy⟩ : ∃ y, wr.cell? ⟨g, j, none⟩ = some (.int .u8 y) := ⟨(marks k j ++ l.drop j).getD j 0, by rw [hr.cellAt j (by omega), vals_at (by simp [marks_len]; omega)]⟩
      have hfr := hr.frozenAt j
      have hst := hr.stored j (.int .u8 ((k + (j : Int)) % 256))
      rw [marks_step k l j hjl] at hst
      have HS := hide hst
      clear hst hr hlen
      have hlt' : (j : Int) < (n : Int) := by omega
      go_wp2
      have R := unhide HS
      go_roundw
      case rel => exact ⟨j + 1, by omega, by go_num, by go_num, R.1, grown_trans hg R.2⟩
      case measure => simp [intOf]; omega
    · have e : j = n := by omega
      subst e
      have hr' : wr.ownsRow base 5 1 (.slice (some ⟨g, 0, none⟩) j cap) j (vals (marks k j)) := by
        have := unhide HN
        rw [List.drop_of_length_le (by omega), List.append_nil] at hr
        exact hr
      clear hr
      go_wp2
      go_ret
      exact ⟨rfl, hr', hg⟩

theorem markB_any (w : World) (base : Nat) (v : Value) (l : List Int) (k : Int) (h : Own w base v l) (hs : l.length ≤ 16777216) (h0 : 0 ≤ k) (h1 : k ≤ 1000000000) :
    Calls Try.prog 18 #[v, .int .i64 k] w fun e w' => e = .returned (.int .i64 (k + l.length)) ∧ Own w' base v (marks k l.length) ∧ w.grownBy w' v.ownBlock := by
  obtain ⟨hok, hlen, ⟨rfl, hz⟩ | ⟨g, cap, cur, rfl, hr⟩⟩ := h
  · have e : l = [] := List.eq_nil_of_length_eq_zero hz
    subst e
    refine (markB_nil w none 0 k).mono ?_
    rintro e w' ⟨rfl, rfl⟩
    exact ⟨by simp, ⟨marks_ok _ _, World.ownsRow_nil _ _ _ _⟩, World.grownBy.refl _ _⟩
  · refine (markB_row w base g cap l k ⟨hlen, .inr ⟨g, cap, cur, rfl, hr⟩⟩ hs h0 h1).mono ?_
    rintro e w' ⟨rfl, ho, hg⟩
    refine ⟨rfl, ⟨marks_ok _ _, ?_⟩, hg⟩
    rw [marks_len]
    exact ho

theorem heldB_nil (w : World) (a : Option Addr) (cap : Nat) (k : Int) :
    Calls Try.prog 60 #[.slice a 0 cap, .int .i64 k] w fun e w' => e = .returned (.int .i64 k) ∧ w' = w := by
  go_enter Try.func60, Try.ntmps60
  go_wp2
  refine wp_loop_rounds 1 ?_
  rw [rounds_succ]
  go_wp2
  go_ret
  exact ⟨rfl, rfl⟩

set_option maxHeartbeats 1600000 in
set_option maxRecDepth 1000000 in
theorem heldB_row (w : World) (b off cap n : Nat) (k : Int) (hc : ∀ i, i < n → w.cell? ⟨b, off + i, none⟩ = some (.int .u8 ((marks k n).getD i 0))) (hs : n ≤ 16777216) (h0 : 0 ≤ k) (h1 : k ≤ 1000000000) :
    Calls Try.prog 60 #[.slice (some ⟨b, off, none⟩) n cap, .int .i64 k] w fun e w' => e = .returned (.int .i64 (k + n)) ∧ w' = w := by
  go_enter Try.func60, Try.ntmps60
  go_wp2
  go_loop [1, 5] (fun c i => ∃ j : Nat, j ≤ n ∧ i = .int .i64 j ∧ c = .int .i64 (k + (j : Int))) (fun _ i => n - (intOf i).toNat)
  case atStart => exact ⟨0, Nat.zero_le _, rfl, by simp⟩
  case round =>
    obtain ⟨j, hj, rfl, rfl⟩ := hrel
    by_cases hlt : j < n
    · have c1 := hc j hlt
      rw [marks_at k n j hlt] at c1
      clear hc
      have hlt' : (j : Int) < (n : Int) := by omega
      go_wp2
      go_round
      case rel => exact ⟨j + 1, by omega, by go_num, by go_num⟩
      case measure => simp [intOf]; omega
    · have e : j = n := by omega
      subst e
      clear hc
      go_wp2
      go_ret
      exact ⟨rfl, rfl⟩

theorem heldB_any (w : World) (v : Value) (n : Nat) (k : Int) (h : Byt w v (marks k n)) (hs : n ≤ 16777216) (h0 : 0 ≤ k) (h1 : k ≤ 1000000000) :
    Calls Try.prog 60 #[v, .int .i64 k] w fun e w' => e = .returned (.int .i64 (k + n)) ∧ w' = w := by
  obtain ⟨_, _, ⟨rfl, hn⟩ | ⟨x, cap, rfl, hc, hn⟩ | ⟨b, off, cap, rfl, _, _, _, _, h5⟩⟩ := h
  · have e : n = 0 := by have := congrArg List.length hn; rw [marks_len] at this; exact this
    subst e
    refine (heldB_nil w none 0 k).mono ?_
    rintro e w' ⟨rfl, rfl⟩
    exact ⟨by simp, rfl⟩
  · have e : n = 0 := by have := congrArg List.length hn; rw [marks_len] at this; exact this
    subst e
    refine (heldB_nil w (some x) cap k).mono ?_
    rintro e w' ⟨rfl, rfl⟩
    exact ⟨by simp, rfl⟩
  · rw [marks_len] at h5 ⊢
    exact heldB_row w b off cap n k h5 hs h0 h1

end Go.Proofs.Ytcabolcfoijglaa

/- The law's own helpers that write a count into a row of bytes and look for it again, by their contracts. -/
namespace Go.Proofs.Ytcabolcfoijglaa
open Go.RowKit
set_option linter.unusedVariables false

/-- n bytes that count on from k. -/
def markz (k : Int) (n : Nat) : List Int := (List.range n).map fun i : Nat => k + (i : Int)
theorem markz_len (k : Int) (n : Nat) : (markz k n).length = n := by simp [markz]
theorem markz_ok (k : Int) (n : Nat) (h0 : 0 ≤ k) (h1 : k + (n : Int) ≤ 9223372036854775807) : okZ (markz k n) := fun x hx => by
  obtain ⟨i, hi, rfl⟩ := List.mem_map.1 hx
  have := List.mem_range.1 hi
  omega
theorem markz_at (k : Int) (n i : Nat) (h : i < n) : (markz k n).getD i 0 = k + (i : Int) := by simp [markz, h]
theorem markz_step (k : Int) (l : List Int) (j : Nat) (h : j < l.length) : (valz (markz k j ++ l.drop j)).set j (.int .i64 (k + (j : Int))) = valz (markz k (j + 1) ++ l.drop (j + 1)) := by
  have e : markz k (j + 1) = markz k j ++ [k + (j : Int)] := by simp [markz, List.range_succ]
  have hl : (valz (markz k j)).length = j := by simp [valz, markz_len]
  rw [valz_app, List.set_append_right _ _ (by omega), hl, Nat.sub_self, e, List.drop_eq_getElem_cons h, valz_app, valz_app, List.append_assoc]
  rfl

theorem markZ_nil (w : World) (a : Option Addr) (cap : Nat) (k : Int) :
    Calls Try.prog 58 #[.slice a 0 cap, .int .i64 k] w fun e w' => e = .returned (.int .i64 k) ∧ w' = w := by
  go_enter Try.func58, Try.ntmps58
  go_wp2
  refine wp_loop_rounds 1 ?_
  rw [rounds_succ]
  go_wp2
  go_ret
  exact ⟨rfl, rfl⟩

set_option maxHeartbeats 1600000 in
set_option maxRecDepth 1000000 in
theorem markZ_row (w : World) (base g cap : Nat) (l : List Int) (k : Int) (hw : w.ownsRow base 3 1 (.slice (some ⟨g, 0, none⟩) l.length cap) l.length (valz l)) (hs : l.length ≤ 16777216) (h0 : 0 ≤ k) (h1 : k ≤ 1000000000) :
    Calls Try.prog 58 #[.slice (some ⟨g, 0, none⟩) l.length cap, .int .i64 k] w fun e w' => e = .returned (.int .i64 (k + l.length)) ∧
      w'.ownsRow base 3 1 (.slice (some ⟨g, 0, none⟩) l.length cap) l.length (valz (markz k l.length)) ∧ w.grownBy w' (some g) := by
  generalize hn : l.length = n at *
  have HN := hide hn
  clear hn
  go_enter Try.func58, Try.ntmps58
  go_wp2
  go_loopw [1, 5] (fun c i wr => ∃ j : Nat, j ≤ n ∧ i = .int .i64 j ∧ c = .int .i64 (k + (j : Int)) ∧ wr.ownsRow base 3 1 (.slice (some ⟨g, 0, none⟩) n cap) n (valz (markz k j ++ l.drop j)) ∧ w.grownBy wr (some g)) (fun _ i _ => n - (intOf i).toNat)
  case atStart => exact ⟨0, Nat.zero_le _, rfl, by simp, by simpa [markz] using hw, World.grownBy.refl _ _⟩
  case round =>
    obtain ⟨j, hj, rfl, rfl, hr, hg⟩ := hrel
    by_cases hlt : j < n
    · have hlen := unhide HN
      have hjl : j < l.length := by omega
      obtain ⟨y, hy⟩ : ∃ y, wr.cell? ⟨g, j, none⟩ = some (.int .i64 y) := ⟨(markz k j ++ l.drop j).getD j 0, by rw [hr.cellAt j (by omega), valz_at (by simp [markz_len]; omega)]⟩
      have hfr := hr.frozenAt j
      have hst := hr.stored j (.int .i64 (k + (j : Int)))
      rw [markz_step k l j hjl] at hst
      have HS := hide hst
      clear hst hr hlen
      have hlt' : (j : Int) < (n : Int) := by omega
      go_wp2
      have R := unhide HS
      go_roundw
      case rel => exact ⟨j + 1, by omega, by go_num, by go_num, R.1, grown_trans hg R.2⟩
      case measure => simp [intOf]; omega
    · have e : j = n := by omega
      subst e
      have hr' : wr.ownsRow base 3 1 (.slice (some ⟨g, 0, none⟩) j cap) j (valz (markz k j)) := by
        have := unhide HN
        rw [List.drop_of_length_le (by omega), List.append_nil] at hr
        exact hr
      clear hr
      go_wp2
      go_ret
      exact ⟨rfl, hr', hg⟩

theorem markZ_any (w : World) (base : Nat) (v : Value) (l : List Int) (k : Int) (h : OwnZ w base v l) (hs : l.length ≤ 16777216) (h0 : 0 ≤ k) (h1 : k ≤ 1000000000) :
    Calls Try.prog 58 #[v, .int .i64 k] w fun e w' => e = .returned (.int .i64 (k + l.length)) ∧ OwnZ w' base v (markz k l.length) ∧ w.grownBy w' v.ownBlock := by
  obtain ⟨hok, hlen, ⟨rfl, hz⟩ | ⟨g, cap, cur, rfl, hr⟩⟩ := h
  · have e : l = [] := List.eq_nil_of_length_eq_zero hz
    subst e
    refine (markZ_nil w none 0 k).mono ?_
    rintro e w' ⟨rfl, rfl⟩
    exact ⟨by simp, ⟨markz_ok _ _ h0 (by first | omega | (simp; omega)), World.ownsRow_nil _ _ _ _⟩, World.grownBy.refl _ _⟩
  · refine (markZ_row w base g cap l k ⟨hlen, .inr ⟨g, cap, cur, rfl, hr⟩⟩ hs h0 h1).mono ?_
    rintro e w' ⟨rfl, ho, hg⟩
    refine ⟨rfl, ⟨markz_ok _ _ h0 (by first | omega | (simp; omega)), ?_⟩, hg⟩
    rw [markz_len]
    exact ho

theorem heldZ_nil (w : World) (a : Option Addr) (cap : Nat) (k : Int) :
    Calls Try.prog 59 #[.slice a 0 cap, .int .i64 k] w fun e w' => e = .returned (.int .i64 k) ∧ w' = w := by
  go_enter Try.func59, Try.ntmps59
  go_wp2
  refine wp_loop_rounds 1 ?_
  rw [rounds_succ]
  go_wp2
  go_ret
  exact ⟨rfl, rfl⟩

set_option maxHeartbeats 1600000 in
set_option maxRecDepth 1000000 in
theorem heldZ_row (w : World) (b off cap n : Nat) (k : Int) (hc : ∀ i, i < n → w.cell? ⟨b, off + i, none⟩ = some (.int .i64 ((markz k n).getD i 0))) (hs : n ≤ 16777216) (h0 : 0 ≤ k) (h1 : k ≤ 1000000000) :
    Calls Try.prog 59 #[.slice (some ⟨b, off, none⟩) n cap, .int .i64 k] w fun e w' => e = .returned (.int .i64 (k + n)) ∧ w' = w := by
  go_enter Try.func59, Try.ntmps59
  go_wp2
  go_loop [1, 5] (fun c i => ∃ j : Nat, j ≤ n ∧ i = .int .i64 j ∧ c = .int .i64 (k + (j : Int))) (fun _ i => n - (intOf i).toNat)
  case atStart => exact ⟨0, Nat.zero_le _, rfl, by simp⟩
  case round =>
    obtain ⟨j, hj, rfl, rfl⟩ := hrel
    by_cases hlt : j < n
    · have c1 := hc j hlt
      rw [markz_at k n j hlt] at c1
      clear hc
      have hlt' : (j : Int) < (n : Int) := by omega
      go_wp2
      go_round
      case rel => exact ⟨j + 1, by omega, by go_num, by go_num⟩
      case measure => simp [intOf]; omega
    · have e : j = n := by omega
      subst e
      clear hc
      go_wp2
      go_ret
      exact ⟨rfl, rfl⟩

theorem heldZ_any (w : World) (v : Value) (n : Nat) (k : Int) (h : Ints w v (markz k n)) (hs : n ≤ 16777216) (h0 : 0 ≤ k) (h1 : k ≤ 1000000000) :
    Calls Try.prog 59 #[v, .int .i64 k] w fun e w' => e = .returned (.int .i64 (k + n)) ∧ w' = w := by
  obtain ⟨_, _, ⟨rfl, hn⟩ | ⟨x, cap, rfl, hc, hn⟩ | ⟨b, off, cap, rfl, _, _, _, _, h5⟩⟩ := h
  · have e : n = 0 := by have := congrArg List.length hn; rw [markz_len] at this; exact this
    subst e
    refine (heldZ_nil w none 0 k).mono ?_
    rintro e w' ⟨rfl, rfl⟩
    exact ⟨by simp, rfl⟩
  · have e : n = 0 := by have := congrArg List.length hn; rw [markz_len] at this; exact this
    subst e
    refine (heldZ_nil w (some x) cap k).mono ?_
    rintro e w' ⟨rfl, rfl⟩
    exact ⟨by simp, rfl⟩
  · rw [markz_len] at h5 ⊢
    exact heldZ_row w b off cap n k h5 hs h0 h1

end Go.Proofs.Ytcabolcfoijglaa

/- laws.markOp and laws.heldOp, by their contracts. -/
namespace Go.Proofs.Ytcabolcfoijglaa
open Go.RowKit
set_option linter.unusedVariables false
set_option maxRecDepth 100000

theorem Frm.app {a b c : World} {S T : List Nat} (h : Frm a b S) (k : Frm b c T) : Frm a c (S ++ T) := (h.mono fun g hg => List.mem_append_left _ hg).trans (k.mono fun g hg => List.mem_append_right _ hg)
theorem Loc.grown {w w' : World} {g : Nat} {cs : Array Value} {T : TypeId} {row : Option Nat} (h : Loc w g cs T) (hG : w.grownBy w' row) (hne : row ≠ some g) : Loc w' g cs T := by
  have hlt : g < w.heap.size := by
    by_cases hlt : g < w.heap.size
    · exact hlt
    · unfold Loc at h
      rw [Array.getElem?_eq_none (by omega)] at h
      cases h
  exact (hG.block g hlt (fun e => hne e.symm)).trans h
theorem fb_notin {v u : Value} {F : List Nat} (h : (FB v ++ FB u).Nodup) : ∀ g ∈ FB v, g ∉ FB u := fun g hg hu => (List.nodup_append.1 h).2.2 g hg g hu rfl

/-- What markOp lays. -/
def OwMk (w : World) (base : Nat) (k n t : Value) (a b c : Nat) (z : Int) : Prop := OwnZ w base k (markz z a) ∧ Own w base n (marks (z + a) b) ∧ Own w base t (marks (z + a + b) c)

set_option maxHeartbeats 6400000 in
theorem markOp_any (w : World) (base : Nat) (o : OpV) (a1 a2 a3 : Option Addr) (c1 c2 c3 : Nat) (z : Int)
    (h : OwOp w base o (.slice a1 o.key.length c1) (.slice a2 o.name.length c2) (.slice a3 o.text.length c3)) (hs : o.key.length + o.name.length + o.text.length ≤ 2097152) (h0 : 0 ≤ z) (h1 : z ≤ 1000000) :
    Calls Try.prog 19 #[opVal o (.slice a1 o.key.length c1) (.slice a2 o.name.length c2) (.slice a3 o.text.length c3), .int .i64 z] w fun e w' => e = .returned (.int .i64 (z + (o.key.length : Int) + (o.name.length : Int) + (o.text.length : Int))) ∧
      OwMk w' base (.slice a1 o.key.length c1) (.slice a2 o.name.length c2) (.slice a3 o.text.length c3) o.key.length o.name.length o.text.length z ∧ Frm w w' (FB (.slice a1 o.key.length c1) ++ FB (.slice a2 o.name.length c2) ++ FB (.slice a3 o.text.length c3)) := by
  obtain ⟨hk, hn, ht, hnd⟩ := h
  have hA0 := (Below.refl w.heap.size w).alloc (Nat.le_refl _) (.cells #[.int .i64 o.kind, .int .i64 o.atN, .int .i64 o.atR, .int .i64 o.nodeN, .int .i64 o.nodeR, .int .i64 o.parN, .int .i64 o.parR, .slice a1 o.key.length c1, .int .i64 o.elem, .slice a2 o.name.length c2, .slice a3 o.text.length c3, .bool o.gone] 27)
  have l0 := Loc.made w #[.int .i64 o.kind, .int .i64 o.atN, .int .i64 o.atR, .int .i64 o.nodeN, .int .i64 o.nodeR, .int .i64 o.parN, .int .i64 o.parR, .slice a1 o.key.length c1, .int .i64 o.elem, .slice a2 o.name.length c2, .slice a3 o.text.length c3, .bool o.gone] 27
  unfold opVal
  go_enter Try.func19, Try.ntmps19
  go_wp2_with fail
  have nd := List.nodup_append.1 hnd
  have ndk : ∀ g ∈ FB (.slice a1 o.key.length c1), g ∉ FB (.slice a2 o.name.length c2) ∧ g ∉ FB (.slice a3 o.text.length c3) := fun g hg => ⟨fun h => (List.nodup_append.1 nd.1).2.2 g hg g h rfl, fun h => nd.2.2 g (List.mem_append_left _ hg) g h rfl⟩
  have ndn : ∀ g ∈ FB (.slice a2 o.name.length c2), g ∉ FB (.slice a3 o.text.length c3) := fun g hg h => nd.2.2 g (List.mem_append_right _ hg) g h rfl
  have bk := hk.rng
  have bn := hn.rng
  have bt := ht.rng
  have fo : ∀ (v : Value) (g : Nat), v.ownBlock = some g → g ∈ FB v := fun v g h => by simp [FB, h]
  have fl : ∀ (v : Value), v.ownBlock.toList = FB v := fun v => rfl
  have hk0 := hk.keep hA0
  have hn0 := hn.keep hA0
  have ht0 := ht.keep hA0
  clear hk hn ht hnd nd
  generalize (w.alloc (.cells #[.int .i64 o.kind, .int .i64 o.atN, .int .i64 o.atR, .int .i64 o.nodeN, .int .i64 o.nodeR, .int .i64 o.parN, .int .i64 o.parR, .slice a1 o.key.length c1, .int .i64 o.elem, .slice a2 o.name.length c2, .slice a3 o.text.length c3, .bool o.gone] 27)) = w0 at *
  refine (markZ_any w0 base _ o.key z hk0 (by omega) h0 (by omega)).mono ?_
  rintro e w1 ⟨rfl, hk1, hG1⟩
  have f1 := Frm.ofGrown hG1
  rw [fl] at f1
  have l1 := l0.grown hG1 (fun e => by have := bk _ (fo _ _ e); omega)
  have hn1 := hn0.frm f1 (fun g hg h => (ndk g h).1 hg)
  have ht1 := ht0.frm f1 (fun g hg h => (ndk g h).2 hg)
  clear hG1 hn0 ht0 hk0 l0
  obtain ⟨x0, x1, x2, x3, x4, x5, x6, x7, x8, x9, x10, x11⟩ := l1.twelve
  go_wp2_with fail
  clear x0 x1 x2 x3 x4 x5 x6 x7 x8 x9 x10 x11
  refine (markB_any w1 base _ o.name (z + (o.key.length : Int)) hn1 (by omega) (by omega) (by omega)).mono ?_
  rintro e w2 ⟨rfl, hn2, hG2⟩
  have f2 := Frm.ofGrown hG2
  rw [fl] at f2
  have l2 := l1.grown hG2 (fun e => by have := bn _ (fo _ _ e); omega)
  have hk2 := hk1.frm f2 (fun g hg h => (ndk g hg).1 h)
  have ht2 := ht1.frm f2 (fun g hg h => ndn g h hg)
  clear hG2 hn1 ht1 hk1 l1
  obtain ⟨x0, x1, x2, x3, x4, x5, x6, x7, x8, x9, x10, x11⟩ := l2.twelve
  go_wp2_with fail
  clear x0 x1 x2 x3 x4 x5 x6 x7 x8 x9 x10 x11
  refine (markB_any w2 base _ o.text (z + (o.key.length : Int) + (o.name.length : Int)) ht2 (by omega) (by omega) (by omega)).mono ?_
  rintro e w3 ⟨rfl, ht3, hG3⟩
  have f3 := Frm.ofGrown hG3
  rw [fl] at f3
  have hk3 := hk2.frm f3 (fun g hg h => (ndk g hg).2 h)
  have hn3 := hn2.frm f3 (fun g hg h => ndn g hg h)
  have f := (((Frm.ofBelow hA0 []).app f1).app f2).app f3
  clear f1 f2 f3 hG3 ht2 hk2 hn2 l2
  go_wp2_with fail
  go_ret
  exact ⟨rfl, ⟨hk3, hn3, ht3⟩, by simpa using f⟩

set_option maxHeartbeats 6400000 in
theorem heldOp_any (w : World) (o : OpV) (a1 a2 a3 : Option Addr) (c1 c2 c3 : Nat) (z : Int)
    (hk : Ints w (.slice a1 o.key.length c1) (markz z o.key.length)) (hn : Byt w (.slice a2 o.name.length c2) (marks (z + o.key.length) o.name.length)) (ht : Byt w (.slice a3 o.text.length c3) (marks (z + o.key.length + o.name.length) o.text.length))
    (hs : o.key.length + o.name.length + o.text.length ≤ 2097152) (h0 : 0 ≤ z) (h1 : z ≤ 1000000) :
    Calls Try.prog 20 #[opVal o (.slice a1 o.key.length c1) (.slice a2 o.name.length c2) (.slice a3 o.text.length c3), .int .i64 z] w fun e w' => e = .returned (.int .i64 (z + (o.key.length : Int) + (o.name.length : Int) + (o.text.length : Int))) ∧ Below w.heap.size w w' := by
  have hA0 := (Below.refl w.heap.size w).alloc (Nat.le_refl _) (.cells #[.int .i64 o.kind, .int .i64 o.atN, .int .i64 o.atR, .int .i64 o.nodeN, .int .i64 o.nodeR, .int .i64 o.parN, .int .i64 o.parR, .slice a1 o.key.length c1, .int .i64 o.elem, .slice a2 o.name.length c2, .slice a3 o.text.length c3, .bool o.gone] 27)
  have HA := hide hA0
  have H1 := hide (heldZ_any _ _ o.key.length z (hk.keep hA0) (by omega) h0 (by omega))
  have H2 := hide (heldB_any _ _ o.name.length (z + o.key.length) (hn.keep hA0) (by omega) (by omega) (by omega))
  have H3 := hide (heldB_any _ _ o.text.length (z + o.key.length + o.name.length) (ht.keep hA0) (by omega) (by omega) (by omega))
  have q1 : ¬ z + (o.key.length : Int) < 0 := by omega
  have q2 : ¬ z + (o.key.length : Int) + (o.name.length : Int) < 0 := by omega
  have q3 : ¬ z + (o.key.length : Int) + (o.name.length : Int) + (o.text.length : Int) < 0 := by omega
  clear hk hn ht hA0
  unfold opVal
  go_enter Try.func20, Try.ntmps20
  go_wp2_with fail
  refine (unhide H1).mono ?_
  rintro e w1 ⟨rfl, rfl⟩
  go_wp2_with fail
  refine (unhide H2).mono ?_
  rintro e w1 ⟨rfl, rfl⟩
  go_wp2_with fail
  refine (unhide H3).mono ?_
  rintro e w1 ⟨rfl, rfl⟩
  go_wp2_with fail
  go_ret
  exact ⟨rfl, unhide HA⟩
end Go.Proofs.Ytcabolcfoijglaa

/- Owned rows lie apart. -/
namespace Go.Proofs.Ytcabolcfoijglaa
open Go.RowKit
set_option linter.unusedVariables false

/-- Two owned rows of which one was made behind the other lie in different blocks. -/
theorem own_apart {w w' : World} {b b' : Nat} {v v' : Value} {l l' : List Int} (h : Own w b v l) (h' : Own w' b' v' l') (hs : w.heap.size ≤ b') : v.ownBlock = none ∨ v.ownBlock ≠ v'.ownBlock := by
  cases hv : v.ownBlock with
  | none => exact .inl rfl
  | some g =>
    right
    intro e
    have h1 := h.lt g hv
    have h2 := h'.lt g e.symm
    omega
theorem own_apart' {w w' : World} {b b' : Nat} {v v' : Value} {l l' : List Int} (h : Own w b v l) (h' : Own w' b' v' l') (hs : w.heap.size ≤ b') : v'.ownBlock = none ∨ v'.ownBlock ≠ v.ownBlock := by
  cases hv : v'.ownBlock with
  | none => exact .inl rfl
  | some g =>
    right
    intro e
    have h1 := h.lt g e.symm
    have h2 := h'.lt g hv
    omega
end Go.Proofs.Ytcabolcfoijglaa
