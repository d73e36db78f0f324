/- impl.OpBytes tells the bytes of an operation that may be. -/
import Derived.Test.YtjannojebngoeabPutOI
import Derived.Test.YtjannojebngoeabOpI
import Derived.Test.YtjannojebngoeabBytS
namespace Go.Proofs.Ytjannojebngoeab
open Go.RowKit
set_option linter.unusedVariables false
set_option maxRecDepth 100000

theorem ints_at1 {W : World} {g : Nat} {n : Int} (h : W.cell? ⟨g, 0, none⟩ = some (.int .i64 n)) (hn : inR n) : Ints W (.slice (some ⟨g, 0, none⟩) 1 1) [n] := by
  refine ⟨okZ_in hn, by simp [maxLen], .inr (.inr ⟨g, 0, 1, rfl, by simp, by simp [maxLen], by simp, lt_of_cell h, fun i hi => ?_⟩)⟩
  have : i = 0 := by simpa using hi
  subst this
  exact h
theorem putNum_at (w : World) (base : Nat) (v : Value) (l : List Int) (n : Int) (g : Nat) (h : Own w base v l) (hb : base ≤ w.heap.size) (hn : inR n) (c0 : w.cell? ⟨g, 0, none⟩ = some (.int .i64 n)) (hl : l.length ≤ 20000000) :
    Calls Try.prog 26 #[v, .slice (some ⟨g, 0, none⟩) 1 1] w fun e w' => ∃ a c, e = .returned (.slice a (putAll l n).length c) ∧ Own w' base (.slice a (putAll l n).length c) (putAll l n) ∧ Below w.heap.size w w' :=
  putNums_any w base v _ l [n] h hb (ints_at1 c0 hn) hl (by simp)
theorem putId_at (w : World) (base : Nat) (v : Value) (l : List Int) (n r : Int) (g : Nat) (h : Own w base v l) (hb : base ≤ w.heap.size) (hn : inR n) (hr : inR r) (c0 : w.cell? ⟨g, 0, none⟩ = some (.int .i64 n)) (c1 : w.cell? ⟨g, 1, none⟩ = some (.int .i64 r)) (hl : l.length ≤ 10000000) :
    Calls Try.prog 25 #[v, .slice (some ⟨g, 0, none⟩) 1 1] w fun e w' => ∃ a c, e = .returned (.slice a (putId l n r).length c) ∧ Own w' base (.slice a (putId l n r).length c) (putId l n r) ∧ Below w.heap.size w w' :=
  putIds_any w base v l [(n, r)] g 0 1 h hb hl (by simp) (lt_of_cell c0) (fun x hx => by simp at hx; subst hx; exact okZ_in2 hn hr)
    (fun j hj => by have : j = 0 := by simpa using hj
                    subst this; exact c0)
    (fun j hj => by have : j = 0 := by simpa using hj
                    subst this; exact c1)
theorem putId_at2 (w : World) (base : Nat) (v : Value) (l : List Int) (n r n' r' : Int) (g : Nat) (h : Own w base v l) (hb : base ≤ w.heap.size) (hn : inR n) (hr : inR r) (hn' : inR n') (hr' : inR r') (c0 : w.cell? ⟨g, 0, none⟩ = some (.int .i64 n)) (c1 : w.cell? ⟨g, 1, none⟩ = some (.int .i64 r)) (c2 : w.cell? ⟨g, 2, none⟩ = some (.int .i64 n')) (c3 : w.cell? ⟨g, 3, none⟩ = some (.int .i64 r')) (hl : l.length ≤ 10000000) :
    Calls Try.prog 25 #[v, .slice (some ⟨g, 0, none⟩) 2 2] w fun e w' => ∃ a c, e = .returned (.slice a (putId (putId l n r) n' r').length c) ∧ Own w' base (.slice a (putId (putId l n r) n' r').length c) (putId (putId l n r) n' r') ∧ Below w.heap.size w w' :=
  putIds_any w base v l [(n, r), (n', r')] g 0 2 h hb hl (by simp) (lt_of_cell c0) (fun x hx => by
      simp at hx
      rcases hx with rfl | rfl
      · exact okZ_in2 hn hr
      · exact okZ_in2 hn' hr')
    (fun j hj => by have : j = 0 ∨ j = 1 := by simp at hj; omega
                    rcases this with rfl | rfl
                    · exact c0
                    · exact c2)
    (fun j hj => by have : j = 0 ∨ j = 1 := by simp at hj; omega
                    rcases this with rfl | rfl
                    · exact c1
                    · exact c3)
theorem putId_len2 (l : List Int) (n r n' r' : Int) : (putId (putId l n r) n' r').length ≤ l.length + 20 := by
  have := putId_len (putId l n r) n' r'
  have := putId_len l n r
  omega
theorem putVal_len (l t : List Int) (g : Bool) : (putVal l t g).length ≤ l.length + 50 := by
  unfold putVal
  split
  · have := putAll_len l 1; omega
  · have := putT_len (putAll l 0) t
    have := putAll_len l 0
    omega

set_option maxHeartbeats 12800000 in
theorem bytesI_0 (w : World) (o : OpV) (a1 a2 a3 : Option Addr) (c1 c2 c3 : Nat) (hk : Ints w (.slice a1 o.key.length c1) o.key) (hn : Byt w (.slice a2 o.name.length c2) o.name) (ht : Byt w (.slice a3 o.text.length c3) o.text) (hs : o.key.length ≤ 2097152) (hb : opB o = true) (F1 : inR o.atN) (F2 : inR o.atR) (F5 : inR o.parN) (F6 : inR o.parR) (F8 : inR o.elem) (k0 : o.kind = 0) :
    Calls Try.prog 8 #[opVal o (.slice a1 o.key.length c1) (.slice a2 o.name.length c2) (.slice a3 o.text.length c3)] w fun e w' => ∃ a c, e = .returned (.tuple #[.slice a (opBytes o).length c, .bool true]) ∧ Own w' w.heap.size (.slice a (opBytes o).length c) (opBytes o) ∧ Below w.heap.size w w' := by
  have HK := hide hk
  have HM := hide hn
  have HX := hide ht
  clear hk hn ht
  have Ln : ([] : List Int).length = 0 := rfl
  have HO := hide (fun (W : World) (hW : Below w.heap.size w W) => opI_any W _ o ⟨_, _, _, rfl, (unhide HK).keep hW, (unhide HM).keep hW, (unhide HX).keep hW⟩)
  rw [hb] at HO
  clear hb
  unfold opVal at HO
  rw [k0] at HO
  obtain ⟨r1, e1⟩ : ∃ r, r = putAll ([] : List Int) 0 := ⟨_, rfl⟩
  have L1 := putAll_len ([] : List Int) 0
  have H1 := hide (fun (W : World) (hW : Below w.heap.size w W) (v : Value) (h : Own W w.heap.size v ([] : List Int)) (g : Nat) (c0 : W.cell? ⟨g, 0, none⟩ = some (.int .i64 (0))) => putNum_at W w.heap.size v ([] : List Int) 0 g h hW.size ⟨by decide, by decide⟩ c0 (by omega))
  rw [← e1] at L1 H1
  obtain ⟨r2, e2⟩ : ∃ r, r = putId r1 o.atN o.atR := ⟨_, rfl⟩
  have L2 := putId_len r1 o.atN o.atR
  have H2 := hide (fun (W : World) (hW : Below w.heap.size w W) (v : Value) (h : Own W w.heap.size v r1) (g : Nat) (c0 : W.cell? ⟨g, 0, none⟩ = some (.int .i64 o.atN)) (c1 : W.cell? ⟨g, 1, none⟩ = some (.int .i64 o.atR)) => putId_at W w.heap.size v r1 o.atN o.atR g h hW.size F1 F2 c0 c1 (by omega))
  rw [← e2] at L2 H2
  obtain ⟨r3, e3⟩ : ∃ r, r = putId r2 o.parN o.parR := ⟨_, rfl⟩
  have L3 := putId_len r2 o.parN o.parR
  have H3 := hide (fun (W : World) (hW : Below w.heap.size w W) (v : Value) (h : Own W w.heap.size v r2) (g : Nat) (c0 : W.cell? ⟨g, 0, none⟩ = some (.int .i64 o.parN)) (c1 : W.cell? ⟨g, 1, none⟩ = some (.int .i64 o.parR)) => putId_at W w.heap.size v r2 o.parN o.parR g h hW.size F5 F6 c0 c1 (by omega))
  rw [← e3] at L3 H3
  obtain ⟨r4, e4⟩ : ∃ r, r = putKey r3 o.key := ⟨_, rfl⟩
  have L4 := putKey_len r3 o.key
  have H4 := hide (fun (W : World) (hW : Below w.heap.size w W) (v : Value) (h : Own W w.heap.size v r3) => putKey_any W w.heap.size v _ r3 o.key h hW.size ((unhide HK).keep hW) (by omega) (by omega))
  rw [← e4] at L4 H4
  obtain ⟨r5, e5⟩ : ∃ r, r = putAll r4 o.elem := ⟨_, rfl⟩
  have L5 := putAll_len r4 o.elem
  have H5 := hide (fun (W : World) (hW : Below w.heap.size w W) (v : Value) (h : Own W w.heap.size v r4) (g : Nat) (c0 : W.cell? ⟨g, 0, none⟩ = some (.int .i64 (o.elem))) => putNum_at W w.heap.size v r4 o.elem g h hW.size F8 c0 (by omega))
  rw [← e5] at L5 H5
  obtain ⟨r6, e6⟩ : ∃ r, r = putT r5 o.name := ⟨_, rfl⟩
  have L6 := putT_len r5 o.name
  have H6 := hide (fun (W : World) (hW : Below w.heap.size w W) (v : Value) (h : Own W w.heap.size v r5) => rw_base (putTI_own W v _ r5 o.name h.byt ((unhide HM).keep hW) (by omega)) hW.size)
  rw [← e6] at L6 H6
  obtain ⟨r7, e7⟩ : ∃ r, r = putT r6 o.text := ⟨_, rfl⟩
  have L7 := putT_len r6 o.text
  have H7 := hide (fun (W : World) (hW : Below w.heap.size w W) (v : Value) (h : Own W w.heap.size v r6) => rw_base (putTI_own W v _ r6 o.text h.byt ((unhide HX).keep hW) (by omega)) hW.size)
  rw [← e7] at L7 H7
  have HE := hide (show opBytes o = r7 by unfold opBytes opHd; rw [k0, if_pos rfl]; rw [e7, e6, e5, e4, e3, e2, e1])
  clear e7 L7 e6 L6 e5 L5 e4 L4 e3 L3 e2 L2 e1 L1
  have hA0 : Below w.heap.size w (w.alloc (.cells #[.int .i64 0, .int .i64 o.atN, .int .i64 o.atR, .int .i64 o.nodeN, .int .i64 o.nodeR, .int .i64 o.parN, .int .i64 o.parR, .slice a1 o.key.length c1, .int .i64 o.elem, .slice a2 o.name.length c2, .slice a3 o.text.length c3, .bool o.gone] 33)) := (Below.refl w.heap.size w).alloc (Nat.le_refl _) _
  have l0 := Loc.made w #[.int .i64 0, .int .i64 o.atN, .int .i64 o.atR, .int .i64 o.nodeN, .int .i64 o.nodeR, .int .i64 o.parN, .int .i64 o.parR, .slice a1 o.key.length c1, .int .i64 o.elem, .slice a2 o.name.length c2, .slice a3 o.text.length c3, .bool o.gone] 33
  rw [unhide HE]
  clear HE
  unfold opVal
  rw [k0]
  go_enter Try.func8, Try.ntmps8
  go_wp2_with fail
  generalize (w.alloc (.cells #[.int .i64 0, .int .i64 o.atN, .int .i64 o.atR, .int .i64 o.nodeN, .int .i64 o.nodeR, .int .i64 o.parN, .int .i64 o.parR, .slice a1 o.key.length c1, .int .i64 o.elem, .slice a2 o.name.length c2, .slice a3 o.text.length c3, .bool o.gone] 33)) = w0 at *
  refine (unhide HO w0 hA0).mono ?_
  clear HO
  rintro e w1 ⟨rfl, hB0⟩
  have hA1 := bstep hA0 hB0
  have l1 := l0.all hB0
  clear hA0 l0 hB0
  obtain ⟨x0, x1, x2, x3, x4, x5, x6, x7, x8, x9, x10, x11⟩ := l1.twelve
  go_wp2_with fail
  clear x0 x1 x2 x3 x4 x5 x6 x7 x8 x9 x10 x11
  obtain ⟨x0, x1, x2, x3, x4, x5, x6, x7, x8, x9, x10, x11⟩ := l1.twelve
  go_region_held3 (fun w' => w'.cell? ⟨w.heap.size, 0, none⟩ = some (.int .i64 0) ∧ w'.cell? ⟨w.heap.size, 1, none⟩ = some (.int .i64 o.atN) ∧ w'.cell? ⟨w.heap.size, 2, none⟩ = some (.int .i64 o.atR))
    (first | exact ⟨by assumption, by assumption, by assumption⟩ | go_keep)
    (first
      | (go_at_call 26; refine (unhide H1 _ (by repeat (first | exact hA1 | exact Below.refl _ _ | refine balloc2 ?_ | refine Below.drew ?_)) _ (own_nil2 _ _) _ (by first | (simp; done))).mono ?_; clear H1; rintro e w11 ⟨b1, d1, rfl, ho1, hB1⟩; have hA11 := bstep (a := w) (by repeat (first | exact hA1 | exact Below.refl _ _ | refine balloc2 ?_ | refine Below.drew ?_)) hB1; have hD11 := bstep (a := w1) (by repeat (first | exact Below.refl _ _ | exact Below.refl _ _ | refine balloc2 ?_ | refine Below.drew ?_)) hB1; have hY1 := fun p v h => cell_later hB1 (p := p) (v := v) h; obtain ⟨x0, x1, x2, x3, x4, x5, x6, x7, x8, x9, x10, x11⟩ := (l1.all hD11).twelve)
      | (go_at_call 25; refine (unhide H2 _ (by repeat (first | exact hA11 | exact Below.refl _ _ | refine balloc2 ?_ | refine Below.drew ?_)) _ (ho1.keep (by repeat (first | exact Below.refl _ _ | exact Below.refl _ _ | refine balloc2 ?_ | refine Below.drew ?_))) _ (by first | (simp; done) | exact (hY1 _ _ (by simp))) (by first | (simp; done) | exact (hY1 _ _ (by simp)))).mono ?_; clear H2; rintro e w12 ⟨b2, d2, rfl, ho2, hB2⟩; have hA12 := bstep (a := w) (by repeat (first | exact hA11 | exact Below.refl _ _ | refine balloc2 ?_ | refine Below.drew ?_)) hB2; have hD12 := bstep (a := w1) (by repeat (first | exact hD11 | exact Below.refl _ _ | refine balloc2 ?_ | refine Below.drew ?_)) hB2; have hY2 := fun p v h => cell_later hB2 (p := p) (v := v) h; obtain ⟨x0, x1, x2, x3, x4, x5, x6, x7, x8, x9, x10, x11⟩ := (l1.all hD12).twelve))
  all_goals
    have l12 := l1.all hD12
    clear x0 x1 x2 x3 x4 x5 x6 x7 x8 x9 x10 x11 hY1 hB1 hD11 hY2 hB2 hD12 ho1 hA11
    obtain ⟨x0, x1, x2, x3, x4, x5, x6, x7, x8, x9, x10, x11⟩ := l12.twelve
    go_wp2_with fail
    clear x0 x1 x2 x3 x4 x5 x6 x7 x8 x9 x10 x11
    obtain ⟨x0, x1, x2, x3, x4, x5, x6, x7, x8, x9, x10, x11⟩ := l12.twelve
    go_region_held3 (fun w' => w'.cell? ⟨w.heap.size, 5, none⟩ = some (.int .i64 o.parN) ∧ w'.cell? ⟨w.heap.size, 6, none⟩ = some (.int .i64 o.parR) ∧ w'.cell? ⟨w.heap.size, 7, none⟩ = some (.slice a1 o.key.length c1) ∧ w'.cell? ⟨w.heap.size, 8, none⟩ = some (.int .i64 o.elem))
      (first | exact ⟨by assumption, by assumption, by assumption, by assumption⟩ | go_keep)
      (first
        | (go_at_call 25; refine (unhide H3 _ (by repeat (first | exact hA12 | exact Below.refl _ _ | refine balloc2 ?_ | refine Below.drew ?_)) _ (ho2.keep (by repeat (first | exact Below.refl _ _ | exact Below.refl _ _ | refine balloc2 ?_ | refine Below.drew ?_))) _ (by first | (simp; done)) (by first | (simp; done))).mono ?_; clear H3; rintro e w13 ⟨b3, d3, rfl, ho3, hB3⟩; have hA13 := bstep (a := w) (by repeat (first | exact hA12 | exact Below.refl _ _ | refine balloc2 ?_ | refine Below.drew ?_)) hB3; have hD13 := bstep (a := w12) (by repeat (first | exact Below.refl _ _ | exact Below.refl _ _ | refine balloc2 ?_ | refine Below.drew ?_)) hB3; have hY3 := fun p v h => cell_later hB3 (p := p) (v := v) h; obtain ⟨x0, x1, x2, x3, x4, x5, x6, x7, x8, x9, x10, x11⟩ := (l12.all hD13).twelve)
        | (go_at_call 27; refine (unhide H4 _ (by repeat (first | exact hA13 | exact Below.refl _ _ | refine balloc2 ?_ | refine Below.drew ?_)) _ (ho3.keep (by repeat (first | exact Below.refl _ _ | exact Below.refl _ _ | refine balloc2 ?_ | refine Below.drew ?_)))).mono ?_; clear H4; rintro e w14 ⟨b4, d4, rfl, ho4, hB4⟩; have hA14 := bstep (a := w) (by repeat (first | exact hA13 | exact Below.refl _ _ | refine balloc2 ?_ | refine Below.drew ?_)) hB4; have hD14 := bstep (a := w12) (by repeat (first | exact hD13 | exact Below.refl _ _ | refine balloc2 ?_ | refine Below.drew ?_)) hB4; have hY4 := fun p v h => cell_later hB4 (p := p) (v := v) h; obtain ⟨x0, x1, x2, x3, x4, x5, x6, x7, x8, x9, x10, x11⟩ := (l12.all hD14).twelve)
        | (go_at_call 26; refine (unhide H5 _ (by repeat (first | exact hA14 | exact Below.refl _ _ | refine balloc2 ?_ | refine Below.drew ?_)) _ (ho4.keep (by repeat (first | exact Below.refl _ _ | exact Below.refl _ _ | refine balloc2 ?_ | refine Below.drew ?_))) _ (by first | (simp; done) | exact (hY4 _ _ (by simp)) | exact (hY4 _ _ (hY3 _ _ (by simp))))).mono ?_; clear H5; rintro e w15 ⟨b5, d5, rfl, ho5, hB5⟩; have hA15 := bstep (a := w) (by repeat (first | exact hA14 | exact Below.refl _ _ | refine balloc2 ?_ | refine Below.drew ?_)) hB5; have hD15 := bstep (a := w12) (by repeat (first | exact hD14 | exact Below.refl _ _ | refine balloc2 ?_ | refine Below.drew ?_)) hB5; have hY5 := fun p v h => cell_later hB5 (p := p) (v := v) h; obtain ⟨x0, x1, x2, x3, x4, x5, x6, x7, x8, x9, x10, x11⟩ := (l12.all hD15).twelve))
    all_goals
      have l15 := l12.all hD15
      clear x0 x1 x2 x3 x4 x5 x6 x7 x8 x9 x10 x11 hY3 hB3 hD13 hY4 hB4 hD14 hY5 hB5 hD15 ho3 ho4 hA13 hA14
      obtain ⟨x0, x1, x2, x3, x4, x5, x6, x7, x8, x9, x10, x11⟩ := l15.twelve
      go_wp2_with fail
      clear x0 x1 x2 x3 x4 x5 x6 x7 x8 x9 x10 x11
      obtain ⟨x0, x1, x2, x3, x4, x5, x6, x7, x8, x9, x10, x11⟩ := l15.twelve
      go_region_held3 (fun w' => w'.cell? ⟨w.heap.size, 9, none⟩ = some (.slice a2 o.name.length c2) ∧ w'.cell? ⟨w.heap.size, 10, none⟩ = some (.slice a3 o.text.length c3))
        (first | exact ⟨by assumption, by assumption⟩ | go_keep)
        (first
          | (go_at_call 28; refine (unhide H6 _ (by repeat (first | exact hA15 | exact Below.refl _ _ | refine balloc2 ?_ | refine Below.drew ?_)) _ (ho5.keep (by repeat (first | exact Below.refl _ _ | exact Below.refl _ _ | refine balloc2 ?_ | refine Below.drew ?_)))).mono ?_; clear H6; rintro e w16 ⟨b6, d6, rfl, ho6, hB6⟩; have hA16 := bstep (a := w) (by repeat (first | exact hA15 | exact Below.refl _ _ | refine balloc2 ?_ | refine Below.drew ?_)) hB6; have hD16 := bstep (a := w15) (by repeat (first | exact Below.refl _ _ | exact Below.refl _ _ | refine balloc2 ?_ | refine Below.drew ?_)) hB6; have hY6 := fun p v h => cell_later hB6 (p := p) (v := v) h; obtain ⟨x0, x1, x2, x3, x4, x5, x6, x7, x8, x9, x10, x11⟩ := (l15.all hD16).twelve)
          | (go_at_call 28; refine (unhide H7 _ (by repeat (first | exact hA16 | exact Below.refl _ _ | refine balloc2 ?_ | refine Below.drew ?_)) _ (ho6.keep (by repeat (first | exact Below.refl _ _ | exact Below.refl _ _ | refine balloc2 ?_ | refine Below.drew ?_)))).mono ?_; clear H7; rintro e w17 ⟨b7, d7, rfl, ho7, hB7⟩; have hA17 := bstep (a := w) (by repeat (first | exact hA16 | exact Below.refl _ _ | refine balloc2 ?_ | refine Below.drew ?_)) hB7; have hD17 := bstep (a := w15) (by repeat (first | exact hD16 | exact Below.refl _ _ | refine balloc2 ?_ | refine Below.drew ?_)) hB7; have hY7 := fun p v h => cell_later hB7 (p := p) (v := v) h; obtain ⟨x0, x1, x2, x3, x4, x5, x6, x7, x8, x9, x10, x11⟩ := (l15.all hD17).twelve))
      all_goals
        have l17 := l15.all hD17
        clear x0 x1 x2 x3 x4 x5 x6 x7 x8 x9 x10 x11 hY6 hB6 hD16 hY7 hB7 hD17 ho6 hA16
        obtain ⟨x0, x1, x2, x3, x4, x5, x6, x7, x8, x9, x10, x11⟩ := l17.twelve
        go_wp2_with fail
        clear x0 x1 x2 x3 x4 x5 x6 x7 x8 x9 x10 x11
        go_ret2
        exact ⟨b7, d7, rfl, ho7, hA17⟩

set_option maxHeartbeats 12800000 in
theorem bytesI_1 (w : World) (o : OpV) (a1 a2 a3 : Option Addr) (c1 c2 c3 : Nat) (hk : Ints w (.slice a1 o.key.length c1) o.key) (hn : Byt w (.slice a2 o.name.length c2) o.name) (ht : Byt w (.slice a3 o.text.length c3) o.text) (hs : o.key.length ≤ 2097152) (hb : opB o = true) (F1 : inR o.atN) (F2 : inR o.atR) (F3 : inR o.nodeN) (F4 : inR o.nodeR) (F5 : inR o.parN) (F6 : inR o.parR) (k0 : o.kind = 1) :
    Calls Try.prog 8 #[opVal o (.slice a1 o.key.length c1) (.slice a2 o.name.length c2) (.slice a3 o.text.length c3)] w fun e w' => ∃ a c, e = .returned (.tuple #[.slice a (opBytes o).length c, .bool true]) ∧ Own w' w.heap.size (.slice a (opBytes o).length c) (opBytes o) ∧ Below w.heap.size w w' := by
  have HK := hide hk
  have HM := hide hn
  have HX := hide ht
  clear hk hn ht
  have Ln : ([] : List Int).length = 0 := rfl
  have HO := hide (fun (W : World) (hW : Below w.heap.size w W) => opI_any W _ o ⟨_, _, _, rfl, (unhide HK).keep hW, (unhide HM).keep hW, (unhide HX).keep hW⟩)
  rw [hb] at HO
  clear hb
  unfold opVal at HO
  rw [k0] at HO
  obtain ⟨r1, e1⟩ : ∃ r, r = putAll ([] : List Int) 1 := ⟨_, rfl⟩
  have L1 := putAll_len ([] : List Int) 1
  have H1 := hide (fun (W : World) (hW : Below w.heap.size w W) (v : Value) (h : Own W w.heap.size v ([] : List Int)) (g : Nat) (c0 : W.cell? ⟨g, 0, none⟩ = some (.int .i64 (1))) => putNum_at W w.heap.size v ([] : List Int) 1 g h hW.size ⟨by decide, by decide⟩ c0 (by omega))
  rw [← e1] at L1 H1
  obtain ⟨r2, e2⟩ : ∃ r, r = putId r1 o.atN o.atR := ⟨_, rfl⟩
  have L2 := putId_len r1 o.atN o.atR
  have H2 := hide (fun (W : World) (hW : Below w.heap.size w W) (v : Value) (h : Own W w.heap.size v r1) (g : Nat) (c0 : W.cell? ⟨g, 0, none⟩ = some (.int .i64 o.atN)) (c1 : W.cell? ⟨g, 1, none⟩ = some (.int .i64 o.atR)) => putId_at W w.heap.size v r1 o.atN o.atR g h hW.size F1 F2 c0 c1 (by omega))
  rw [← e2] at L2 H2
  obtain ⟨r3, e3⟩ : ∃ r, r = putId (putId r2 o.nodeN o.nodeR) o.parN o.parR := ⟨_, rfl⟩
  have L3 := putId_len2 r2 o.nodeN o.nodeR o.parN o.parR
  have H3 := hide (fun (W : World) (hW : Below w.heap.size w W) (v : Value) (h : Own W w.heap.size v r2) (g : Nat) (c0 : W.cell? ⟨g, 0, none⟩ = some (.int .i64 o.nodeN)) (c1 : W.cell? ⟨g, 1, none⟩ = some (.int .i64 o.nodeR)) (c2 : W.cell? ⟨g, 2, none⟩ = some (.int .i64 o.parN)) (c3 : W.cell? ⟨g, 3, none⟩ = some (.int .i64 o.parR)) => putId_at2 W w.heap.size v r2 o.nodeN o.nodeR o.parN o.parR g h hW.size F3 F4 F5 F6 c0 c1 c2 c3 (by omega))
  rw [← e3] at L3 H3
  obtain ⟨r4, e4⟩ : ∃ r, r = putKey r3 o.key := ⟨_, rfl⟩
  have L4 := putKey_len r3 o.key
  have H4 := hide (fun (W : World) (hW : Below w.heap.size w W) (v : Value) (h : Own W w.heap.size v r3) => putKey_any W w.heap.size v _ r3 o.key h hW.size ((unhide HK).keep hW) (by omega) (by omega))
  rw [← e4] at L4 H4
  have HE := hide (show opBytes o = r4 by unfold opBytes opHd; rw [k0, if_neg (by decide), if_pos rfl]; rw [e4, e3, e2, e1])
  clear e4 L4 e3 L3 e2 L2 e1 L1
  have hA0 : Below w.heap.size w (w.alloc (.cells #[.int .i64 1, .int .i64 o.atN, .int .i64 o.atR, .int .i64 o.nodeN, .int .i64 o.nodeR, .int .i64 o.parN, .int .i64 o.parR, .slice a1 o.key.length c1, .int .i64 o.elem, .slice a2 o.name.length c2, .slice a3 o.text.length c3, .bool o.gone] 33)) := (Below.refl w.heap.size w).alloc (Nat.le_refl _) _
  have l0 := Loc.made w #[.int .i64 1, .int .i64 o.atN, .int .i64 o.atR, .int .i64 o.nodeN, .int .i64 o.nodeR, .int .i64 o.parN, .int .i64 o.parR, .slice a1 o.key.length c1, .int .i64 o.elem, .slice a2 o.name.length c2, .slice a3 o.text.length c3, .bool o.gone] 33
  rw [unhide HE]
  clear HE
  unfold opVal
  rw [k0]
  go_enter Try.func8, Try.ntmps8
  go_wp2_with fail
  generalize (w.alloc (.cells #[.int .i64 1, .int .i64 o.atN, .int .i64 o.atR, .int .i64 o.nodeN, .int .i64 o.nodeR, .int .i64 o.parN, .int .i64 o.parR, .slice a1 o.key.length c1, .int .i64 o.elem, .slice a2 o.name.length c2, .slice a3 o.text.length c3, .bool o.gone] 33)) = w0 at *
  refine (unhide HO w0 hA0).mono ?_
  clear HO
  rintro e w1 ⟨rfl, hB0⟩
  have hA1 := bstep hA0 hB0
  have l1 := l0.all hB0
  clear hA0 l0 hB0
  obtain ⟨x0, x1, x2, x3, x4, x5, x6, x7, x8, x9, x10, x11⟩ := l1.twelve
  go_wp2_with fail
  clear x0 x1 x2 x3 x4 x5 x6 x7 x8 x9 x10 x11
  obtain ⟨x0, x1, x2, x3, x4, x5, x6, x7, x8, x9, x10, x11⟩ := l1.twelve
  go_region_held3 (fun w' => w'.cell? ⟨w.heap.size, 0, none⟩ = some (.int .i64 1) ∧ w'.cell? ⟨w.heap.size, 1, none⟩ = some (.int .i64 o.atN) ∧ w'.cell? ⟨w.heap.size, 2, none⟩ = some (.int .i64 o.atR))
    (first | exact ⟨by assumption, by assumption, by assumption⟩ | go_keep)
    (first
      | (go_at_call 26; refine (unhide H1 _ (by repeat (first | exact hA1 | exact Below.refl _ _ | refine balloc2 ?_ | refine Below.drew ?_)) _ (own_nil2 _ _) _ (by first | (simp; done))).mono ?_; clear H1; rintro e w11 ⟨b1, d1, rfl, ho1, hB1⟩; have hA11 := bstep (a := w) (by repeat (first | exact hA1 | exact Below.refl _ _ | refine balloc2 ?_ | refine Below.drew ?_)) hB1; have hD11 := bstep (a := w1) (by repeat (first | exact Below.refl _ _ | exact Below.refl _ _ | refine balloc2 ?_ | refine Below.drew ?_)) hB1; have hY1 := fun p v h => cell_later hB1 (p := p) (v := v) h; obtain ⟨x0, x1, x2, x3, x4, x5, x6, x7, x8, x9, x10, x11⟩ := (l1.all hD11).twelve)
      | (go_at_call 25; refine (unhide H2 _ (by repeat (first | exact hA11 | exact Below.refl _ _ | refine balloc2 ?_ | refine Below.drew ?_)) _ (ho1.keep (by repeat (first | exact Below.refl _ _ | exact Below.refl _ _ | refine balloc2 ?_ | refine Below.drew ?_))) _ (by first | (simp; done) | exact (hY1 _ _ (by simp))) (by first | (simp; done) | exact (hY1 _ _ (by simp)))).mono ?_; clear H2; rintro e w12 ⟨b2, d2, rfl, ho2, hB2⟩; have hA12 := bstep (a := w) (by repeat (first | exact hA11 | exact Below.refl _ _ | refine balloc2 ?_ | refine Below.drew ?_)) hB2; have hD12 := bstep (a := w1) (by repeat (first | exact hD11 | exact Below.refl _ _ | refine balloc2 ?_ | refine Below.drew ?_)) hB2; have hY2 := fun p v h => cell_later hB2 (p := p) (v := v) h; obtain ⟨x0, x1, x2, x3, x4, x5, x6, x7, x8, x9, x10, x11⟩ := (l1.all hD12).twelve))
  all_goals
    have l12 := l1.all hD12
    clear x0 x1 x2 x3 x4 x5 x6 x7 x8 x9 x10 x11 hY1 hB1 hD11 hY2 hB2 hD12 ho1 hA11
    obtain ⟨x0, x1, x2, x3, x4, x5, x6, x7, x8, x9, x10, x11⟩ := l12.twelve
    go_wp2_with fail
    clear x0 x1 x2 x3 x4 x5 x6 x7 x8 x9 x10 x11
    obtain ⟨x0, x1, x2, x3, x4, x5, x6, x7, x8, x9, x10, x11⟩ := l12.twelve
    go_region_held3 (fun w' => w'.cell? ⟨w.heap.size, 3, none⟩ = some (.int .i64 o.nodeN) ∧ w'.cell? ⟨w.heap.size, 4, none⟩ = some (.int .i64 o.nodeR) ∧ w'.cell? ⟨w.heap.size, 5, none⟩ = some (.int .i64 o.parN) ∧ w'.cell? ⟨w.heap.size, 6, none⟩ = some (.int .i64 o.parR) ∧ w'.cell? ⟨w.heap.size, 7, none⟩ = some (.slice a1 o.key.length c1))
      (first | exact ⟨by assumption, by assumption, by assumption, by assumption, by assumption⟩ | go_keep)
      (first
        | (go_at_call 25; refine (unhide H3 _ (by repeat (first | exact hA12 | exact Below.refl _ _ | refine balloc2 ?_ | refine Below.drew ?_)) _ (ho2.keep (by repeat (first | exact Below.refl _ _ | exact Below.refl _ _ | refine balloc2 ?_ | refine Below.drew ?_))) _ (by first | (simp; done)) (by first | (simp; done)) (by first | (simp; done)) (by first | (simp; done))).mono ?_; clear H3; rintro e w13 ⟨b3, d3, rfl, ho3, hB3⟩; have hA13 := bstep (a := w) (by repeat (first | exact hA12 | exact Below.refl _ _ | refine balloc2 ?_ | refine Below.drew ?_)) hB3; have hD13 := bstep (a := w12) (by repeat (first | exact Below.refl _ _ | exact Below.refl _ _ | refine balloc2 ?_ | refine Below.drew ?_)) hB3; have hY3 := fun p v h => cell_later hB3 (p := p) (v := v) h; obtain ⟨x0, x1, x2, x3, x4, x5, x6, x7, x8, x9, x10, x11⟩ := (l12.all hD13).twelve)
        | (go_at_call 27; refine (unhide H4 _ (by repeat (first | exact hA13 | exact Below.refl _ _ | refine balloc2 ?_ | refine Below.drew ?_)) _ (ho3.keep (by repeat (first | exact Below.refl _ _ | exact Below.refl _ _ | refine balloc2 ?_ | refine Below.drew ?_)))).mono ?_; clear H4; rintro e w14 ⟨b4, d4, rfl, ho4, hB4⟩; have hA14 := bstep (a := w) (by repeat (first | exact hA13 | exact Below.refl _ _ | refine balloc2 ?_ | refine Below.drew ?_)) hB4; have hD14 := bstep (a := w12) (by repeat (first | exact hD13 | exact Below.refl _ _ | refine balloc2 ?_ | refine Below.drew ?_)) hB4; have hY4 := fun p v h => cell_later hB4 (p := p) (v := v) h; obtain ⟨x0, x1, x2, x3, x4, x5, x6, x7, x8, x9, x10, x11⟩ := (l12.all hD14).twelve))
    all_goals
      have l14 := l12.all hD14
      clear x0 x1 x2 x3 x4 x5 x6 x7 x8 x9 x10 x11 hY3 hB3 hD13 hY4 hB4 hD14 ho3 hA13
      obtain ⟨x0, x1, x2, x3, x4, x5, x6, x7, x8, x9, x10, x11⟩ := l14.twelve
      go_wp2_with fail
      clear x0 x1 x2 x3 x4 x5 x6 x7 x8 x9 x10 x11
      go_ret2
      exact ⟨b4, d4, rfl, ho4, hA14⟩

set_option maxHeartbeats 12800000 in
theorem bytesI_2 (w : World) (o : OpV) (a1 a2 a3 : Option Addr) (c1 c2 c3 : Nat) (hk : Ints w (.slice a1 o.key.length c1) o.key) (hn : Byt w (.slice a2 o.name.length c2) o.name) (ht : Byt w (.slice a3 o.text.length c3) o.text) (hs : o.key.length ≤ 2097152) (hb : opB o = true) (F1 : inR o.atN) (F2 : inR o.atR) (F3 : inR o.nodeN) (F4 : inR o.nodeR) (k0 : o.kind = 2) :
    Calls Try.prog 8 #[opVal o (.slice a1 o.key.length c1) (.slice a2 o.name.length c2) (.slice a3 o.text.length c3)] w fun e w' => ∃ a c, e = .returned (.tuple #[.slice a (opBytes o).length c, .bool true]) ∧ Own w' w.heap.size (.slice a (opBytes o).length c) (opBytes o) ∧ Below w.heap.size w w' := by
  have HK := hide hk
  have HM := hide hn
  have HX := hide ht
  clear hk hn ht
  have Ln : ([] : List Int).length = 0 := rfl
  have HO := hide (fun (W : World) (hW : Below w.heap.size w W) => opI_any W _ o ⟨_, _, _, rfl, (unhide HK).keep hW, (unhide HM).keep hW, (unhide HX).keep hW⟩)
  rw [hb] at HO
  clear hb
  unfold opVal at HO
  rw [k0] at HO
  obtain ⟨r1, e1⟩ : ∃ r, r = putAll ([] : List Int) 2 := ⟨_, rfl⟩
  have L1 := putAll_len ([] : List Int) 2
  have H1 := hide (fun (W : World) (hW : Below w.heap.size w W) (v : Value) (h : Own W w.heap.size v ([] : List Int)) (g : Nat) (c0 : W.cell? ⟨g, 0, none⟩ = some (.int .i64 (2))) => putNum_at W w.heap.size v ([] : List Int) 2 g h hW.size ⟨by decide, by decide⟩ c0 (by omega))
  rw [← e1] at L1 H1
  obtain ⟨r2, e2⟩ : ∃ r, r = putId r1 o.atN o.atR := ⟨_, rfl⟩
  have L2 := putId_len r1 o.atN o.atR
  have H2 := hide (fun (W : World) (hW : Below w.heap.size w W) (v : Value) (h : Own W w.heap.size v r1) (g : Nat) (c0 : W.cell? ⟨g, 0, none⟩ = some (.int .i64 o.atN)) (c1 : W.cell? ⟨g, 1, none⟩ = some (.int .i64 o.atR)) => putId_at W w.heap.size v r1 o.atN o.atR g h hW.size F1 F2 c0 c1 (by omega))
  rw [← e2] at L2 H2
  obtain ⟨r3, e3⟩ : ∃ r, r = putId r2 o.nodeN o.nodeR := ⟨_, rfl⟩
  have L3 := putId_len r2 o.nodeN o.nodeR
  have H3 := hide (fun (W : World) (hW : Below w.heap.size w W) (v : Value) (h : Own W w.heap.size v r2) (g : Nat) (c0 : W.cell? ⟨g, 0, none⟩ = some (.int .i64 o.nodeN)) (c1 : W.cell? ⟨g, 1, none⟩ = some (.int .i64 o.nodeR)) => putId_at W w.heap.size v r2 o.nodeN o.nodeR g h hW.size F3 F4 c0 c1 (by omega))
  rw [← e3] at L3 H3
  obtain ⟨r4, e4⟩ : ∃ r, r = putT r3 o.text := ⟨_, rfl⟩
  have L4 := putT_len r3 o.text
  have H4 := hide (fun (W : World) (hW : Below w.heap.size w W) (v : Value) (h : Own W w.heap.size v r3) => rw_base (putTI_own W v _ r3 o.text h.byt ((unhide HX).keep hW) (by omega)) hW.size)
  rw [← e4] at L4 H4
  have HE := hide (show opBytes o = r4 by unfold opBytes opHd; rw [k0, if_neg (by decide), if_neg (by decide), if_pos rfl]; rw [e4, e3, e2, e1])
  clear e4 L4 e3 L3 e2 L2 e1 L1
  have hA0 : Below w.heap.size w (w.alloc (.cells #[.int .i64 2, .int .i64 o.atN, .int .i64 o.atR, .int .i64 o.nodeN, .int .i64 o.nodeR, .int .i64 o.parN, .int .i64 o.parR, .slice a1 o.key.length c1, .int .i64 o.elem, .slice a2 o.name.length c2, .slice a3 o.text.length c3, .bool o.gone] 33)) := (Below.refl w.heap.size w).alloc (Nat.le_refl _) _
  have l0 := Loc.made w #[.int .i64 2, .int .i64 o.atN, .int .i64 o.atR, .int .i64 o.nodeN, .int .i64 o.nodeR, .int .i64 o.parN, .int .i64 o.parR, .slice a1 o.key.length c1, .int .i64 o.elem, .slice a2 o.name.length c2, .slice a3 o.text.length c3, .bool o.gone] 33
  rw [unhide HE]
  clear HE
  unfold opVal
  rw [k0]
  go_enter Try.func8, Try.ntmps8
  go_wp2_with fail
  generalize (w.alloc (.cells #[.int .i64 2, .int .i64 o.atN, .int .i64 o.atR, .int .i64 o.nodeN, .int .i64 o.nodeR, .int .i64 o.parN, .int .i64 o.parR, .slice a1 o.key.length c1, .int .i64 o.elem, .slice a2 o.name.length c2, .slice a3 o.text.length c3, .bool o.gone] 33)) = w0 at *
  refine (unhide HO w0 hA0).mono ?_
  clear HO
  rintro e w1 ⟨rfl, hB0⟩
  have hA1 := bstep hA0 hB0
  have l1 := l0.all hB0
  clear hA0 l0 hB0
  obtain ⟨x0, x1, x2, x3, x4, x5, x6, x7, x8, x9, x10, x11⟩ := l1.twelve
  go_wp2_with fail
  clear x0 x1 x2 x3 x4 x5 x6 x7 x8 x9 x10 x11
  obtain ⟨x0, x1, x2, x3, x4, x5, x6, x7, x8, x9, x10, x11⟩ := l1.twelve
  go_region_held3 (fun w' => w'.cell? ⟨w.heap.size, 0, none⟩ = some (.int .i64 2) ∧ w'.cell? ⟨w.heap.size, 1, none⟩ = some (.int .i64 o.atN) ∧ w'.cell? ⟨w.heap.size, 2, none⟩ = some (.int .i64 o.atR))
    (first | exact ⟨by assumption, by assumption, by assumption⟩ | go_keep)
    (first
      | (go_at_call 26; refine (unhide H1 _ (by repeat (first | exact hA1 | exact Below.refl _ _ | refine balloc2 ?_ | refine Below.drew ?_)) _ (own_nil2 _ _) _ (by first | (simp; done))).mono ?_; clear H1; rintro e w11 ⟨b1, d1, rfl, ho1, hB1⟩; have hA11 := bstep (a := w) (by repeat (first | exact hA1 | exact Below.refl _ _ | refine balloc2 ?_ | refine Below.drew ?_)) hB1; have hD11 := bstep (a := w1) (by repeat (first | exact Below.refl _ _ | exact Below.refl _ _ | refine balloc2 ?_ | refine Below.drew ?_)) hB1; have hY1 := fun p v h => cell_later hB1 (p := p) (v := v) h; obtain ⟨x0, x1, x2, x3, x4, x5, x6, x7, x8, x9, x10, x11⟩ := (l1.all hD11).twelve)
      | (go_at_call 25; refine (unhide H2 _ (by repeat (first | exact hA11 | exact Below.refl _ _ | refine balloc2 ?_ | refine Below.drew ?_)) _ (ho1.keep (by repeat (first | exact Below.refl _ _ | exact Below.refl _ _ | refine balloc2 ?_ | refine Below.drew ?_))) _ (by first | (simp; done) | exact (hY1 _ _ (by simp))) (by first | (simp; done) | exact (hY1 _ _ (by simp)))).mono ?_; clear H2; rintro e w12 ⟨b2, d2, rfl, ho2, hB2⟩; have hA12 := bstep (a := w) (by repeat (first | exact hA11 | exact Below.refl _ _ | refine balloc2 ?_ | refine Below.drew ?_)) hB2; have hD12 := bstep (a := w1) (by repeat (first | exact hD11 | exact Below.refl _ _ | refine balloc2 ?_ | refine Below.drew ?_)) hB2; have hY2 := fun p v h => cell_later hB2 (p := p) (v := v) h; obtain ⟨x0, x1, x2, x3, x4, x5, x6, x7, x8, x9, x10, x11⟩ := (l1.all hD12).twelve))
  all_goals
    have l12 := l1.all hD12
    clear x0 x1 x2 x3 x4 x5 x6 x7 x8 x9 x10 x11 hY1 hB1 hD11 hY2 hB2 hD12 ho1 hA11
    obtain ⟨x0, x1, x2, x3, x4, x5, x6, x7, x8, x9, x10, x11⟩ := l12.twelve
    go_wp2_with fail
    clear x0 x1 x2 x3 x4 x5 x6 x7 x8 x9 x10 x11
    obtain ⟨x0, x1, x2, x3, x4, x5, x6, x7, x8, x9, x10, x11⟩ := l12.twelve
    go_region_held3 (fun w' => w'.cell? ⟨w.heap.size, 3, none⟩ = some (.int .i64 o.nodeN) ∧ w'.cell? ⟨w.heap.size, 4, none⟩ = some (.int .i64 o.nodeR) ∧ w'.cell? ⟨w.heap.size, 10, none⟩ = some (.slice a3 o.text.length c3))
      (first | exact ⟨by assumption, by assumption, by assumption⟩ | go_keep)
      (first
        | (go_at_call 25; refine (unhide H3 _ (by repeat (first | exact hA12 | exact Below.refl _ _ | refine balloc2 ?_ | refine Below.drew ?_)) _ (ho2.keep (by repeat (first | exact Below.refl _ _ | exact Below.refl _ _ | refine balloc2 ?_ | refine Below.drew ?_))) _ (by first | (simp; done)) (by first | (simp; done))).mono ?_; clear H3; rintro e w13 ⟨b3, d3, rfl, ho3, hB3⟩; have hA13 := bstep (a := w) (by repeat (first | exact hA12 | exact Below.refl _ _ | refine balloc2 ?_ | refine Below.drew ?_)) hB3; have hD13 := bstep (a := w12) (by repeat (first | exact Below.refl _ _ | exact Below.refl _ _ | refine balloc2 ?_ | refine Below.drew ?_)) hB3; have hY3 := fun p v h => cell_later hB3 (p := p) (v := v) h; obtain ⟨x0, x1, x2, x3, x4, x5, x6, x7, x8, x9, x10, x11⟩ := (l12.all hD13).twelve)
        | (go_at_call 28; refine (unhide H4 _ (by repeat (first | exact hA13 | exact Below.refl _ _ | refine balloc2 ?_ | refine Below.drew ?_)) _ (ho3.keep (by repeat (first | exact Below.refl _ _ | exact Below.refl _ _ | refine balloc2 ?_ | refine Below.drew ?_)))).mono ?_; clear H4; rintro e w14 ⟨b4, d4, rfl, ho4, hB4⟩; have hA14 := bstep (a := w) (by repeat (first | exact hA13 | exact Below.refl _ _ | refine balloc2 ?_ | refine Below.drew ?_)) hB4; have hD14 := bstep (a := w12) (by repeat (first | exact hD13 | exact Below.refl _ _ | refine balloc2 ?_ | refine Below.drew ?_)) hB4; have hY4 := fun p v h => cell_later hB4 (p := p) (v := v) h; obtain ⟨x0, x1, x2, x3, x4, x5, x6, x7, x8, x9, x10, x11⟩ := (l12.all hD14).twelve))
    all_goals
      have l14 := l12.all hD14
      clear x0 x1 x2 x3 x4 x5 x6 x7 x8 x9 x10 x11 hY3 hB3 hD13 hY4 hB4 hD14 ho3 hA13
      obtain ⟨x0, x1, x2, x3, x4, x5, x6, x7, x8, x9, x10, x11⟩ := l14.twelve
      go_wp2_with fail
      clear x0 x1 x2 x3 x4 x5 x6 x7 x8 x9 x10 x11
      go_ret2
      exact ⟨b4, d4, rfl, ho4, hA14⟩

set_option maxHeartbeats 12800000 in
theorem bytesI_3 (w : World) (o : OpV) (a1 a2 a3 : Option Addr) (c1 c2 c3 : Nat) (hk : Ints w (.slice a1 o.key.length c1) o.key) (hn : Byt w (.slice a2 o.name.length c2) o.name) (ht : Byt w (.slice a3 o.text.length c3) o.text) (hs : o.key.length ≤ 2097152) (hb : opB o = true) (F1 : inR o.atN) (F2 : inR o.atR) (F3 : inR o.nodeN) (F4 : inR o.nodeR) (k0 : o.kind = 3) :
    Calls Try.prog 8 #[opVal o (.slice a1 o.key.length c1) (.slice a2 o.name.length c2) (.slice a3 o.text.length c3)] w fun e w' => ∃ a c, e = .returned (.tuple #[.slice a (opBytes o).length c, .bool true]) ∧ Own w' w.heap.size (.slice a (opBytes o).length c) (opBytes o) ∧ Below w.heap.size w w' := by
  have HK := hide hk
  have HM := hide hn
  have HX := hide ht
  clear hk hn ht
  have Ln : ([] : List Int).length = 0 := rfl
  have HO := hide (fun (W : World) (hW : Below w.heap.size w W) => opI_any W _ o ⟨_, _, _, rfl, (unhide HK).keep hW, (unhide HM).keep hW, (unhide HX).keep hW⟩)
  rw [hb] at HO
  clear hb
  unfold opVal at HO
  rw [k0] at HO
  obtain ⟨r1, e1⟩ : ∃ r, r = putAll ([] : List Int) 3 := ⟨_, rfl⟩
  have L1 := putAll_len ([] : List Int) 3
  have H1 := hide (fun (W : World) (hW : Below w.heap.size w W) (v : Value) (h : Own W w.heap.size v ([] : List Int)) (g : Nat) (c0 : W.cell? ⟨g, 0, none⟩ = some (.int .i64 (3))) => putNum_at W w.heap.size v ([] : List Int) 3 g h hW.size ⟨by decide, by decide⟩ c0 (by omega))
  rw [← e1] at L1 H1
  obtain ⟨r2, e2⟩ : ∃ r, r = putId r1 o.atN o.atR := ⟨_, rfl⟩
  have L2 := putId_len r1 o.atN o.atR
  have H2 := hide (fun (W : World) (hW : Below w.heap.size w W) (v : Value) (h : Own W w.heap.size v r1) (g : Nat) (c0 : W.cell? ⟨g, 0, none⟩ = some (.int .i64 o.atN)) (c1 : W.cell? ⟨g, 1, none⟩ = some (.int .i64 o.atR)) => putId_at W w.heap.size v r1 o.atN o.atR g h hW.size F1 F2 c0 c1 (by omega))
  rw [← e2] at L2 H2
  obtain ⟨r3, e3⟩ : ∃ r, r = putId r2 o.nodeN o.nodeR := ⟨_, rfl⟩
  have L3 := putId_len r2 o.nodeN o.nodeR
  have H3 := hide (fun (W : World) (hW : Below w.heap.size w W) (v : Value) (h : Own W w.heap.size v r2) (g : Nat) (c0 : W.cell? ⟨g, 0, none⟩ = some (.int .i64 o.nodeN)) (c1 : W.cell? ⟨g, 1, none⟩ = some (.int .i64 o.nodeR)) => putId_at W w.heap.size v r2 o.nodeN o.nodeR g h hW.size F3 F4 c0 c1 (by omega))
  rw [← e3] at L3 H3
  obtain ⟨r4, e4⟩ : ∃ r, r = putT r3 o.name := ⟨_, rfl⟩
  have L4 := putT_len r3 o.name
  have H4 := hide (fun (W : World) (hW : Below w.heap.size w W) (v : Value) (h : Own W w.heap.size v r3) => rw_base (putTI_own W v _ r3 o.name h.byt ((unhide HM).keep hW) (by omega)) hW.size)
  rw [← e4] at L4 H4
  obtain ⟨r5, e5⟩ : ∃ r, r = putVal r4 o.text o.gone := ⟨_, rfl⟩
  have L5 := putVal_len r4 o.text o.gone
  have H5 := hide (fun (W : World) (hW : Below w.heap.size w W) (v : Value) (h : Own W w.heap.size v r4) => putVal_any W w.heap.size v _ r4 o.text o.gone h hW.size ((unhide HX).keep hW) (by omega))
  rw [← e5] at L5 H5
  have HE := hide (show opBytes o = r5 by unfold opBytes opHd; rw [k0, if_neg (by decide), if_neg (by decide), if_neg (by decide)]; rw [e5, e4, e3, e2, e1]; unfold putVal; rfl)
  clear e5 L5 e4 L4 e3 L3 e2 L2 e1 L1
  have hA0 : Below w.heap.size w (w.alloc (.cells #[.int .i64 3, .int .i64 o.atN, .int .i64 o.atR, .int .i64 o.nodeN, .int .i64 o.nodeR, .int .i64 o.parN, .int .i64 o.parR, .slice a1 o.key.length c1, .int .i64 o.elem, .slice a2 o.name.length c2, .slice a3 o.text.length c3, .bool o.gone] 33)) := (Below.refl w.heap.size w).alloc (Nat.le_refl _) _
  have l0 := Loc.made w #[.int .i64 3, .int .i64 o.atN, .int .i64 o.atR, .int .i64 o.nodeN, .int .i64 o.nodeR, .int .i64 o.parN, .int .i64 o.parR, .slice a1 o.key.length c1, .int .i64 o.elem, .slice a2 o.name.length c2, .slice a3 o.text.length c3, .bool o.gone] 33
  rw [unhide HE]
  clear HE
  unfold opVal
  rw [k0]
  go_enter Try.func8, Try.ntmps8
  go_wp2_with fail
  generalize (w.alloc (.cells #[.int .i64 3, .int .i64 o.atN, .int .i64 o.atR, .int .i64 o.nodeN, .int .i64 o.nodeR, .int .i64 o.parN, .int .i64 o.parR, .slice a1 o.key.length c1, .int .i64 o.elem, .slice a2 o.name.length c2, .slice a3 o.text.length c3, .bool o.gone] 33)) = w0 at *
  refine (unhide HO w0 hA0).mono ?_
  clear HO
  rintro e w1 ⟨rfl, hB0⟩
  have hA1 := bstep hA0 hB0
  have l1 := l0.all hB0
  clear hA0 l0 hB0
  obtain ⟨x0, x1, x2, x3, x4, x5, x6, x7, x8, x9, x10, x11⟩ := l1.twelve
  go_wp2_with fail
  clear x0 x1 x2 x3 x4 x5 x6 x7 x8 x9 x10 x11
  obtain ⟨x0, x1, x2, x3, x4, x5, x6, x7, x8, x9, x10, x11⟩ := l1.twelve
  go_region_held3 (fun w' => w'.cell? ⟨w.heap.size, 0, none⟩ = some (.int .i64 3) ∧ w'.cell? ⟨w.heap.size, 1, none⟩ = some (.int .i64 o.atN) ∧ w'.cell? ⟨w.heap.size, 2, none⟩ = some (.int .i64 o.atR))
    (first | exact ⟨by assumption, by assumption, by assumption⟩ | go_keep)
    (first
      | (go_at_call 26; refine (unhide H1 _ (by repeat (first | exact hA1 | exact Below.refl _ _ | refine balloc2 ?_ | refine Below.drew ?_)) _ (own_nil2 _ _) _ (by first | (simp; done))).mono ?_; clear H1; rintro e w11 ⟨b1, d1, rfl, ho1, hB1⟩; have hA11 := bstep (a := w) (by repeat (first | exact hA1 | exact Below.refl _ _ | refine balloc2 ?_ | refine Below.drew ?_)) hB1; have hD11 := bstep (a := w1) (by repeat (first | exact Below.refl _ _ | exact Below.refl _ _ | refine balloc2 ?_ | refine Below.drew ?_)) hB1; have hY1 := fun p v h => cell_later hB1 (p := p) (v := v) h; obtain ⟨x0, x1, x2, x3, x4, x5, x6, x7, x8, x9, x10, x11⟩ := (l1.all hD11).twelve)
      | (go_at_call 25; refine (unhide H2 _ (by repeat (first | exact hA11 | exact Below.refl _ _ | refine balloc2 ?_ | refine Below.drew ?_)) _ (ho1.keep (by repeat (first | exact Below.refl _ _ | exact Below.refl _ _ | refine balloc2 ?_ | refine Below.drew ?_))) _ (by first | (simp; done) | exact (hY1 _ _ (by simp))) (by first | (simp; done) | exact (hY1 _ _ (by simp)))).mono ?_; clear H2; rintro e w12 ⟨b2, d2, rfl, ho2, hB2⟩; have hA12 := bstep (a := w) (by repeat (first | exact hA11 | exact Below.refl _ _ | refine balloc2 ?_ | refine Below.drew ?_)) hB2; have hD12 := bstep (a := w1) (by repeat (first | exact hD11 | exact Below.refl _ _ | refine balloc2 ?_ | refine Below.drew ?_)) hB2; have hY2 := fun p v h => cell_later hB2 (p := p) (v := v) h; obtain ⟨x0, x1, x2, x3, x4, x5, x6, x7, x8, x9, x10, x11⟩ := (l1.all hD12).twelve))
  all_goals
    have l12 := l1.all hD12
    clear x0 x1 x2 x3 x4 x5 x6 x7 x8 x9 x10 x11 hY1 hB1 hD11 hY2 hB2 hD12 ho1 hA11
    obtain ⟨x0, x1, x2, x3, x4, x5, x6, x7, x8, x9, x10, x11⟩ := l12.twelve
    go_wp2_with fail
    clear x0 x1 x2 x3 x4 x5 x6 x7 x8 x9 x10 x11
    obtain ⟨x0, x1, x2, x3, x4, x5, x6, x7, x8, x9, x10, x11⟩ := l12.twelve
    go_region_held3 (fun w' => w'.cell? ⟨w.heap.size, 3, none⟩ = some (.int .i64 o.nodeN) ∧ w'.cell? ⟨w.heap.size, 4, none⟩ = some (.int .i64 o.nodeR) ∧ w'.cell? ⟨w.heap.size, 9, none⟩ = some (.slice a2 o.name.length c2) ∧ w'.cell? ⟨w.heap.size, 10, none⟩ = some (.slice a3 o.text.length c3) ∧ w'.cell? ⟨w.heap.size, 11, none⟩ = some (.bool o.gone))
      (first | exact ⟨by assumption, by assumption, by assumption, by assumption, by assumption⟩ | go_keep)
      (first
        | (go_at_call 25; refine (unhide H3 _ (by repeat (first | exact hA12 | exact Below.refl _ _ | refine balloc2 ?_ | refine Below.drew ?_)) _ (ho2.keep (by repeat (first | exact Below.refl _ _ | exact Below.refl _ _ | refine balloc2 ?_ | refine Below.drew ?_))) _ (by first | (simp; done)) (by first | (simp; done))).mono ?_; clear H3; rintro e w13 ⟨b3, d3, rfl, ho3, hB3⟩; have hA13 := bstep (a := w) (by repeat (first | exact hA12 | exact Below.refl _ _ | refine balloc2 ?_ | refine Below.drew ?_)) hB3; have hD13 := bstep (a := w12) (by repeat (first | exact Below.refl _ _ | exact Below.refl _ _ | refine balloc2 ?_ | refine Below.drew ?_)) hB3; have hY3 := fun p v h => cell_later hB3 (p := p) (v := v) h; obtain ⟨x0, x1, x2, x3, x4, x5, x6, x7, x8, x9, x10, x11⟩ := (l12.all hD13).twelve)
        | (go_at_call 28; refine (unhide H4 _ (by repeat (first | exact hA13 | exact Below.refl _ _ | refine balloc2 ?_ | refine Below.drew ?_)) _ (ho3.keep (by repeat (first | exact Below.refl _ _ | exact Below.refl _ _ | refine balloc2 ?_ | refine Below.drew ?_)))).mono ?_; clear H4; rintro e w14 ⟨b4, d4, rfl, ho4, hB4⟩; have hA14 := bstep (a := w) (by repeat (first | exact hA13 | exact Below.refl _ _ | refine balloc2 ?_ | refine Below.drew ?_)) hB4; have hD14 := bstep (a := w12) (by repeat (first | exact hD13 | exact Below.refl _ _ | refine balloc2 ?_ | refine Below.drew ?_)) hB4; have hY4 := fun p v h => cell_later hB4 (p := p) (v := v) h; obtain ⟨x0, x1, x2, x3, x4, x5, x6, x7, x8, x9, x10, x11⟩ := (l12.all hD14).twelve)
        | (go_at_call 29; refine (unhide H5 _ (by repeat (first | exact hA14 | exact Below.refl _ _ | refine balloc2 ?_ | refine Below.drew ?_)) _ (ho4.keep (by repeat (first | exact Below.refl _ _ | exact Below.refl _ _ | refine balloc2 ?_ | refine Below.drew ?_)))).mono ?_; clear H5; rintro e w15 ⟨b5, d5, rfl, ho5, hB5⟩; have hA15 := bstep (a := w) (by repeat (first | exact hA14 | exact Below.refl _ _ | refine balloc2 ?_ | refine Below.drew ?_)) hB5; have hD15 := bstep (a := w12) (by repeat (first | exact hD14 | exact Below.refl _ _ | refine balloc2 ?_ | refine Below.drew ?_)) hB5; have hY5 := fun p v h => cell_later hB5 (p := p) (v := v) h; obtain ⟨x0, x1, x2, x3, x4, x5, x6, x7, x8, x9, x10, x11⟩ := (l12.all hD15).twelve))
    all_goals
      have l15 := l12.all hD15
      clear x0 x1 x2 x3 x4 x5 x6 x7 x8 x9 x10 x11 hY3 hB3 hD13 hY4 hB4 hD14 hY5 hB5 hD15 ho3 ho4 hA13 hA14
      obtain ⟨x0, x1, x2, x3, x4, x5, x6, x7, x8, x9, x10, x11⟩ := l15.twelve
      go_wp2_with fail
      clear x0 x1 x2 x3 x4 x5 x6 x7 x8 x9 x10 x11
      go_ret2
      exact ⟨b5, d5, rfl, ho5, hA15⟩

def obV (o : OpV) : List Int := if opB o then opBytes o else []

set_option maxHeartbeats 3200000 in
theorem bytesI_bad (w : World) (o : OpV) (a1 a2 a3 : Option Addr) (c1 c2 c3 : Nat) (hk : Ints w (.slice a1 o.key.length c1) o.key) (hn : Byt w (.slice a2 o.name.length c2) o.name) (ht : Byt w (.slice a3 o.text.length c3) o.text) (hb : opB o = false) :
    Calls Try.prog 8 #[opVal o (.slice a1 o.key.length c1) (.slice a2 o.name.length c2) (.slice a3 o.text.length c3)] w fun e w' => e = .returned (.tuple #[.slice none 0 0, .bool false]) ∧ Below w.heap.size w w' := by
  have hA0 : Below w.heap.size w (w.alloc (.cells #[.int .i64 o.kind, .int .i64 o.atN, .int .i64 o.atR, .int .i64 o.nodeN, .int .i64 o.nodeR, .int .i64 o.parN, .int .i64 o.parR, .slice a1 o.key.length c1, .int .i64 o.elem, .slice a2 o.name.length c2, .slice a3 o.text.length c3, .bool o.gone] 33)) := (Below.refl w.heap.size w).alloc (Nat.le_refl _) _
  have HO := hide (opI_any _ _ o ⟨_, _, _, rfl, hk.keep hA0, hn.keep hA0, ht.keep hA0⟩)
  rw [hb] at HO
  unfold opVal at HO
  have HA := hide hA0
  clear hk hn ht hA0
  unfold opVal
  go_enter Try.func8, Try.ntmps8
  go_wp2_with fail
  refine (unhide HO).mono ?_
  rintro e w1 ⟨rfl, hB⟩
  have hB1 := bstep (unhide HA) hB
  clear HA hB HO
  go_wp2_with fail
  go_ret2
  exact ⟨rfl, hB1⟩

/-- impl.OpBytes, whatever it is asked. -/
theorem bytesI_any (w : World) (v : Value) (o : OpV) (h : RdOp w v o) (hs : o.key.length ≤ 2097152) :
    Calls Try.prog 8 #[v] w fun e w' => ∃ a c, e = .returned (.tuple #[.slice a (obV o).length c, .bool (opB o)]) ∧ Own w' w.heap.size (.slice a (obV o).length c) (obV o) ∧ Below w.heap.size w w' := by
  obtain ⟨k, n, t, rfl, hk, hn, ht⟩ := h
  obtain ⟨a1, c1, rfl, _, _⟩ := hk.shape
  obtain ⟨a2, c2, rfl, _, _⟩ := hn.shape
  obtain ⟨a3, c3, rfl, _, _⟩ := ht.shape
  unfold obV
  cases hb : opB o with
  | false =>
    refine (bytesI_bad w o a1 a2 a3 c1 c2 c3 hk hn ht hb).mono ?_
    rintro e w' ⟨rfl, hB⟩
    exact ⟨none, 0, rfl, own_nil2 _ _, hB⟩
  | true =>
    rw [if_pos rfl]
    obtain ⟨⟨f1, f2⟩, _, h | h | h | h⟩ := opB_facts hb
    · exact bytesI_0 w o a1 a2 a3 c1 c2 c3 hk hn ht hs hb f1 f2 h.2.2.1.1 h.2.2.1.2 h.2.2.2.2.1 h.1
    · exact bytesI_1 w o a1 a2 a3 c1 c2 c3 hk hn ht hs hb f1 f2 h.2.1.1 h.2.1.2 h.2.2.1.1 h.2.2.1.2 h.1
    · exact bytesI_2 w o a1 a2 a3 c1 c2 c3 hk hn ht hs hb f1 f2 h.2.1.1 h.2.1.2 h.1
    · exact bytesI_3 w o a1 a2 a3 c1 c2 c3 hk hn ht hs hb f1 f2 h.2.1.1 h.2.1.2 h.1
end Go.Proofs.Ytjannojebngoeab
