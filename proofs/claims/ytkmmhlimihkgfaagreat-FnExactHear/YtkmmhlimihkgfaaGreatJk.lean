/- Own texts joined: BytI, CopyW, InsM, Ins, InsO, SetO, PutIn. -/
import Derived.Test.YtkmmhlimihkgfaaGreatJa
import Derived.Test.YtkmmhlimihkgfaaGreatJb
import Derived.Test.YtkmmhlimihkgfaaGreatJc
import Derived.Test.YtkmmhlimihkgfaaGreatJd
import Derived.Test.YtkmmhlimihkgfaaGreatJe
import Derived.Test.YtkmmhlimihkgfaaGreatJf
import Derived.Test.YtkmmhlimihkgfaaGreatJg
import Derived.Test.YtkmmhlimihkgfaaGreatJh
import Derived.Test.YtkmmhlimihkgfaaGreatJi
import Derived.Test.YtkmmhlimihkgfaaGreatJj
import Derived.Laws.CopyOwn
import Derived.Lib.AppendZerosOnto
import Derived.Lib.Overlaps
import Derived.Lib.Walk
import Derived.Laws.Externs
import Derived.Laws.NewBlocks
import Derived.Deep.RegionLaw
import Derived.Deep.AppendLies

/- impl.OpBytes tells the bytes of an operation that may be. -/
namespace Go.Proofs.YtkmmhlimihkgfaaGreat
open Go.RowKit
set_option linter.unusedVariables false
set_option maxRecDepth 100000

theorem ints_at1 {W : World} {g : Nat} {n : Int} (h : W.cell? ⟨g, 0, none⟩ = some (.int .i64 n)) (hn : inR n) : Ints W (.slice (some ⟨g, 0, none⟩) 1 1) [n] := by
  refine ⟨okZ_in hn, by simp [maxLen], .inr (.inr ⟨g, 0, 1, rfl, by simp, by simp [maxLen], by simp, lt_of_cell h, fun i hi => ?_⟩)⟩
  have : i = 0 := by simpa using hi
  subst this
  exact h
theorem putNum_at (w : World) (base : Nat) (v : Value) (l : List Int) (n : Int) (g : Nat) (h : Own w base v l) (hb : base ≤ w.heap.size) (hn : inR n) (c0 : w.cell? ⟨g, 0, none⟩ = some (.int .i64 n)) (hl : l.length ≤ 20000000) :
    Calls Tryz.prog 141 #[v, .slice (some ⟨g, 0, none⟩) 1 1] w fun e w' => ∃ a c, e = .returned (.slice a (putAll l n).length c) ∧ Own w' base (.slice a (putAll l n).length c) (putAll l n) ∧ Below w.heap.size w w' :=
  putNums_any w base v _ l [n] h hb (ints_at1 c0 hn) hl (by simp)
theorem putId_at (w : World) (base : Nat) (v : Value) (l : List Int) (n r : Int) (g : Nat) (h : Own w base v l) (hb : base ≤ w.heap.size) (hn : inR n) (hr : inR r) (c0 : w.cell? ⟨g, 0, none⟩ = some (.int .i64 n)) (c1 : w.cell? ⟨g, 1, none⟩ = some (.int .i64 r)) (hl : l.length ≤ 10000000) :
    Calls Tryz.prog 140 #[v, .slice (some ⟨g, 0, none⟩) 1 1] w fun e w' => ∃ a c, e = .returned (.slice a (putId l n r).length c) ∧ Own w' base (.slice a (putId l n r).length c) (putId l n r) ∧ Below w.heap.size w w' :=
  putIds_any w base v l [(n, r)] g 0 1 h hb hl (by simp) (lt_of_cell c0) (fun x hx => by simp at hx; subst hx; exact okZ_in2 hn hr)
    (fun j hj => by have : j = 0 := by simpa using hj
                    subst this; exact c0)
    (fun j hj => by have : j = 0 := by simpa using hj
                    subst this; exact c1)
theorem putId_at2 (w : World) (base : Nat) (v : Value) (l : List Int) (n r n' r' : Int) (g : Nat) (h : Own w base v l) (hb : base ≤ w.heap.size) (hn : inR n) (hr : inR r) (hn' : inR n') (hr' : inR r') (c0 : w.cell? ⟨g, 0, none⟩ = some (.int .i64 n)) (c1 : w.cell? ⟨g, 1, none⟩ = some (.int .i64 r)) (c2 : w.cell? ⟨g, 2, none⟩ = some (.int .i64 n')) (c3 : w.cell? ⟨g, 3, none⟩ = some (.int .i64 r')) (hl : l.length ≤ 10000000) :
    Calls Tryz.prog 140 #[v, .slice (some ⟨g, 0, none⟩) 2 2] w fun e w' => ∃ a c, e = .returned (.slice a (putId (putId l n r) n' r').length c) ∧ Own w' base (.slice a (putId (putId l n r) n' r').length c) (putId (putId l n r) n' r') ∧ Below w.heap.size w w' :=
  putIds_any w base v l [(n, r), (n', r')] g 0 2 h hb hl (by simp) (lt_of_cell c0) (fun x hx => by
      simp at hx
      rcases hx with rfl | rfl
      · exact okZ_in2 hn hr
      · exact okZ_in2 hn' hr')
    (fun j hj => by have : j = 0 ∨ j = 1 := by simp at hj; omega
                    rcases this with rfl | rfl
                    · exact c0
                    · exact c2)
    (fun j hj => by have : j = 0 ∨ j = 1 := by simp at hj; omega
                    rcases this with rfl | rfl
                    · exact c1
                    · exact c3)
theorem putId_len2 (l : List Int) (n r n' r' : Int) : (putId (putId l n r) n' r').length ≤ l.length + 20 := by
  have := putId_len (putId l n r) n' r'
  have := putId_len l n r
  omega
theorem putVal_len (l t : List Int) (g : Bool) : (putVal l t g).length ≤ l.length + 50 := by
  unfold putVal
  split
  · have := putAll_len l 1; omega
  · have := putT_len (putAll l 0) t
    have := putAll_len l 0
    omega

set_option maxHeartbeats 12800000 in
theorem bytesI_0 (w : World) (o : OpV) (a1 a2 a3 : Option Addr) (c1 c2 c3 : Nat) (hk : Ints w (.slice a1 o.key.length c1) o.key) (hn : Byt w (.slice a2 o.name.length c2) o.name) (ht : Byt w (.slice a3 o.text.length c3) o.text) (hs : o.key.length ≤ 2097152) (hb : opB o = true) (F1 : inR o.atN) (F2 : inR o.atR) (F5 : inR o.parN) (F6 : inR o.parR) (F8 : inR o.elem) (k0 : o.kind = 0) :
    Calls Tryz.prog 122 #[opVal o (.slice a1 o.key.length c1) (.slice a2 o.name.length c2) (.slice a3 o.text.length c3)] w fun e w' => ∃ a c, e = .returned (.tuple #[.slice a (opBytes o).length c, .bool true]) ∧ Own w' w.heap.size (.slice a (opBytes o).length c) (opBytes o) ∧ Below w.heap.size w w' := by
  have HK := hide hk
  have HM := hide hn
  have HX := hide ht
  clear hk hn ht
  have Ln : ([] : List Int).length = 0 := rfl
  have HO := hide (fun (W : World) (hW : Below w.heap.size w W) => opI_any W _ o ⟨_, _, _, rfl, (unhide HK).keep hW, (unhide HM).keep hW, (unhide HX).keep hW⟩)
  rw [hb] at HO
  clear hb
  unfold opVal at HO
  rw [k0] at HO
  obtain ⟨r1, e1⟩ : ∃ r, r = putAll ([] : List Int) 0 := ⟨_, rfl⟩
  have L1 := putAll_len ([] : List Int) 0
  have H1 := hide (fun (W : World) (hW : Below w.heap.size w W) (v : Value) (h : Own W w.heap.size v ([] : List Int)) (g : Nat) (c0 : W.cell? ⟨g, 0, none⟩ = some (.int .i64 (0))) => putNum_at W w.heap.size v ([] : List Int) 0 g h hW.size ⟨by decide, by decide⟩ c0 (by omega))
  rw [← e1] at L1 H1
  obtain ⟨r2, e2⟩ : ∃ r, r = putId r1 o.atN o.atR := ⟨_, rfl⟩
  have L2 := putId_len r1 o.atN o.atR
  have H2 := hide (fun (W : World) (hW : Below w.heap.size w W) (v : Value) (h : Own W w.heap.size v r1) (g : Nat) (c0 : W.cell? ⟨g, 0, none⟩ = some (.int .i64 o.atN)) (c1 : W.cell? ⟨g, 1, none⟩ = some (.int .i64 o.atR)) => putId_at W w.heap.size v r1 o.atN o.atR g h hW.size F1 F2 c0 c1 (by omega))
  rw [← e2] at L2 H2
  obtain ⟨r3, e3⟩ : ∃ r, r = putId r2 o.parN o.parR := ⟨_, rfl⟩
  have L3 := putId_len r2 o.parN o.parR
  have H3 := hide (fun (W : World) (hW : Below w.heap.size w W) (v : Value) (h : Own W w.heap.size v r2) (g : Nat) (c0 : W.cell? ⟨g, 0, none⟩ = some (.int .i64 o.parN)) (c1 : W.cell? ⟨g, 1, none⟩ = some (.int .i64 o.parR)) => putId_at W w.heap.size v r2 o.parN o.parR g h hW.size F5 F6 c0 c1 (by omega))
  rw [← e3] at L3 H3
  obtain ⟨r4, e4⟩ : ∃ r, r = putKey r3 o.key := ⟨_, rfl⟩
  have L4 := putKey_len r3 o.key
  have H4 := hide (fun (W : World) (hW : Below w.heap.size w W) (v : Value) (h : Own W w.heap.size v r3) => putKey_any W w.heap.size v _ r3 o.key h hW.size ((unhide HK).keep hW) (by omega) (by omega))
  rw [← e4] at L4 H4
  obtain ⟨r5, e5⟩ : ∃ r, r = putAll r4 o.elem := ⟨_, rfl⟩
  have L5 := putAll_len r4 o.elem
  have H5 := hide (fun (W : World) (hW : Below w.heap.size w W) (v : Value) (h : Own W w.heap.size v r4) (g : Nat) (c0 : W.cell? ⟨g, 0, none⟩ = some (.int .i64 (o.elem))) => putNum_at W w.heap.size v r4 o.elem g h hW.size F8 c0 (by omega))
  rw [← e5] at L5 H5
  obtain ⟨r6, e6⟩ : ∃ r, r = putT r5 o.name := ⟨_, rfl⟩
  have L6 := putT_len r5 o.name
  have H6 := hide (fun (W : World) (hW : Below w.heap.size w W) (v : Value) (h : Own W w.heap.size v r5) => rw_base (putTI_own W v _ r5 o.name h.byt ((unhide HM).keep hW) (by omega)) hW.size)
  rw [← e6] at L6 H6
  obtain ⟨r7, e7⟩ : ∃ r, r = putT r6 o.text := ⟨_, rfl⟩
  have L7 := putT_len r6 o.text
  have H7 := hide (fun (W : World) (hW : Below w.heap.size w W) (v : Value) (h : Own W w.heap.size v r6) => rw_base (putTI_own W v _ r6 o.text h.byt ((unhide HX).keep hW) (by omega)) hW.size)
  rw [← e7] at L7 H7
  have HE := hide (show opBytes o = r7 by unfold opBytes opHd; rw [k0, if_pos rfl]; rw [e7, e6, e5, e4, e3, e2, e1])
  clear e7 L7 e6 L6 e5 L5 e4 L4 e3 L3 e2 L2 e1 L1
  have hA0 : Below w.heap.size w (w.alloc (.cells #[.int .i64 0, .int .i64 o.atN, .int .i64 o.atR, .int .i64 o.nodeN, .int .i64 o.nodeR, .int .i64 o.parN, .int .i64 o.parR, .slice a1 o.key.length c1, .int .i64 o.elem, .slice a2 o.name.length c2, .slice a3 o.text.length c3, .bool o.gone] 28)) := (Below.refl w.heap.size w).alloc (Nat.le_refl _) _
  have l0 := Loc.made w #[.int .i64 0, .int .i64 o.atN, .int .i64 o.atR, .int .i64 o.nodeN, .int .i64 o.nodeR, .int .i64 o.parN, .int .i64 o.parR, .slice a1 o.key.length c1, .int .i64 o.elem, .slice a2 o.name.length c2, .slice a3 o.text.length c3, .bool o.gone] 28
  rw [unhide HE]
  clear HE
  unfold opVal
  rw [k0]
  go_enter Tryz.func122, Tryz.ntmps122
  go_wp2_with fail
  generalize (w.alloc (.cells #[.int .i64 0, .int .i64 o.atN, .int .i64 o.atR, .int .i64 o.nodeN, .int .i64 o.nodeR, .int .i64 o.parN, .int .i64 o.parR, .slice a1 o.key.length c1, .int .i64 o.elem, .slice a2 o.name.length c2, .slice a3 o.text.length c3, .bool o.gone] 28)) = w0 at *
  refine (unhide HO w0 hA0).mono ?_
  clear HO
  rintro e w1 ⟨rfl, hB0⟩
  have hA1 := bstep hA0 hB0
  have l1 := l0.all hB0
  clear hA0 l0 hB0
  obtain ⟨x0, x1, x2, x3, x4, x5, x6, x7, x8, x9, x10, x11⟩ := l1.twelve
  go_wp2_with fail
  clear x0 x1 x2 x3 x4 x5 x6 x7 x8 x9 x10 x11
  obtain ⟨x0, x1, x2, x3, x4, x5, x6, x7, x8, x9, x10, x11⟩ := l1.twelve
  go_region_held3 (fun w' => w'.cell? ⟨w.heap.size, 0, none⟩ = some (.int .i64 0) ∧ w'.cell? ⟨w.heap.size, 1, none⟩ = some (.int .i64 o.atN) ∧ w'.cell? ⟨w.heap.size, 2, none⟩ = some (.int .i64 o.atR))
    (first | exact ⟨by assumption, by assumption, by assumption⟩ | go_keep)
    (first
      | (go_at_call 141; refine (unhide H1 _ (by repeat (first | exact hA1 | exact Below.refl _ _ | refine balloc2 ?_ | refine Below.drew ?_)) _ (own_nil2 _ _) _ (by first | (simp; done))).mono ?_; clear H1; rintro e w11 ⟨b1, d1, rfl, ho1, hB1⟩; have hA11 := bstep (a := w) (by repeat (first | exact hA1 | exact Below.refl _ _ | refine balloc2 ?_ | refine Below.drew ?_)) hB1; have hD11 := bstep (a := w1) (by repeat (first | exact Below.refl _ _ | exact Below.refl _ _ | refine balloc2 ?_ | refine Below.drew ?_)) hB1; have hY1 := fun p v h => cell_later hB1 (p := p) (v := v) h; obtain ⟨x0, x1, x2, x3, x4, x5, x6, x7, x8, x9, x10, x11⟩ := (l1.all hD11).twelve)
      | (go_at_call 140; refine (unhide H2 _ (by repeat (first | exact hA11 | exact Below.refl _ _ | refine balloc2 ?_ | refine Below.drew ?_)) _ (ho1.keep (by repeat (first | exact Below.refl _ _ | exact Below.refl _ _ | refine balloc2 ?_ | refine Below.drew ?_))) _ (by first | (simp; done) | exact (hY1 _ _ (by simp))) (by first | (simp; done) | exact (hY1 _ _ (by simp)))).mono ?_; clear H2; rintro e w12 ⟨b2, d2, rfl, ho2, hB2⟩; have hA12 := bstep (a := w) (by repeat (first | exact hA11 | exact Below.refl _ _ | refine balloc2 ?_ | refine Below.drew ?_)) hB2; have hD12 := bstep (a := w1) (by repeat (first | exact hD11 | exact Below.refl _ _ | refine balloc2 ?_ | refine Below.drew ?_)) hB2; have hY2 := fun p v h => cell_later hB2 (p := p) (v := v) h; obtain ⟨x0, x1, x2, x3, x4, x5, x6, x7, x8, x9, x10, x11⟩ := (l1.all hD12).twelve))
  all_goals
    have l12 := l1.all hD12
    clear x0 x1 x2 x3 x4 x5 x6 x7 x8 x9 x10 x11 hY1 hB1 hD11 hY2 hB2 hD12 ho1 hA11
    obtain ⟨x0, x1, x2, x3, x4, x5, x6, x7, x8, x9, x10, x11⟩ := l12.twelve
    go_wp2_with fail
    clear x0 x1 x2 x3 x4 x5 x6 x7 x8 x9 x10 x11
    obtain ⟨x0, x1, x2, x3, x4, x5, x6, x7, x8, x9, x10, x11⟩ := l12.twelve
    go_region_held3 (fun w' => w'.cell? ⟨w.heap.size, 5, none⟩ = some (.int .i64 o.parN) ∧ w'.cell? ⟨w.heap.size, 6, none⟩ = some (.int .i64 o.parR) ∧ w'.cell? ⟨w.heap.size, 7, none⟩ = some (.slice a1 o.key.length c1) ∧ w'.cell? ⟨w.heap.size, 8, none⟩ = some (.int .i64 o.elem))
      (first | exact ⟨by assumption, by assumption, by assumption, by assumption⟩ | go_keep)
      (first
        | (go_at_call 140; refine (unhide H3 _ (by repeat (first | exact hA12 | exact Below.refl _ _ | refine balloc2 ?_ | refine Below.drew ?_)) _ (ho2.keep (by repeat (first | exact Below.refl _ _ | exact Below.refl _ _ | refine balloc2 ?_ | refine Below.drew ?_))) _ (by first | (simp; done)) (by first | (simp; done))).mono ?_; clear H3; rintro e w13 ⟨b3, d3, rfl, ho3, hB3⟩; have hA13 := bstep (a := w) (by repeat (first | exact hA12 | exact Below.refl _ _ | refine balloc2 ?_ | refine Below.drew ?_)) hB3; have hD13 := bstep (a := w12) (by repeat (first | exact Below.refl _ _ | exact Below.refl _ _ | refine balloc2 ?_ | refine Below.drew ?_)) hB3; have hY3 := fun p v h => cell_later hB3 (p := p) (v := v) h; obtain ⟨x0, x1, x2, x3, x4, x5, x6, x7, x8, x9, x10, x11⟩ := (l12.all hD13).twelve)
        | (go_at_call 142; refine (unhide H4 _ (by repeat (first | exact hA13 | exact Below.refl _ _ | refine balloc2 ?_ | refine Below.drew ?_)) _ (ho3.keep (by repeat (first | exact Below.refl _ _ | exact Below.refl _ _ | refine balloc2 ?_ | refine Below.drew ?_)))).mono ?_; clear H4; rintro e w14 ⟨b4, d4, rfl, ho4, hB4⟩; have hA14 := bstep (a := w) (by repeat (first | exact hA13 | exact Below.refl _ _ | refine balloc2 ?_ | refine Below.drew ?_)) hB4; have hD14 := bstep (a := w12) (by repeat (first | exact hD13 | exact Below.refl _ _ | refine balloc2 ?_ | refine Below.drew ?_)) hB4; have hY4 := fun p v h => cell_later hB4 (p := p) (v := v) h; obtain ⟨x0, x1, x2, x3, x4, x5, x6, x7, x8, x9, x10, x11⟩ := (l12.all hD14).twelve)
        | (go_at_call 141; refine (unhide H5 _ (by repeat (first | exact hA14 | exact Below.refl _ _ | refine balloc2 ?_ | refine Below.drew ?_)) _ (ho4.keep (by repeat (first | exact Below.refl _ _ | exact Below.refl _ _ | refine balloc2 ?_ | refine Below.drew ?_))) _ (by first | (simp; done) | exact (hY4 _ _ (by simp)) | exact (hY4 _ _ (hY3 _ _ (by simp))))).mono ?_; clear H5; rintro e w15 ⟨b5, d5, rfl, ho5, hB5⟩; have hA15 := bstep (a := w) (by repeat (first | exact hA14 | exact Below.refl _ _ | refine balloc2 ?_ | refine Below.drew ?_)) hB5; have hD15 := bstep (a := w12) (by repeat (first | exact hD14 | exact Below.refl _ _ | refine balloc2 ?_ | refine Below.drew ?_)) hB5; have hY5 := fun p v h => cell_later hB5 (p := p) (v := v) h; obtain ⟨x0, x1, x2, x3, x4, x5, x6, x7, x8, x9, x10, x11⟩ := (l12.all hD15).twelve))
    all_goals
      have l15 := l12.all hD15
      clear x0 x1 x2 x3 x4 x5 x6 x7 x8 x9 x10 x11 hY3 hB3 hD13 hY4 hB4 hD14 hY5 hB5 hD15 ho3 ho4 hA13 hA14
      obtain ⟨x0, x1, x2, x3, x4, x5, x6, x7, x8, x9, x10, x11⟩ := l15.twelve
      go_wp2_with fail
      clear x0 x1 x2 x3 x4 x5 x6 x7 x8 x9 x10 x11
      obtain ⟨x0, x1, x2, x3, x4, x5, x6, x7, x8, x9, x10, x11⟩ := l15.twelve
      go_region_held3 (fun w' => w'.cell? ⟨w.heap.size, 9, none⟩ = some (.slice a2 o.name.length c2) ∧ w'.cell? ⟨w.heap.size, 10, none⟩ = some (.slice a3 o.text.length c3))
        (first | exact ⟨by assumption, by assumption⟩ | go_keep)
        (first
          | (go_at_call 143; refine (unhide H6 _ (by repeat (first | exact hA15 | exact Below.refl _ _ | refine balloc2 ?_ | refine Below.drew ?_)) _ (ho5.keep (by repeat (first | exact Below.refl _ _ | exact Below.refl _ _ | refine balloc2 ?_ | refine Below.drew ?_)))).mono ?_; clear H6; rintro e w16 ⟨b6, d6, rfl, ho6, hB6⟩; have hA16 := bstep (a := w) (by repeat (first | exact hA15 | exact Below.refl _ _ | refine balloc2 ?_ | refine Below.drew ?_)) hB6; have hD16 := bstep (a := w15) (by repeat (first | exact Below.refl _ _ | exact Below.refl _ _ | refine balloc2 ?_ | refine Below.drew ?_)) hB6; have hY6 := fun p v h => cell_later hB6 (p := p) (v := v) h; obtain ⟨x0, x1, x2, x3, x4, x5, x6, x7, x8, x9, x10, x11⟩ := (l15.all hD16).twelve)
          | (go_at_call 143; refine (unhide H7 _ (by repeat (first | exact hA16 | exact Below.refl _ _ | refine balloc2 ?_ | refine Below.drew ?_)) _ (ho6.keep (by repeat (first | exact Below.refl _ _ | exact Below.refl _ _ | refine balloc2 ?_ | refine Below.drew ?_)))).mono ?_; clear H7; rintro e w17 ⟨b7, d7, rfl, ho7, hB7⟩; have hA17 := bstep (a := w) (by repeat (first | exact hA16 | exact Below.refl _ _ | refine balloc2 ?_ | refine Below.drew ?_)) hB7; have hD17 := bstep (a := w15) (by repeat (first | exact hD16 | exact Below.refl _ _ | refine balloc2 ?_ | refine Below.drew ?_)) hB7; have hY7 := fun p v h => cell_later hB7 (p := p) (v := v) h; obtain ⟨x0, x1, x2, x3, x4, x5, x6, x7, x8, x9, x10, x11⟩ := (l15.all hD17).twelve))
      all_goals
        have l17 := l15.all hD17
        clear x0 x1 x2 x3 x4 x5 x6 x7 x8 x9 x10 x11 hY6 hB6 hD16 hY7 hB7 hD17 ho6 hA16
        obtain ⟨x0, x1, x2, x3, x4, x5, x6, x7, x8, x9, x10, x11⟩ := l17.twelve
        go_wp2_with fail
        clear x0 x1 x2 x3 x4 x5 x6 x7 x8 x9 x10 x11
        go_ret2
        exact ⟨b7, d7, rfl, ho7, hA17⟩

set_option maxHeartbeats 12800000 in
theorem bytesI_1 (w : World) (o : OpV) (a1 a2 a3 : Option Addr) (c1 c2 c3 : Nat) (hk : Ints w (.slice a1 o.key.length c1) o.key) (hn : Byt w (.slice a2 o.name.length c2) o.name) (ht : Byt w (.slice a3 o.text.length c3) o.text) (hs : o.key.length ≤ 2097152) (hb : opB o = true) (F1 : inR o.atN) (F2 : inR o.atR) (F3 : inR o.nodeN) (F4 : inR o.nodeR) (F5 : inR o.parN) (F6 : inR o.parR) (k0 : o.kind = 1) :
    Calls Tryz.prog 122 #[opVal o (.slice a1 o.key.length c1) (.slice a2 o.name.length c2) (.slice a3 o.text.length c3)] w fun e w' => ∃ a c, e = .returned (.tuple #[.slice a (opBytes o).length c, .bool true]) ∧ Own w' w.heap.size (.slice a (opBytes o).length c) (opBytes o) ∧ Below w.heap.size w w' := by
  have HK := hide hk
  have HM := hide hn
  have HX := hide ht
  clear hk hn ht
  have Ln : ([] : List Int).length = 0 := rfl
  have HO := hide (fun (W : World) (hW : Below w.heap.size w W) => opI_any W _ o ⟨_, _, _, rfl, (unhide HK).keep hW, (unhide HM).keep hW, (unhide HX).keep hW⟩)
  rw [hb] at HO
  clear hb
  unfold opVal at HO
  rw [k0] at HO
  obtain ⟨r1, e1⟩ : ∃ r, r = putAll ([] : List Int) 1 := ⟨_, rfl⟩
  have L1 := putAll_len ([] : List Int) 1
  have H1 := hide (fun (W : World) (hW : Below w.heap.size w W) (v : Value) (h : Own W w.heap.size v ([] : List Int)) (g : Nat) (c0 : W.cell? ⟨g, 0, none⟩ = some (.int .i64 (1))) => putNum_at W w.heap.size v ([] : List Int) 1 g h hW.size ⟨by decide, by decide⟩ c0 (by omega))
  rw [← e1] at L1 H1
  obtain ⟨r2, e2⟩ : ∃ r, r = putId r1 o.atN o.atR := ⟨_, rfl⟩
  have L2 := putId_len r1 o.atN o.atR
  have H2 := hide (fun (W : World) (hW : Below w.heap.size w W) (v : Value) (h : Own W w.heap.size v r1) (g : Nat) (c0 : W.cell? ⟨g, 0, none⟩ = some (.int .i64 o.atN)) (c1 : W.cell? ⟨g, 1, none⟩ = some (.int .i64 o.atR)) => putId_at W w.heap.size v r1 o.atN o.atR g h hW.size F1 F2 c0 c1 (by omega))
  rw [← e2] at L2 H2
  obtain ⟨r3, e3⟩ : ∃ r, r = putId (putId r2 o.nodeN o.nodeR) o.parN o.parR := ⟨_, rfl⟩
  have L3 := putId_len2 r2 o.nodeN o.nodeR o.parN o.parR
  have H3 := hide (fun (W : World) (hW : Below w.heap.size w W) (v : Value) (h : Own W w.heap.size v r2) (g : Nat) (c0 : W.cell? ⟨g, 0, none⟩ = some (.int .i64 o.nodeN)) (c1 : W.cell? ⟨g, 1, none⟩ = some (.int .i64 o.nodeR)) (c2 : W.cell? ⟨g, 2, none⟩ = some (.int .i64 o.parN)) (c3 : W.cell? ⟨g, 3, none⟩ = some (.int .i64 o.parR)) => putId_at2 W w.heap.size v r2 o.nodeN o.nodeR o.parN o.parR g h hW.size F3 F4 F5 F6 c0 c1 c2 c3 (by omega))
  rw [← e3] at L3 H3
  obtain ⟨r4, e4⟩ : ∃ r, r = putKey r3 o.key := ⟨_, rfl⟩
  have L4 := putKey_len r3 o.key
  have H4 := hide (fun (W : World) (hW : Below w.heap.size w W) (v : Value) (h : Own W w.heap.size v r3) => putKey_any W w.heap.size v _ r3 o.key h hW.size ((unhide HK).keep hW) (by omega) (by omega))
  rw [← e4] at L4 H4
  have HE := hide (show opBytes o = r4 by unfold opBytes opHd; rw [k0, if_neg (by decide), if_pos rfl]; rw [e4, e3, e2, e1])
  clear e4 L4 e3 L3 e2 L2 e1 L1
  have hA0 : Below w.heap.size w (w.alloc (.cells #[.int .i64 1, .int .i64 o.atN, .int .i64 o.atR, .int .i64 o.nodeN, .int .i64 o.nodeR, .int .i64 o.parN, .int .i64 o.parR, .slice a1 o.key.length c1, .int .i64 o.elem, .slice a2 o.name.length c2, .slice a3 o.text.length c3, .bool o.gone] 28)) := (Below.refl w.heap.size w).alloc (Nat.le_refl _) _
  have l0 := Loc.made w #[.int .i64 1, .int .i64 o.atN, .int .i64 o.atR, .int .i64 o.nodeN, .int .i64 o.nodeR, .int .i64 o.parN, .int .i64 o.parR, .slice a1 o.key.length c1, .int .i64 o.elem, .slice a2 o.name.length c2, .slice a3 o.text.length c3, .bool o.gone] 28
  rw [unhide HE]
  clear HE
  unfold opVal
  rw [k0]
  go_enter Tryz.func122, Tryz.ntmps122
  go_wp2_with fail
  generalize (w.alloc (.cells #[.int .i64 1, .int .i64 o.atN, .int .i64 o.atR, .int .i64 o.nodeN, .int .i64 o.nodeR, .int .i64 o.parN, .int .i64 o.parR, .slice a1 o.key.length c1, .int .i64 o.elem, .slice a2 o.name.length c2, .slice a3 o.text.length c3, .bool o.gone] 28)) = w0 at *
  refine (unhide HO w0 hA0).mono ?_
  clear HO
  rintro e w1 ⟨rfl, hB0⟩
  have hA1 := bstep hA0 hB0
  have l1 := l0.all hB0
  clear hA0 l0 hB0
  obtain ⟨x0, x1, x2, x3, x4, x5, x6, x7, x8, x9, x10, x11⟩ := l1.twelve
  go_wp2_with fail
  clear x0 x1 x2 x3 x4 x5 x6 x7 x8 x9 x10 x11
  obtain ⟨x0, x1, x2, x3, x4, x5, x6, x7, x8, x9, x10, x11⟩ := l1.twelve
  go_region_held3 (fun w' => w'.cell? ⟨w.heap.size, 0, none⟩ = some (.int .i64 1) ∧ w'.cell? ⟨w.heap.size, 1, none⟩ = some (.int .i64 o.atN) ∧ w'.cell? ⟨w.heap.size, 2, none⟩ = some (.int .i64 o.atR))
    (first | exact ⟨by assumption, by assumption, by assumption⟩ | go_keep)
    (first
      | (go_at_call 141; refine (unhide H1 _ (by repeat (first | exact hA1 | exact Below.refl _ _ | refine balloc2 ?_ | refine Below.drew ?_)) _ (own_nil2 _ _) _ (by first | (simp; done))).mono ?_; clear H1; rintro e w11 ⟨b1, d1, rfl, ho1, hB1⟩; have hA11 := bstep (a := w) (by repeat (first | exact hA1 | exact Below.refl _ _ | refine balloc2 ?_ | refine Below.drew ?_)) hB1; have hD11 := bstep (a := w1) (by repeat (first | exact Below.refl _ _ | exact Below.refl _ _ | refine balloc2 ?_ | refine Below.drew ?_)) hB1; have hY1 := fun p v h => cell_later hB1 (p := p) (v := v) h; obtain ⟨x0, x1, x2, x3, x4, x5, x6, x7, x8, x9, x10, x11⟩ := (l1.all hD11).twelve)
      | (go_at_call 140; refine (unhide H2 _ (by repeat (first | exact hA11 | exact Below.refl _ _ | refine balloc2 ?_ | refine Below.drew ?_)) _ (ho1.keep (by repeat (first | exact Below.refl _ _ | exact Below.refl _ _ | refine balloc2 ?_ | refine Below.drew ?_))) _ (by first | (simp; done) | exact (hY1 _ _ (by simp))) (by first | (simp; done) | exact (hY1 _ _ (by simp)))).mono ?_; clear H2; rintro e w12 ⟨b2, d2, rfl, ho2, hB2⟩; have hA12 := bstep (a := w) (by repeat (first | exact hA11 | exact Below.refl _ _ | refine balloc2 ?_ | refine Below.drew ?_)) hB2; have hD12 := bstep (a := w1) (by repeat (first | exact hD11 | exact Below.refl _ _ | refine balloc2 ?_ | refine Below.drew ?_)) hB2; have hY2 := fun p v h => cell_later hB2 (p := p) (v := v) h; obtain ⟨x0, x1, x2, x3, x4, x5, x6, x7, x8, x9, x10, x11⟩ := (l1.all hD12).twelve))
  all_goals
    have l12 := l1.all hD12
    clear x0 x1 x2 x3 x4 x5 x6 x7 x8 x9 x10 x11 hY1 hB1 hD11 hY2 hB2 hD12 ho1 hA11
    obtain ⟨x0, x1, x2, x3, x4, x5, x6, x7, x8, x9, x10, x11⟩ := l12.twelve
    go_wp2_with fail
    clear x0 x1 x2 x3 x4 x5 x6 x7 x8 x9 x10 x11
    obtain ⟨x0, x1, x2, x3, x4, x5, x6, x7, x8, x9, x10, x11⟩ := l12.twelve
    go_region_held3 (fun w' => w'.cell? ⟨w.heap.size, 3, none⟩ = some (.int .i64 o.nodeN) ∧ w'.cell? ⟨w.heap.size, 4, none⟩ = some (.int .i64 o.nodeR) ∧ w'.cell? ⟨w.heap.size, 5, none⟩ = some (.int .i64 o.parN) ∧ w'.cell? ⟨w.heap.size, 6, none⟩ = some (.int .i64 o.parR) ∧ w'.cell? ⟨w.heap.size, 7, none⟩ = some (.slice a1 o.key.length c1))
      (first | exact ⟨by assumption, by assumption, by assumption, by assumption, by assumption⟩ | go_keep)
      (first
        | (go_at_call 140; refine (unhide H3 _ (by repeat (first | exact hA12 | exact Below.refl _ _ | refine balloc2 ?_ | refine Below.drew ?_)) _ (ho2.keep (by repeat (first | exact Below.refl _ _ | exact Below.refl _ _ | refine balloc2 ?_ | refine Below.drew ?_))) _ (by first | (simp; done)) (by first | (simp; done)) (by first | (simp; done)) (by first | (simp; done))).mono ?_; clear H3; rintro e w13 ⟨b3, d3, rfl, ho3, hB3⟩; have hA13 := bstep (a := w) (by repeat (first | exact hA12 | exact Below.refl _ _ | refine balloc2 ?_ | refine Below.drew ?_)) hB3; have hD13 := bstep (a := w12) (by repeat (first | exact Below.refl _ _ | exact Below.refl _ _ | refine balloc2 ?_ | refine Below.drew ?_)) hB3; have hY3 := fun p v h => cell_later hB3 (p := p) (v := v) h; obtain ⟨x0, x1, x2, x3, x4, x5, x6, x7, x8, x9, x10, x11⟩ := (l12.all hD13).twelve)
        | (go_at_call 142; refine (unhide H4 _ (by repeat (first | exact hA13 | exact Below.refl _ _ | refine balloc2 ?_ | refine Below.drew ?_)) _ (ho3.keep (by repeat (first | exact Below.refl _ _ | exact Below.refl _ _ | refine balloc2 ?_ | refine Below.drew ?_)))).mono ?_; clear H4; rintro e w14 ⟨b4, d4, rfl, ho4, hB4⟩; have hA14 := bstep (a := w) (by repeat (first | exact hA13 | exact Below.refl _ _ | refine balloc2 ?_ | refine Below.drew ?_)) hB4; have hD14 := bstep (a := w12) (by repeat (first | exact hD13 | exact Below.refl _ _ | refine balloc2 ?_ | refine Below.drew ?_)) hB4; have hY4 := fun p v h => cell_later hB4 (p := p) (v := v) h; obtain ⟨x0, x1, x2, x3, x4, x5, x6, x7, x8, x9, x10, x11⟩ := (l12.all hD14).twelve))
    all_goals
      have l14 := l12.all hD14
      clear x0 x1 x2 x3 x4 x5 x6 x7 x8 x9 x10 x11 hY3 hB3 hD13 hY4 hB4 hD14 ho3 hA13
      obtain ⟨x0, x1, x2, x3, x4, x5, x6, x7, x8, x9, x10, x11⟩ := l14.twelve
      go_wp2_with fail
      clear x0 x1 x2 x3 x4 x5 x6 x7 x8 x9 x10 x11
      go_ret2
      exact ⟨b4, d4, rfl, ho4, hA14⟩

set_option maxHeartbeats 12800000 in
theorem bytesI_2 (w : World) (o : OpV) (a1 a2 a3 : Option Addr) (c1 c2 c3 : Nat) (hk : Ints w (.slice a1 o.key.length c1) o.key) (hn : Byt w (.slice a2 o.name.length c2) o.name) (ht : Byt w (.slice a3 o.text.length c3) o.text) (hs : o.key.length ≤ 2097152) (hb : opB o = true) (F1 : inR o.atN) (F2 : inR o.atR) (F3 : inR o.nodeN) (F4 : inR o.nodeR) (k0 : o.kind = 2) :
    Calls Tryz.prog 122 #[opVal o (.slice a1 o.key.length c1) (.slice a2 o.name.length c2) (.slice a3 o.text.length c3)] w fun e w' => ∃ a c, e = .returned (.tuple #[.slice a (opBytes o).length c, .bool true]) ∧ Own w' w.heap.size (.slice a (opBytes o).length c) (opBytes o) ∧ Below w.heap.size w w' := by
  have HK := hide hk
  have HM := hide hn
  have HX := hide ht
  clear hk hn ht
  have Ln : ([] : List Int).length = 0 := rfl
  have HO := hide (fun (W : World) (hW : Below w.heap.size w W) => opI_any W _ o ⟨_, _, _, rfl, (unhide HK).keep hW, (unhide HM).keep hW, (unhide HX).keep hW⟩)
  rw [hb] at HO
  clear hb
  unfold opVal at HO
  rw [k0] at HO
  obtain ⟨r1, e1⟩ : ∃ r, r = putAll ([] : List Int) 2 := ⟨_, rfl⟩
  have L1 := putAll_len ([] : List Int) 2
  have H1 := hide (fun (W : World) (hW : Below w.heap.size w W) (v : Value) (h : Own W w.heap.size v ([] : List Int)) (g : Nat) (c0 : W.cell? ⟨g, 0, none⟩ = some (.int .i64 (2))) => putNum_at W w.heap.size v ([] : List Int) 2 g h hW.size ⟨by decide, by decide⟩ c0 (by omega))
  rw [← e1] at L1 H1
  obtain ⟨r2, e2⟩ : ∃ r, r = putId r1 o.atN o.atR := ⟨_, rfl⟩
  have L2 := putId_len r1 o.atN o.atR
  have H2 := hide (fun (W : World) (hW : Below w.heap.size w W) (v : Value) (h : Own W w.heap.size v r1) (g : Nat) (c0 : W.cell? ⟨g, 0, none⟩ = some (.int .i64 o.atN)) (c1 : W.cell? ⟨g, 1, none⟩ = some (.int .i64 o.atR)) => putId_at W w.heap.size v r1 o.atN o.atR g h hW.size F1 F2 c0 c1 (by omega))
  rw [← e2] at L2 H2
  obtain ⟨r3, e3⟩ : ∃ r, r = putId r2 o.nodeN o.nodeR := ⟨_, rfl⟩
  have L3 := putId_len r2 o.nodeN o.nodeR
  have H3 := hide (fun (W : World) (hW : Below w.heap.size w W) (v : Value) (h : Own W w.heap.size v r2) (g : Nat) (c0 : W.cell? ⟨g, 0, none⟩ = some (.int .i64 o.nodeN)) (c1 : W.cell? ⟨g, 1, none⟩ = some (.int .i64 o.nodeR)) => putId_at W w.heap.size v r2 o.nodeN o.nodeR g h hW.size F3 F4 c0 c1 (by omega))
  rw [← e3] at L3 H3
  obtain ⟨r4, e4⟩ : ∃ r, r = putT r3 o.text := ⟨_, rfl⟩
  have L4 := putT_len r3 o.text
  have H4 := hide (fun (W : World) (hW : Below w.heap.size w W) (v : Value) (h : Own W w.heap.size v r3) => rw_base (putTI_own W v _ r3 o.text h.byt ((unhide HX).keep hW) (by omega)) hW.size)
  rw [← e4] at L4 H4
  have HE := hide (show opBytes o = r4 by unfold opBytes opHd; rw [k0, if_neg (by decide), if_neg (by decide), if_pos rfl]; rw [e4, e3, e2, e1])
  clear e4 L4 e3 L3 e2 L2 e1 L1
  have hA0 : Below w.heap.size w (w.alloc (.cells #[.int .i64 2, .int .i64 o.atN, .int .i64 o.atR, .int .i64 o.nodeN, .int .i64 o.nodeR, .int .i64 o.parN, .int .i64 o.parR, .slice a1 o.key.length c1, .int .i64 o.elem, .slice a2 o.name.length c2, .slice a3 o.text.length c3, .bool o.gone] 28)) := (Below.refl w.heap.size w).alloc (Nat.le_refl _) _
  have l0 := Loc.made w #[.int .i64 2, .int .i64 o.atN, .int .i64 o.atR, .int .i64 o.nodeN, .int .i64 o.nodeR, .int .i64 o.parN, .int .i64 o.parR, .slice a1 o.key.length c1, .int .i64 o.elem, .slice a2 o.name.length c2, .slice a3 o.text.length c3, .bool o.gone] 28
  rw [unhide HE]
  clear HE
  unfold opVal
  rw [k0]
  go_enter Tryz.func122, Tryz.ntmps122
  go_wp2_with fail
  generalize (w.alloc (.cells #[.int .i64 2, .int .i64 o.atN, .int .i64 o.atR, .int .i64 o.nodeN, .int .i64 o.nodeR, .int .i64 o.parN, .int .i64 o.parR, .slice a1 o.key.length c1, .int .i64 o.elem, .slice a2 o.name.length c2, .slice a3 o.text.length c3, .bool o.gone] 28)) = w0 at *
  refine (unhide HO w0 hA0).mono ?_
  clear HO
  rintro e w1 ⟨rfl, hB0⟩
  have hA1 := bstep hA0 hB0
  have l1 := l0.all hB0
  clear hA0 l0 hB0
  obtain ⟨x0, x1, x2, x3, x4, x5, x6, x7, x8, x9, x10, x11⟩ := l1.twelve
  go_wp2_with fail
  clear x0 x1 x2 x3 x4 x5 x6 x7 x8 x9 x10 x11
  obtain ⟨x0, x1, x2, x3, x4, x5, x6, x7, x8, x9, x10, x11⟩ := l1.twelve
  go_region_held3 (fun w' => w'.cell? ⟨w.heap.size, 0, none⟩ = some (.int .i64 2) ∧ w'.cell? ⟨w.heap.size, 1, none⟩ = some (.int .i64 o.atN) ∧ w'.cell? ⟨w.heap.size, 2, none⟩ = some (.int .i64 o.atR))
    (first | exact ⟨by assumption, by assumption, by assumption⟩ | go_keep)
    (first
      | (go_at_call 141; refine (unhide H1 _ (by repeat (first | exact hA1 | exact Below.refl _ _ | refine balloc2 ?_ | refine Below.drew ?_)) _ (own_nil2 _ _) _ (by first | (simp; done))).mono ?_; clear H1; rintro e w11 ⟨b1, d1, rfl, ho1, hB1⟩; have hA11 := bstep (a := w) (by repeat (first | exact hA1 | exact Below.refl _ _ | refine balloc2 ?_ | refine Below.drew ?_)) hB1; have hD11 := bstep (a := w1) (by repeat (first | exact Below.refl _ _ | exact Below.refl _ _ | refine balloc2 ?_ | refine Below.drew ?_)) hB1; have hY1 := fun p v h => cell_later hB1 (p := p) (v := v) h; obtain ⟨x0, x1, x2, x3, x4, x5, x6, x7, x8, x9, x10, x11⟩ := (l1.all hD11).twelve)
      | (go_at_call 140; refine (unhide H2 _ (by repeat (first | exact hA11 | exact Below.refl _ _ | refine balloc2 ?_ | refine Below.drew ?_)) _ (ho1.keep (by repeat (first | exact Below.refl _ _ | exact Below.refl _ _ | refine balloc2 ?_ | refine Below.drew ?_))) _ (by first | (simp; done) | exact (hY1 _ _ (by simp))) (by first | (simp; done) | exact (hY1 _ _ (by simp)))).mono ?_; clear H2; rintro e w12 ⟨b2, d2, rfl, ho2, hB2⟩; have hA12 := bstep (a := w) (by repeat (first | exact hA11 | exact Below.refl _ _ | refine balloc2 ?_ | refine Below.drew ?_)) hB2; have hD12 := bstep (a := w1) (by repeat (first | exact hD11 | exact Below.refl _ _ | refine balloc2 ?_ | refine Below.drew ?_)) hB2; have hY2 := fun p v h => cell_later hB2 (p := p) (v := v) h; obtain ⟨x0, x1, x2, x3, x4, x5, x6, x7, x8, x9, x10, x11⟩ := (l1.all hD12).twelve))
  all_goals
    have l12 := l1.all hD12
    clear x0 x1 x2 x3 x4 x5 x6 x7 x8 x9 x10 x11 hY1 hB1 hD11 hY2 hB2 hD12 ho1 hA11
    obtain ⟨x0, x1, x2, x3, x4, x5, x6, x7, x8, x9, x10, x11⟩ := l12.twelve
    go_wp2_with fail
    clear x0 x1 x2 x3 x4 x5 x6 x7 x8 x9 x10 x11
    obtain ⟨x0, x1, x2, x3, x4, x5, x6, x7, x8, x9, x10, x11⟩ := l12.twelve
    go_region_held3 (fun w' => w'.cell? ⟨w.heap.size, 3, none⟩ = some (.int .i64 o.nodeN) ∧ w'.cell? ⟨w.heap.size, 4, none⟩ = some (.int .i64 o.nodeR) ∧ w'.cell? ⟨w.heap.size, 10, none⟩ = some (.slice a3 o.text.length c3))
      (first | exact ⟨by assumption, by assumption, by assumption⟩ | go_keep)
      (first
        | (go_at_call 140; refine (unhide H3 _ (by repeat (first | exact hA12 | exact Below.refl _ _ | refine balloc2 ?_ | refine Below.drew ?_)) _ (ho2.keep (by repeat (first | exact Below.refl _ _ | exact Below.refl _ _ | refine balloc2 ?_ | refine Below.drew ?_))) _ (by first | (simp; done)) (by first | (simp; done))).mono ?_; clear H3; rintro e w13 ⟨b3, d3, rfl, ho3, hB3⟩; have hA13 := bstep (a := w) (by repeat (first | exact hA12 | exact Below.refl _ _ | refine balloc2 ?_ | refine Below.drew ?_)) hB3; have hD13 := bstep (a := w12) (by repeat (first | exact Below.refl _ _ | exact Below.refl _ _ | refine balloc2 ?_ | refine Below.drew ?_)) hB3; have hY3 := fun p v h => cell_later hB3 (p := p) (v := v) h; obtain ⟨x0, x1, x2, x3, x4, x5, x6, x7, x8, x9, x10, x11⟩ := (l12.all hD13).twelve)
        | (go_at_call 143; refine (unhide H4 _ (by repeat (first | exact hA13 | exact Below.refl _ _ | refine balloc2 ?_ | refine Below.drew ?_)) _ (ho3.keep (by repeat (first | exact Below.refl _ _ | exact Below.refl _ _ | refine balloc2 ?_ | refine Below.drew ?_)))).mono ?_; clear H4; rintro e w14 ⟨b4, d4, rfl, ho4, hB4⟩; have hA14 := bstep (a := w) (by repeat (first | exact hA13 | exact Below.refl _ _ | refine balloc2 ?_ | refine Below.drew ?_)) hB4; have hD14 := bstep (a := w12) (by repeat (first | exact hD13 | exact Below.refl _ _ | refine balloc2 ?_ | refine Below.drew ?_)) hB4; have hY4 := fun p v h => cell_later hB4 (p := p) (v := v) h; obtain ⟨x0, x1, x2, x3, x4, x5, x6, x7, x8, x9, x10, x11⟩ := (l12.all hD14).twelve))
    all_goals
      have l14 := l12.all hD14
      clear x0 x1 x2 x3 x4 x5 x6 x7 x8 x9 x10 x11 hY3 hB3 hD13 hY4 hB4 hD14 ho3 hA13
      obtain ⟨x0, x1, x2, x3, x4, x5, x6, x7, x8, x9, x10, x11⟩ := l14.twelve
      go_wp2_with fail
      clear x0 x1 x2 x3 x4 x5 x6 x7 x8 x9 x10 x11
      go_ret2
      exact ⟨b4, d4, rfl, ho4, hA14⟩

set_option maxHeartbeats 12800000 in
theorem bytesI_3 (w : World) (o : OpV) (a1 a2 a3 : Option Addr) (c1 c2 c3 : Nat) (hk : Ints w (.slice a1 o.key.length c1) o.key) (hn : Byt w (.slice a2 o.name.length c2) o.name) (ht : Byt w (.slice a3 o.text.length c3) o.text) (hs : o.key.length ≤ 2097152) (hb : opB o = true) (F1 : inR o.atN) (F2 : inR o.atR) (F3 : inR o.nodeN) (F4 : inR o.nodeR) (k0 : o.kind = 3) :
    Calls Tryz.prog 122 #[opVal o (.slice a1 o.key.length c1) (.slice a2 o.name.length c2) (.slice a3 o.text.length c3)] w fun e w' => ∃ a c, e = .returned (.tuple #[.slice a (opBytes o).length c, .bool true]) ∧ Own w' w.heap.size (.slice a (opBytes o).length c) (opBytes o) ∧ Below w.heap.size w w' := by
  have HK := hide hk
  have HM := hide hn
  have HX := hide ht
  clear hk hn ht
  have Ln : ([] : List Int).length = 0 := rfl
  have HO := hide (fun (W : World) (hW : Below w.heap.size w W) => opI_any W _ o ⟨_, _, _, rfl, (unhide HK).keep hW, (unhide HM).keep hW, (unhide HX).keep hW⟩)
  rw [hb] at HO
  clear hb
  unfold opVal at HO
  rw [k0] at HO
  obtain ⟨r1, e1⟩ : ∃ r, r = putAll ([] : List Int) 3 := ⟨_, rfl⟩
  have L1 := putAll_len ([] : List Int) 3
  have H1 := hide (fun (W : World) (hW : Below w.heap.size w W) (v : Value) (h : Own W w.heap.size v ([] : List Int)) (g : Nat) (c0 : W.cell? ⟨g, 0, none⟩ = some (.int .i64 (3))) => putNum_at W w.heap.size v ([] : List Int) 3 g h hW.size ⟨by decide, by decide⟩ c0 (by omega))
  rw [← e1] at L1 H1
  obtain ⟨r2, e2⟩ : ∃ r, r = putId r1 o.atN o.atR := ⟨_, rfl⟩
  have L2 := putId_len r1 o.atN o.atR
  have H2 := hide (fun (W : World) (hW : Below w.heap.size w W) (v : Value) (h : Own W w.heap.size v r1) (g : Nat) (c0 : W.cell? ⟨g, 0, none⟩ = some (.int .i64 o.atN)) (c1 : W.cell? ⟨g, 1, none⟩ = some (.int .i64 o.atR)) => putId_at W w.heap.size v r1 o.atN o.atR g h hW.size F1 F2 c0 c1 (by omega))
  rw [← e2] at L2 H2
  obtain ⟨r3, e3⟩ : ∃ r, r = putId r2 o.nodeN o.nodeR := ⟨_, rfl⟩
  have L3 := putId_len r2 o.nodeN o.nodeR
  have H3 := hide (fun (W : World) (hW : Below w.heap.size w W) (v : Value) (h : Own W w.heap.size v r2) (g : Nat) (c0 : W.cell? ⟨g, 0, none⟩ = some (.int .i64 o.nodeN)) (c1 : W.cell? ⟨g, 1, none⟩ = some (.int .i64 o.nodeR)) => putId_at W w.heap.size v r2 o.nodeN o.nodeR g h hW.size F3 F4 c0 c1 (by omega))
  rw [← e3] at L3 H3
  obtain ⟨r4, e4⟩ : ∃ r, r = putT r3 o.name := ⟨_, rfl⟩
  have L4 := putT_len r3 o.name
  have H4 := hide (fun (W : World) (hW : Below w.heap.size w W) (v : Value) (h : Own W w.heap.size v r3) => rw_base (putTI_own W v _ r3 o.name h.byt ((unhide HM).keep hW) (by omega)) hW.size)
  rw [← e4] at L4 H4
  obtain ⟨r5, e5⟩ : ∃ r, r = putVal r4 o.text o.gone := ⟨_, rfl⟩
  have L5 := putVal_len r4 o.text o.gone
  have H5 := hide (fun (W : World) (hW : Below w.heap.size w W) (v : Value) (h : Own W w.heap.size v r4) => putVal_any W w.heap.size v _ r4 o.text o.gone h hW.size ((unhide HX).keep hW) (by omega))
  rw [← e5] at L5 H5
  have HE := hide (show opBytes o = r5 by unfold opBytes opHd; rw [k0, if_neg (by decide), if_neg (by decide), if_neg (by decide)]; rw [e5, e4, e3, e2, e1]; unfold putVal; rfl)
  clear e5 L5 e4 L4 e3 L3 e2 L2 e1 L1
  have hA0 : Below w.heap.size w (w.alloc (.cells #[.int .i64 3, .int .i64 o.atN, .int .i64 o.atR, .int .i64 o.nodeN, .int .i64 o.nodeR, .int .i64 o.parN, .int .i64 o.parR, .slice a1 o.key.length c1, .int .i64 o.elem, .slice a2 o.name.length c2, .slice a3 o.text.length c3, .bool o.gone] 28)) := (Below.refl w.heap.size w).alloc (Nat.le_refl _) _
  have l0 := Loc.made w #[.int .i64 3, .int .i64 o.atN, .int .i64 o.atR, .int .i64 o.nodeN, .int .i64 o.nodeR, .int .i64 o.parN, .int .i64 o.parR, .slice a1 o.key.length c1, .int .i64 o.elem, .slice a2 o.name.length c2, .slice a3 o.text.length c3, .bool o.gone] 28
  rw [unhide HE]
  clear HE
  unfold opVal
  rw [k0]
  go_enter Tryz.func122, Tryz.ntmps122
  go_wp2_with fail
  generalize (w.alloc (.cells #[.int .i64 3, .int .i64 o.atN, .int .i64 o.atR, .int .i64 o.nodeN, .int .i64 o.nodeR, .int .i64 o.parN, .int .i64 o.parR, .slice a1 o.key.length c1, .int .i64 o.elem, .slice a2 o.name.length c2, .slice a3 o.text.length c3, .bool o.gone] 28)) = w0 at *
  refine (unhide HO w0 hA0).mono ?_
  clear HO
  rintro e w1 ⟨rfl, hB0⟩
  have hA1 := bstep hA0 hB0
  have l1 := l0.all hB0
  clear hA0 l0 hB0
  obtain ⟨x0, x1, x2, x3, x4, x5, x6, x7, x8, x9, x10, x11⟩ := l1.twelve
  go_wp2_with fail
  clear x0 x1 x2 x3 x4 x5 x6 x7 x8 x9 x10 x11
  obtain ⟨x0, x1, x2, x3, x4, x5, x6, x7, x8, x9, x10, x11⟩ := l1.twelve
  go_region_held3 (fun w' => w'.cell? ⟨w.heap.size, 0, none⟩ = some (.int .i64 3) ∧ w'.cell? ⟨w.heap.size, 1, none⟩ = some (.int .i64 o.atN) ∧ w'.cell? ⟨w.heap.size, 2, none⟩ = some (.int .i64 o.atR))
    (first | exact ⟨by assumption, by assumption, by assumption⟩ | go_keep)
    (first
      | (go_at_call 141; refine (unhide H1 _ (by repeat (first | exact hA1 | exact Below.refl _ _ | refine balloc2 ?_ | refine Below.drew ?_)) _ (own_nil2 _ _) _ (by first | (simp; done))).mono ?_; clear H1; rintro e w11 ⟨b1, d1, rfl, ho1, hB1⟩; have hA11 := bstep (a := w) (by repeat (first | exact hA1 | exact Below.refl _ _ | refine balloc2 ?_ | refine Below.drew ?_)) hB1; have hD11 := bstep (a := w1) (by repeat (first | exact Below.refl _ _ | exact Below.refl _ _ | refine balloc2 ?_ | refine Below.drew ?_)) hB1; have hY1 := fun p v h => cell_later hB1 (p := p) (v := v) h; obtain ⟨x0, x1, x2, x3, x4, x5, x6, x7, x8, x9, x10, x11⟩ := (l1.all hD11).twelve)
      | (go_at_call 140; refine (unhide H2 _ (by repeat (first | exact hA11 | exact Below.refl _ _ | refine balloc2 ?_ | refine Below.drew ?_)) _ (ho1.keep (by repeat (first | exact Below.refl _ _ | exact Below.refl _ _ | refine balloc2 ?_ | refine Below.drew ?_))) _ (by first | (simp; done) | exact (hY1 _ _ (by simp))) (by first | (simp; done) | exact (hY1 _ _ (by simp)))).mono ?_; clear H2; rintro e w12 ⟨b2, d2, rfl, ho2, hB2⟩; have hA12 := bstep (a := w) (by repeat (first | exact hA11 | exact Below.refl _ _ | refine balloc2 ?_ | refine Below.drew ?_)) hB2; have hD12 := bstep (a := w1) (by repeat (first | exact hD11 | exact Below.refl _ _ | refine balloc2 ?_ | refine Below.drew ?_)) hB2; have hY2 := fun p v h => cell_later hB2 (p := p) (v := v) h; obtain ⟨x0, x1, x2, x3, x4, x5, x6, x7, x8, x9, x10, x11⟩ := (l1.all hD12).twelve))
  all_goals
    have l12 := l1.all hD12
    clear x0 x1 x2 x3 x4 x5 x6 x7 x8 x9 x10 x11 hY1 hB1 hD11 hY2 hB2 hD12 ho1 hA11
    obtain ⟨x0, x1, x2, x3, x4, x5, x6, x7, x8, x9, x10, x11⟩ := l12.twelve
    go_wp2_with fail
    clear x0 x1 x2 x3 x4 x5 x6 x7 x8 x9 x10 x11
    obtain ⟨x0, x1, x2, x3, x4, x5, x6, x7, x8, x9, x10, x11⟩ := l12.twelve
    go_region_held3 (fun w' => w'.cell? ⟨w.heap.size, 3, none⟩ = some (.int .i64 o.nodeN) ∧ w'.cell? ⟨w.heap.size, 4, none⟩ = some (.int .i64 o.nodeR) ∧ w'.cell? ⟨w.heap.size, 9, none⟩ = some (.slice a2 o.name.length c2) ∧ w'.cell? ⟨w.heap.size, 10, none⟩ = some (.slice a3 o.text.length c3) ∧ w'.cell? ⟨w.heap.size, 11, none⟩ = some (.bool o.gone))
      (first | exact ⟨by assumption, by assumption, by assumption, by assumption, by assumption⟩ | go_keep)
      (first
        | (go_at_call 140; refine (unhide H3 _ (by repeat (first | exact hA12 | exact Below.refl _ _ | refine balloc2 ?_ | refine Below.drew ?_)) _ (ho2.keep (by repeat (first | exact Below.refl _ _ | exact Below.refl _ _ | refine balloc2 ?_ | refine Below.drew ?_))) _ (by first | (simp; done)) (by first | (simp; done))).mono ?_; clear H3; rintro e w13 ⟨b3, d3, rfl, ho3, hB3⟩; have hA13 := bstep (a := w) (by repeat (first | exact hA12 | exact Below.refl _ _ | refine balloc2 ?_ | refine Below.drew ?_)) hB3; have hD13 := bstep (a := w12) (by repeat (first | exact Below.refl _ _ | exact Below.refl _ _ | refine balloc2 ?_ | refine Below.drew ?_)) hB3; have hY3 := fun p v h => cell_later hB3 (p := p) (v := v) h; obtain ⟨x0, x1, x2, x3, x4, x5, x6, x7, x8, x9, x10, x11⟩ := (l12.all hD13).twelve)
        | (go_at_call 143; refine (unhide H4 _ (by repeat (first | exact hA13 | exact Below.refl _ _ | refine balloc2 ?_ | refine Below.drew ?_)) _ (ho3.keep (by repeat (first | exact Below.refl _ _ | exact Below.refl _ _ | refine balloc2 ?_ | refine Below.drew ?_)))).mono ?_; clear H4; rintro e w14 ⟨b4, d4, rfl, ho4, hB4⟩; have hA14 := bstep (a := w) (by repeat (first | exact hA13 | exact Below.refl _ _ | refine balloc2 ?_ | refine Below.drew ?_)) hB4; have hD14 := bstep (a := w12) (by repeat (first | exact hD13 | exact Below.refl _ _ | refine balloc2 ?_ | refine Below.drew ?_)) hB4; have hY4 := fun p v h => cell_later hB4 (p := p) (v := v) h; obtain ⟨x0, x1, x2, x3, x4, x5, x6, x7, x8, x9, x10, x11⟩ := (l12.all hD14).twelve)
        | (go_at_call 144; refine (unhide H5 _ (by repeat (first | exact hA14 | exact Below.refl _ _ | refine balloc2 ?_ | refine Below.drew ?_)) _ (ho4.keep (by repeat (first | exact Below.refl _ _ | exact Below.refl _ _ | refine balloc2 ?_ | refine Below.drew ?_)))).mono ?_; clear H5; rintro e w15 ⟨b5, d5, rfl, ho5, hB5⟩; have hA15 := bstep (a := w) (by repeat (first | exact hA14 | exact Below.refl _ _ | refine balloc2 ?_ | refine Below.drew ?_)) hB5; have hD15 := bstep (a := w12) (by repeat (first | exact hD14 | exact Below.refl _ _ | refine balloc2 ?_ | refine Below.drew ?_)) hB5; have hY5 := fun p v h => cell_later hB5 (p := p) (v := v) h; obtain ⟨x0, x1, x2, x3, x4, x5, x6, x7, x8, x9, x10, x11⟩ := (l12.all hD15).twelve))
    all_goals
      have l15 := l12.all hD15
      clear x0 x1 x2 x3 x4 x5 x6 x7 x8 x9 x10 x11 hY3 hB3 hD13 hY4 hB4 hD14 hY5 hB5 hD15 ho3 ho4 hA13 hA14
      obtain ⟨x0, x1, x2, x3, x4, x5, x6, x7, x8, x9, x10, x11⟩ := l15.twelve
      go_wp2_with fail
      clear x0 x1 x2 x3 x4 x5 x6 x7 x8 x9 x10 x11
      go_ret2
      exact ⟨b5, d5, rfl, ho5, hA15⟩

def obV (o : OpV) : List Int := if opB o then opBytes o else []

set_option maxHeartbeats 3200000 in
theorem bytesI_bad (w : World) (o : OpV) (a1 a2 a3 : Option Addr) (c1 c2 c3 : Nat) (hk : Ints w (.slice a1 o.key.length c1) o.key) (hn : Byt w (.slice a2 o.name.length c2) o.name) (ht : Byt w (.slice a3 o.text.length c3) o.text) (hb : opB o = false) :
    Calls Tryz.prog 122 #[opVal o (.slice a1 o.key.length c1) (.slice a2 o.name.length c2) (.slice a3 o.text.length c3)] w fun e w' => e = .returned (.tuple #[.slice none 0 0, .bool false]) ∧ Below w.heap.size w w' := by
  have hA0 : Below w.heap.size w (w.alloc (.cells #[.int .i64 o.kind, .int .i64 o.atN, .int .i64 o.atR, .int .i64 o.nodeN, .int .i64 o.nodeR, .int .i64 o.parN, .int .i64 o.parR, .slice a1 o.key.length c1, .int .i64 o.elem, .slice a2 o.name.length c2, .slice a3 o.text.length c3, .bool o.gone] 28)) := (Below.refl w.heap.size w).alloc (Nat.le_refl _) _
  have HO := hide (opI_any _ _ o ⟨_, _, _, rfl, hk.keep hA0, hn.keep hA0, ht.keep hA0⟩)
  rw [hb] at HO
  unfold opVal at HO
  have HA := hide hA0
  clear hk hn ht hA0
  unfold opVal
  go_enter Tryz.func122, Tryz.ntmps122
  go_wp2_with fail
  refine (unhide HO).mono ?_
  rintro e w1 ⟨rfl, hB⟩
  have hB1 := bstep (unhide HA) hB
  clear HA hB HO
  go_wp2_with fail
  go_ret2
  exact ⟨rfl, hB1⟩

/-- impl.OpBytes, whatever it is asked. -/
theorem bytesI_any (w : World) (v : Value) (o : OpV) (h : RdOp w v o) (hs : o.key.length ≤ 2097152) :
    Calls Tryz.prog 122 #[v] w fun e w' => ∃ a c, e = .returned (.tuple #[.slice a (obV o).length c, .bool (opB o)]) ∧ Own w' w.heap.size (.slice a (obV o).length c) (obV o) ∧ Below w.heap.size w w' := by
  obtain ⟨k, n, t, rfl, hk, hn, ht⟩ := h
  obtain ⟨a1, c1, rfl, _, _⟩ := hk.shape
  obtain ⟨a2, c2, rfl, _, _⟩ := hn.shape
  obtain ⟨a3, c3, rfl, _, _⟩ := ht.shape
  unfold obV
  cases hb : opB o with
  | false =>
    refine (bytesI_bad w o a1 a2 a3 c1 c2 c3 hk hn ht hb).mono ?_
    rintro e w' ⟨rfl, hB⟩
    exact ⟨none, 0, rfl, own_nil2 _ _, hB⟩
  | true =>
    rw [if_pos rfl]
    obtain ⟨⟨f1, f2⟩, _, h | h | h | h⟩ := opB_facts hb
    · exact bytesI_0 w o a1 a2 a3 c1 c2 c3 hk hn ht hs hb f1 f2 h.2.2.1.1 h.2.2.1.2 h.2.2.2.2.1 h.1
    · exact bytesI_1 w o a1 a2 a3 c1 c2 c3 hk hn ht hs hb f1 f2 h.2.1.1 h.2.1.2 h.2.2.1.1 h.2.2.1.2 h.1
    · exact bytesI_2 w o a1 a2 a3 c1 c2 c3 hk hn ht hs hb f1 f2 h.2.1.1 h.2.1.2 h.1
    · exact bytesI_3 w o a1 a2 a3 c1 c2 c3 hk hn ht hs hb f1 f2 h.2.1.1 h.2.1.2 h.1
end Go.Proofs.YtkmmhlimihkgfaaGreat

/- 'copy(dst, src)' of elements of several cells, dst lying in a block that is known whole. No program. -/
namespace Go.Proofs.YtkmmhlimihkgfaaGreat
open Go.RowKit
set_option linter.unusedVariables false

theorem run_copy_wide {P : Program} (w : World) (dT sT ty elem : TypeId) (s g o dLen dCap : Nat) (a : Addr) (sLen sCap : Nat) (cur : Array Value) (t : TypeId) (cs : List Value) (n : Nat)
    (hu : P.underlying dT = some (.slice elem)) (hs : (P.info? elem).map (·.size) = some s) (hg : w.heap[g]? = some (.cells cur t (0, 0))) (hn : n = Nat.min sLen dLen) (hcl : cs.length = n * s)
    (hsrc : ∀ j v, cs[j]? = some v → w.cell? (a.add j) = some v) (hfit : o + cs.length ≤ cur.size) (h1 : ∀ v ∈ cs, v.oneCell' = true) :
    (Builtin.copy_ #[dT, sT] ty #[.slice (some ⟨g, o, none⟩) dLen dCap, .slice (some a) sLen sCap]).run P w = .ok (goInt n) (w.setRow g (cur.toList.take o ++ cs ++ cur.toList.drop (o + cs.length)).toArray) := by
  have hl := run_loadCells_list (P := P) w a cs hsrc
  have hst := run_storeCells_at P g o t cs 0 cur w hg (by simpa using hfit) h1
  cases hq : P.info? elem with
  | none => simp [hq] at hs
  | some i =>
    have hi : i.size = s := by simpa [hq] using hs
    rw [hcl] at hl
    simp [Builtin.copy_, run_underlying hu, Builtin.lenOf, Builtin.firstCells, sizeOf, typeInfo, hq, hi, ← hn, hl, hst]
theorem setRow_frm (w : World) (g : Nat) (cs : Array Value) : Frm w (w.setRow g cs) [g] :=
  ⟨rfl, rfl, rfl, by simp [World.setRow], fun k _ hk => setRow_other w g k cs (fun e => hk (by simp [e]))⟩

/-- 'copy' at the list of a plain region's operations. -/
theorem wpList_copyw {P : Program} {w : World} {ops : Array Oper} {rest : List Oper} {o : Oper} {a : Act} {Q : Exit → Act → World → Prop} (hgd : o.guard = none) (d s : Operand) (dT sT : TypeId)
    (ho : o.op = .call { callee := .builtin .copy, args := #[d, s], argTypes := #[dT, sT] }) (elem : TypeId) (size : Nat) (hu : P.underlying dT = some (.slice elem)) (hsz : (P.info? elem).map (·.size) = some size)
    (g off dLen dCap : Nat) (ad : Addr) (sLen sCap : Nat) (hd : a.eval d = .slice (some ⟨g, off, none⟩) dLen dCap) (hs : a.eval s = .slice (some ad) sLen sCap)
    (cur : List Value) (t : TypeId) (hg : w.heap[g]? = some (.cells cur.toArray t (0, 0))) (cs : List Value) (n : Nat) (hn : n = Nat.min sLen dLen) (hcl : cs.length = n * size)
    (hsrc : ∀ j v, cs[j]? = some v → w.cell? (ad.add j) = some v) (hfit : off + cs.length ≤ cur.length) (h1 : ∀ v ∈ cs, v.oneCell' = true)
    (h : ∀ w', Hid (w'.heap[g]? = some (.cells (splice cur off cs).toArray t (0, 0))) → Frm w w' [g] → wpList P ops Q rest (a.put o.dst (goInt n)) w') : wpList P ops Q (o :: rest) a w := by
  refine wpList_plain hgd fun K hK => ?_
  have hrun := run_copy_wide (P := P) w dT sT o.type elem size g off dLen dCap ad sLen sCap cur.toArray t cs n hu hsz hg hn hcl hsrc (by simpa using hfit) h1
  unfold Oper.wp
  simp [execOp, ho, resolve, invoke, builtin, hd, hs, hrun, Result.andThen]
  exact hK _ _ (h _ (show _ = _ by simpa [splice] using setRow_heap w g _ _ t _ hg) (setRow_frm _ _ _))

/-- .. and as one step of a region that draws its order. -/
theorem step_copyw {P : Program} {w : World} {ops : Array Oper} {o : Oper} {a : Act} {K : Act → World → Prop} {Q : Exit → Act → World → Prop} {E : Prop} (hgd : o.guard = none) (d s : Operand) (dT sT : TypeId)
    (ho : o.op = .call { callee := .builtin .copy, args := #[d, s], argTypes := #[dT, sT] }) (elem : TypeId) (size : Nat) (hu : P.underlying dT = some (.slice elem)) (hsz : (P.info? elem).map (·.size) = some size)
    (g off dLen dCap : Nat) (ad : Addr) (sLen sCap : Nat) (hd : a.eval d = .slice (some ⟨g, off, none⟩) dLen dCap) (hs : a.eval s = .slice (some ad) sLen sCap)
    (cur : List Value) (t : TypeId) (hg : w.heap[g]? = some (.cells cur.toArray t (0, 0))) (cs : List Value) (n : Nat) (hn : n = Nat.min sLen dLen) (hcl : cs.length = n * size)
    (hsrc : ∀ j v, cs[j]? = some v → w.cell? (ad.add j) = some v) (hfit : off + cs.length ≤ cur.length) (h1 : ∀ v ∈ cs, v.oneCell' = true)
    (h : ∀ w', Hid (w'.heap[g]? = some (.cells (splice cur off cs).toArray t (0, 0))) → Frm w w' [g] → K (a.put o.dst (goInt n)) w') : if Region.wanted o (yielded ops a.tmps) = true then Oper.wp P o a w K Q else E := by
  have hw : Region.wanted o (yielded ops a.tmps) = true := by simp [Region.wanted, hgd]
  rw [if_pos hw]
  have hrun := run_copy_wide (P := P) w dT sT o.type elem size g off dLen dCap ad sLen sCap cur.toArray t cs n hu hsz hg hn hcl hsrc (by simpa using hfit) h1
  unfold Oper.wp
  simp [execOp, ho, resolve, invoke, builtin, hd, hs, hrun, Result.andThen]
  exact h _ (show _ = _ by simpa [splice] using setRow_heap w g _ _ t _ hg) (setRow_frm _ _ _)
end Go.Proofs.YtkmmhlimihkgfaaGreat

/- What two copies make of a row: plain mathematics. -/
namespace Go.Proofs.YtkmmhlimihkgfaaGreat
open Go.RowKit
set_option linter.unusedVariables false

theorem splice_get {α : Type} (L cs : List α) (o j : Nat) (h : o + cs.length ≤ L.length) : (splice L o cs)[j]? = if j < o then L[j]? else if j < o + cs.length then cs[j - o]? else L[j]? := by
  unfold splice
  have hl : (L.take o).length = o := by simp; omega
  by_cases h1 : j < o
  · rw [if_pos h1, List.getElem?_append_left (by omega), List.getElem?_take, if_pos h1]
  · rw [if_neg h1, List.getElem?_append_right (by omega), hl]
    by_cases h2 : j < o + cs.length
    · rw [if_pos h2, List.getElem?_append_left (by omega)]
    · rw [if_neg h2, List.getElem?_append_right (by omega), List.getElem?_drop]
      congr 1
      omega
theorem two_copies {α : Type} (L : List α) (R C Y : List α) (a c y : Nat) (hR : R.length = L.length) (hc : C.length = c) (hy : Y.length = y) (h : a + c + y ≤ L.length)
    (hg : ∀ j, R[j]? = if j < a then L[j]? else if j < a + c then C[j - a]? else if j < a + c + y then Y[j - (a + c)]? else R[j]?) : R.take (a + c + y) = L.take a ++ (C ++ Y) := by
  apply List.ext_getElem?
  intro j
  have hl : (L.take a).length = a := by simp; omega
  rw [List.getElem?_take, List.getElem?_append, hl, List.getElem?_take, List.getElem?_append, hc]
  by_cases h1 : j < a
  · rw [if_pos (by omega), if_pos h1, if_pos h1, hg j, if_pos h1]
  · rw [if_neg h1]
    by_cases h2 : j < a + c
    · rw [if_pos (by omega), if_pos (by omega), hg j, if_neg h1, if_pos h2]
    · rw [if_neg (show ¬ (j - a < c) by omega)]
      by_cases h3 : j < a + c + y
      · rw [if_pos h3, hg j, if_neg h1, if_neg h2, if_pos h3]; congr 1; omega
      · rw [if_neg h3, List.getElem?_eq_none (by omega)]
theorem ins_up {α : Type} (L C Y : List α) (a c y : Nat) (hc : C.length = c) (hy : Y.length = y) (h : a + c + y ≤ L.length) : (splice (splice L (a + c) Y) a C).take (a + c + y) = L.take a ++ (C ++ Y) := by
  have l1 := length_splice L (a + c) Y (by omega)
  refine two_copies L _ C Y a c y (by rw [length_splice _ _ _ (by omega), l1]) hc hy h (fun j => ?_)
  rw [splice_get _ _ _ _ (by omega), splice_get _ _ _ _ (by omega), hc, hy]
  by_cases h1 : j < a
  · simp only [if_pos h1, if_pos (show j < a + c by omega)]
  · by_cases h2 : j < a + c
    · simp only [if_neg h1, if_pos h2]
    · simp only [if_neg h1, if_neg h2]
      split <;> rfl
theorem ins_new {α : Type} (L C Y : List α) (a c y : Nat) (hc : C.length = c) (hy : Y.length = y) (h : a + c + y ≤ L.length) : (splice (splice L a C) (a + c) Y).take (a + c + y) = L.take a ++ (C ++ Y) := by
  have l1 := length_splice L a C (by omega)
  refine two_copies L _ C Y a c y (by rw [length_splice _ _ _ (by omega), l1]) hc hy h (fun j => ?_)
  rw [splice_get _ _ _ _ (by omega), splice_get _ _ _ _ (by omega), hc, hy]
  by_cases h1 : j < a
  · simp only [if_pos h1, if_pos (show j < a + c by omega)]
  · by_cases h2 : j < a + c
    · simp only [if_neg h1, if_pos h2]
    · simp only [if_neg h1, if_neg h2]
      split <;> rfl
end Go.Proofs.YtkmmhlimihkgfaaGreat

/- slices.Insert of one operation into a row of the call's own. -/
namespace Go.Proofs.YtkmmhlimihkgfaaGreat
open Go.RowKit
set_option linter.unusedVariables false
set_option maxRecDepth 100000

def InsAns (w : World) (v : Value) (n : Nat) (ys : List Value) (e : Ending) (w' : World) : Prop :=
  ∃ g cap, e = .returned (.slice (some ⟨g, 0, none⟩) (n + 1) cap) ∧ w'.ownsRow 0 28 12 (.slice (some ⟨g, 0, none⟩) (n + 1) cap) (n + 1) ys ∧ Frm w w' (FB v) ∧ (v.ownBlock = some g ∨ w.heap.size ≤ g) ∧ g < w'.heap.size

theorem loc_cells {w : World} {g : Nat} {C : List Value} {T : TypeId} (h : Loc w g C.toArray T) (j : Nat) (u : Value) (hj : C[j]? = some u) : w.cell? ((⟨g, 0, none⟩ : Addr).add j) = some u := by
  rw [add_plain, Nat.zero_add, h.cell j]
  simpa using hj

set_option maxHeartbeats 6400000 in
theorem ins_end (w : World) (v : Value) (n vb : Nat) (xs C : List Value) (h : w.ownsRow 0 28 12 v n xs) (hC : C.length = 12) (hl : Loc w vb C.toArray 28) (h1 : ∀ u ∈ C, u.oneCell' = true) (hn : n ≤ 100000) :
    Calls Tryz.prog 92 #[v, .int .i64 n, .slice (some ⟨vb, 0, none⟩) 1 1] w (InsAns w v n (xs ++ C)) := by
  obtain ⟨i0, hi, hz0, hz1, hz2⟩ := info_parts Tryz.info28
  have hcell := loc_cells hl
  have H := hide h
  have hsh : v = .slice none 0 0 ∧ n = 0 ∨ ∃ g cap, v = .slice (some ⟨g, 0, none⟩) n cap ∧ n ≤ cap := by
    rcases h.2 with ⟨rfl, rfl⟩ | ⟨g, cap, cur, rfl, _, _, hc, _⟩
    · exact .inl ⟨rfl, rfl⟩
    · exact .inr ⟨g, cap, rfl, hc⟩
  clear h
  rcases hsh with ⟨rfl, rfl⟩ | ⟨g, cap, rfl, hnc⟩
  · go_enter Tryz.func92, Tryz.ntmps92
    go_wp2_with (at_builtin; refine wpList_append_lies w rfl _ _ 23 rfl 0 28 i0 _ 12 144 Tryz.underlying23 hi hz0 hz1 hz2 rfl (by decide) _ 0 xs rfl (unhide H) ⟨vb, 0, none⟩ 1 1 C rfl (by omega) hcell h1 (by omega) (by unfold maxLen; omega) (by omega) (Nat.zero_le _) w.heap.size rfl ?_; intro g cap w' k1 k2 k3 k4)
    go_ret
    exact ⟨g, cap, rfl, k1, Frm.ofGrown k2, k3.imp id (fun e => by omega), k4⟩
  · go_enter Tryz.func92, Tryz.ntmps92
    go_wp2_with (at_builtin; refine wpList_append_lies w rfl _ _ 23 rfl 0 28 i0 _ 12 144 Tryz.underlying23 hi hz0 hz1 hz2 rfl (by decide) _ n xs rfl (unhide H) ⟨vb, 0, none⟩ 1 1 C rfl (by omega) hcell h1 (by omega) (by unfold maxLen; omega) (by omega) (Nat.zero_le _) w.heap.size rfl ?_; intro g' cap' w' k1 k2 k3 k4)
    all_goals (go_ret; exact ⟨g', cap', rfl, k1, Frm.ofGrown k2, k3.imp id (fun e => by omega), k4⟩)

theorem own_whole {w : World} {g n cap : Nat} {xs : List Value} (h : w.ownsRow 0 28 12 (.slice (some ⟨g, 0, none⟩) n cap) n xs) :
    ∃ R : List Value, Loc w g R.toArray 28 ∧ n ≤ cap ∧ cap ≤ maxLen ∧ R.length = cap * 12 ∧ R.take (n * 12) = xs := by
  rcases h.2 with ⟨h, _⟩ | ⟨g', cap', cur, h, _, hg, a, b, c, d⟩
  · cases h
  · cases h
    exact ⟨cur.toList, by simpa [Loc] using hg, a, b, by simpa using c, d⟩
theorem own_make {w : World} {g n cap : Nat} {R xs : List Value} (h : Loc w g R.toArray 28) (a : n ≤ cap) (b : cap ≤ maxLen) (c : R.length = cap * 12) (d : R.take (n * 12) = xs) : w.ownsRow 0 28 12 (.slice (some ⟨g, 0, none⟩) n cap) n xs := by
  refine ⟨?_, .inr ⟨g, cap, R.toArray, rfl, Nat.zero_le _, h, a, b, by simpa using c, by simpa using d⟩⟩
  have : n * 12 ≤ cap * 12 := Nat.mul_le_mul_right _ a
  rw [← d, List.length_take]; omega

set_option maxHeartbeats 8000000 in
theorem ins_grow (w : World) (g n cap i vb : Nat) (xs C : List Value) (h : w.ownsRow 0 28 12 (.slice (some ⟨g, 0, none⟩) n cap) n xs) (hC : C.length = 12) (hl : Loc w vb C.toArray 28) (h1 : ∀ u ∈ C, u.oneCell' = true) (hx1 : ∀ u ∈ xs, u.oneCell' = true) (hn : n ≤ 100000) (hi : i < n) (hroom : cap < n + 1) :
    Calls Tryz.prog 92 #[.slice (some ⟨g, 0, none⟩) n cap, .int .i64 i, .slice (some ⟨vb, 0, none⟩) 1 1] w (InsAns w (.slice (some ⟨g, 0, none⟩) n cap) n (xs.take (i * 12) ++ (C ++ xs.drop (i * 12)))) := by
  obtain ⟨i0, hi0, hz0, hzs, hzb⟩ := info_parts Tryz.info28
  have hsz : (Tryz.prog.info? 28).map (·.size) = some 12 := by rw [hi0]; simp [hzs]
  have hxl := h.1
  obtain ⟨R0, hg, hnc, hcm, hcs, htk⟩ := own_whole h
  have hcells : ∀ j u, xs[j]? = some u → w.cell? ⟨g, j, none⟩ = some u := fun j u hj => by
    rw [hg.cell j]
    rw [← htk, List.getElem?_take] at hj
    split at hj
    · simpa using hj
    · cases hj
  have hin : i * 12 ≤ n * 12 := Nat.mul_le_mul_right _ (by omega)
  have hold : (Builtin.firstCells i0.size i (.slice (some ⟨g, 0, none⟩) i cap)).run Tryz.prog w.drew = .ok (xs.take (i * 12)).toArray w.drew := by
    rw [hzs]
    exact run_firstCells_some w.drew 12 i ⟨g, 0, none⟩ i cap (xs.take (i * 12)) (by rw [List.length_take]; omega) (fun j v hj => by
      rw [add_plain, Nat.zero_add]
      rw [List.getElem?_take] at hj
      split at hj
      · exact hcells j v hj
      · cases hj)
  have hik : i + (n + 1 - i) = n + 1 := by omega
  have hkk : (n : Int) + 1 - (i : Int) = ((n + 1 - i : Nat) : Int) := by omega
  obtain ⟨z, hz⟩ : ∃ z : Value, z = .agg #[.int .i64 0, .int .i64 0, .int .i64 0, .int .i64 0, .int .i64 0, .int .i64 0, .int .i64 0, .slice none 0 0, .int .i64 0, .slice none 0 0, .slice none 0 0, .bool false] := ⟨_, rfl⟩
  have hzc : z.cells.size = 12 := by rw [hz]; rfl
  rw [← hz] at hz0
  obtain ⟨G, hG⟩ : ∃ G, G = grownCap w (n + 1) cap 28 := ⟨_, rfl⟩
  obtain ⟨R, hR⟩ : ∃ R : List Value, R = ((xs.take (i * 12)).toArray ++ Builtin.zeroCells z.cells (n + 1 - i) ++ Builtin.zeroCells z.cells (G - (n + 1))).toList := ⟨_, rfl⟩
  have hrz : ∀ ty, (Builtin.append_ #[23, 3] ty #[.slice (some ⟨g, 0, none⟩) i cap, .int .i64 ((n : Int) + 1 - (i : Int))]).run Tryz.prog w = .ok (.slice (some ⟨w.heap.size, 0, none⟩) (n + 1) G) (w.drew.alloc (.cells R.toArray 28)) := by
    intro ty
    have h := Lib.run_append_grow_zeros w 23 3 ty 28 i0 z .i64 .i64 Tryz.underlying23 Tryz.underlying3 hi0 hz0 (some ⟨g, 0, none⟩) i cap (xs.take (i * 12)) hold (n + 1 - i) (by omega) (by omega) (by omega) (by omega) (by rw [hzb]; omega) (by rw [hzb, hik]; exact growslice_fits hroom (by omega))
    rw [hik, ← hG] at h
    rw [hkk, hR, Array.toArray_toList]
    exact h
  have hGn : n + 1 ≤ G := by rw [hG]; exact grownCap_ge w _ _ _
  have hGm : G ≤ maxLen := by rw [hG]; exact grownCap_le_maxLen w (n + 1) cap 28 (by unfold maxLen; omega)
  have hRl : R.length = G * 12 := by
    rw [hR]
    simp [Builtin.zeroCells, hzc, List.length_take]
    omega
  have hRt : R.take (i * 12) = xs.take (i * 12) := by
    rw [hR]
    simp [List.take_append, List.length_take]
    have e : i * 12 - min (i * 12) xs.length = 0 := by omega
    rw [e]
    simp [List.take_take]
  have hdl : (xs.drop (i * 12)).length = (n - i) * 12 := by rw [List.length_drop]; omega
  have hGi : ¬ (G = i) := by omega
  have hGim : ¬ (G = i + 1) := by omega
  have hci : ¬ (cap = i) := by omega
  have hG63 : G ≤ 9223372036854775807 := by unfold maxLen at hGm; omega
  have hW1 : ((w.alloc (.cells R.toArray 28)).drew).heap[w.heap.size]? = some (.cells R.toArray 28 (0, 0)) := heap_alloc_new w _
  have hlv : Loc (w.alloc (.cells R.toArray 28)).drew vb C.toArray 28 := hl.alloc _
  have hgo : Loc (w.alloc (.cells R.toArray 28)).drew g R0.toArray 28 := hg.alloc _
  have hfa : Frm w (w.alloc (.cells R.toArray 28)).drew [] := ⟨rfl, rfl, rfl, by simp [World.drew], fun k hk _ => heap_alloc_old w _ hk⟩
  have hglt := hg.lt
  have hvlt := hl.lt
  clear hold hkk hik hR hG h hcells
  go_enter Tryz.func92, Tryz.ntmps92
  go_wp2_with (first
    | (at_builtin; refine Lib.wpList_append_run _ rfl _ _ _ _ rfl _ _ rfl rfl _ _ (hrz _) ?_)
    | (refine wpList_copyw rfl _ _ 23 23 rfl 28 12 Tryz.underlying23 hsz w.heap.size (i * 12) (n + 1 - i) (G - i) ⟨vb, 0, none⟩ 1 1 ?_ ?_ R 28 ?_ C 1 (by simp only [Nat.min_def]; split <;> omega) (by omega) ?_ (by omega) h1 ?_; rfl; rfl; exact hW1; exact loc_cells hlv; intro w2 hg2 hf2))
  have hg2' := unhide hg2
  have hgo2 := hgo.frm hf2 (by simp; omega)
  have hcells2 : ∀ j u, (xs.drop (i * 12))[j]? = some u → w2.cell? ((⟨g, i * 12, none⟩ : Addr).add j) = some u := fun j u hj => by
    rw [add_plain, hgo2.cell]
    rw [List.getElem?_drop, ← htk, List.getElem?_take] at hj
    split at hj
    · simpa using hj
    · cases hj
  have hsl : (splice R (i * 12) C).length = G * 12 := by rw [length_splice _ _ _ (by omega)]; exact hRl
  have hd1 : ∀ u ∈ xs.drop (i * 12), u.oneCell' = true := fun u hu => hx1 u (List.mem_of_mem_drop hu)
  have HM := hide (show n - i = Nat.min (n - i) (n - i) by simp only [Nat.min_def]; split <;> omega)
  have hb1 : (0 : Int) ≤ (i : Int) + 1 := by omega
  have hin' : i ≤ n := by omega
  have hb3 : (i : Int) ≤ (n : Int) := by omega
  have hgd : w2.drew.heap[w.heap.size]? = some (.cells (splice R (i * 12) C).toArray 28 (0, 0)) := hg2'
  have hcd : ∀ j u, (xs.drop (i * 12))[j]? = some u → w2.drew.cell? ((⟨g, i * 12, none⟩ : Addr).add j) = some u := hcells2
  have hw1 : IntKind.i64.wrap ((i : Int) + 1) = (i : Int) + 1 := by rw [IntKind.wrap_i64]; omega
  have htn : ((i : Int) + 1).toNat = i + 1 := by omega
  clear hrz hW1 hlv
  go_region_law (refine step_copyw rfl _ _ 23 23 rfl 28 12 Tryz.underlying23 hsz w.heap.size ((i + 1) * 12) (n - i) (G - (i + 1)) ⟨g, i * 12, none⟩ (n - i) (cap - i) (by simp [Act.eval, Act.put]) (by simp [Act.eval, Act.put]) (splice R (i * 12) C) 28 hgd (xs.drop (i * 12)) (n - i) (unhide HM) hdl hcd (by omega) hd1 ?_; intro w3 hg3 hf3)
  go_wp2
  go_ret
  have hfin := ins_new R C (xs.drop (i * 12)) (i * 12) 12 ((n - i) * 12) hC hdl (by omega)
  rw [hRt] at hfin
  have hg3' : Loc w3 w.heap.size (splice (splice R (i * 12) C) (i * 12 + 12) (xs.drop (i * 12))).toArray 28 := by
    have := unhide hg3
    rw [show (i + 1) * 12 = i * 12 + 12 by omega] at this
    exact this
  refine ⟨w.heap.size, G, rfl, own_make hg3' hGn hGm (by rw [length_splice _ _ _ (by omega)]; exact hsl) ?_, ?_, .inr (Nat.le_refl _), hg3'.lt⟩
  · rw [← hfin]; congr 1; omega
  · have f2 : Frm w w2 [] := hfa.new hf2 (fun q hq => by simp at hq; omega)
    have f3 : Frm w w3 [] := f2.new (⟨hf3.os, hf3.tape, hf3.output, hf3.size, hf3.block⟩ : Frm w2 w3 [w.heap.size]) (fun q hq => by simp at hq; omega)
    exact f3.mono (fun q hq => by simp at hq)

theorem loc_shape {w : World} {g : Nat} {C : List Value} {T : TypeId} (h : Loc w g C.toArray T) : w.shape? g = some (T, C.length) := by
  unfold Loc at h
  simp [World.shape?, h]

set_option maxHeartbeats 8000000 in
theorem ins_shift (w : World) (g n cap i vb : Nat) (xs C : List Value) (h : w.ownsRow 0 28 12 (.slice (some ⟨g, 0, none⟩) n cap) n xs) (hC : C.length = 12) (hl : Loc w vb C.toArray 28) (h1 : ∀ u ∈ C, u.oneCell' = true) (hx1 : ∀ u ∈ xs, u.oneCell' = true) (hn : n ≤ 100000) (hi : i < n) (hroom : n + 1 ≤ cap) (hvb : vb ≠ g) :
    Calls Tryz.prog 92 #[.slice (some ⟨g, 0, none⟩) n cap, .int .i64 i, .slice (some ⟨vb, 0, none⟩) 1 1] w (InsAns w (.slice (some ⟨g, 0, none⟩) n cap) n (xs.take (i * 12) ++ (C ++ xs.drop (i * 12)))) := by
  obtain ⟨i0, hi0, hz0, hzs, hzb⟩ := info_parts Tryz.info28
  have hsz : (Tryz.prog.info? 28).map (·.size) = some 12 := by rw [hi0]; simp [hzs]
  have hsz' : ∀ w, (sizeOf 28).run Tryz.prog w = .ok 12 w := fun w => by simp [sizeOf, typeInfo, hi0, hzs]
  have hxl := h.1
  obtain ⟨R0, hg, hnc, hcm, hcs, htk⟩ := own_whole h
  have hov : ∀ lb cb, (callFunc 126 #[.slice (some ⟨vb, 0, none⟩) 1 1, .slice (some ⟨g, (i + 1) * 12, none⟩) lb cb]).run Tryz.prog w = .ok (.value (.bool false)) w := fun lb cb => by
    rw [run_callFunc_extern Tryz.func126 (by kernel_rfl) (by kernel_rfl) (by kernel_rfl) (e := Extern.SlicesOverlaps.overlaps #[23, 23] #[4]) (by kernel_rfl),
      Lib.run_overlaps_apart w 23 4 28 Tryz.underlying23 12 hsz' ⟨vb, 0, none⟩ ⟨g, (i + 1) * 12, none⟩ 1 1 lb cb hvb _ _ _ _ (loc_shape hl) (loc_shape hg) (by rw [hcs]; omega) (hl.frozen 0) (hl.frozen _)]
    rfl
  have hin : i * 12 ≤ n * 12 := Nat.mul_le_mul_right _ (by omega)
  have hRt : R0.take (i * 12) = xs.take (i * 12) := by rw [← htk, List.take_take, Nat.min_eq_left (by omega)]
  have hdl : (xs.drop (i * 12)).length = (n - i) * 12 := by rw [List.length_drop]; omega
  have hd1 : ∀ u ∈ xs.drop (i * 12), u.oneCell' = true := fun u hu => hx1 u (List.mem_of_mem_drop hu)
  have hcells : ∀ j u, (xs.drop (i * 12))[j]? = some u → w.drew.cell? ((⟨g, i * 12, none⟩ : Addr).add j) = some u := fun j u hj => by
    have : w.cell? ((⟨g, i * 12, none⟩ : Addr).add j) = some u := by
      rw [add_plain, hg.cell]
      rw [List.getElem?_drop, ← htk, List.getElem?_take] at hj
      split at hj
      · simpa using hj
      · cases hj
    exact this
  have hgd : w.drew.heap[g]? = some (.cells R0.toArray 28 (0, 0)) := hg
  have hfd : Frm w w.drew [] := ⟨rfl, rfl, rfl, Nat.le_refl _, fun _ _ _ => rfl⟩
  have hld : Loc w.drew vb C.toArray 28 := hl
  have HM := hide (show n - i = Nat.min (n + 1 - i) (n - i) by simp only [Nat.min_def]; split <;> omega)
  have HM2 := hide (show 1 = Nat.min 1 (n + 1 - i) by simp only [Nat.min_def]; split <;> omega)
  have hw1 : IntKind.i64.wrap ((i : Int) + 1) = (i : Int) + 1 := by rw [IntKind.wrap_i64]; omega
  have htn : ((i : Int) + 1).toNat = i + 1 := by omega
  have hb1 : (0 : Int) ≤ (i : Int) + 1 := by omega
  have hin' : i ≤ n := by omega
  have hb3 : (i : Int) ≤ (n : Int) := by omega
  have hb2 : ¬ (cap = i + 1) := by omega
  have hb4 : ¬ (cap = i) := by omega
  have hb5 : (i : Int) ≤ (n : Int) + 1 := by omega
  have hc63 : cap ≤ 9223372036854775807 := by unfold maxLen at hcm; omega
  have hlen := length_splice R0 ((i + 1) * 12) (xs.drop (i * 12)) (by omega)
  clear h
  go_enter Tryz.func92, Tryz.ntmps92
  go_wp2_with (simp only [hov])
  go_region_law (refine step_copyw rfl _ _ 23 23 rfl 28 12 Tryz.underlying23 hsz g ((i + 1) * 12) (n - i) (cap - (i + 1)) ⟨g, i * 12, none⟩ (n + 1 - i) (cap - i) (by simp [Act.eval, Act.put]) (by simp [Act.eval, Act.put]) R0 28 hgd (xs.drop (i * 12)) (n - i) (unhide HM) hdl hcells (by omega) hd1 ?_; intro w3 hg3 hf3)
  have hg3' := unhide hg3
  have hl3 : Loc w3 vb C.toArray 28 := hld.frm hf3 (by simpa using hvb)
  go_wp2_with (refine wpList_copyw rfl _ _ 23 23 rfl 28 12 Tryz.underlying23 hsz g (i * 12) (n + 1 - i) (cap - i) ⟨vb, 0, none⟩ 1 1 ?_ ?_ (splice R0 ((i + 1) * 12) (xs.drop (i * 12))) 28 ?_ C 1 (unhide HM2) (by omega) ?_ (by omega) h1 ?_; rfl; rfl; exact hg3'; exact loc_cells hl3; intro w4 hg4 hf4)
  go_ret
  have hfin := ins_up R0 C (xs.drop (i * 12)) (i * 12) 12 ((n - i) * 12) hC hdl (by omega)
  rw [hRt] at hfin
  have hg4' : Loc w4 g (splice (splice R0 (i * 12 + 12) (xs.drop (i * 12))) (i * 12) C).toArray 28 := by
    have := unhide hg4
    rw [show (i + 1) * 12 = i * 12 + 12 by omega] at this
    exact this
  refine ⟨g, cap, rfl, own_make hg4' hroom hcm ?_ ?_, ?_, .inl rfl, hg4'.lt⟩
  · rw [show (i + 1) * 12 = i * 12 + 12 by omega] at hlen
    rw [length_splice _ _ _ (by omega), hlen]; exact hcs
  · rw [← hfin]; congr 1; omega
  · exact ((hfd.mono (fun q hq => by simp at hq)).trans hf3).trans hf4
end Go.Proofs.YtkmmhlimihkgfaaGreat

/- Rows of operations of a call's own: one more put in between, one put in another's place. -/
namespace Go.Proofs.YtkmmhlimihkgfaaGreat
open Go.RowKit
set_option linter.unusedVariables false
set_option maxRecDepth 100000

theorem flat_takeI (size : Nat) : ∀ (Cs : List (List Value)) (i : Nat), (∀ k, k < Cs.length → (Cs.getD k []).length = size) → i ≤ Cs.length → (Cs.take i).flatten = Cs.flatten.take (i * size) ∧ (Cs.drop i).flatten = Cs.flatten.drop (i * size)
  | Cs, 0, _, _ => by simp
  | [], i + 1, _, h => by simp at h
  | C :: Cs, i + 1, hl, h => by
    have h0 : C.length = size := by simpa using hl 0 (by simp)
    obtain ⟨a, b⟩ := flat_takeI size Cs i (fun k hk => by simpa using hl (k + 1) (by simpa using hk)) (by simpa using h)
    have e : (i + 1) * size = C.length + i * size := by rw [h0, Nat.succ_mul]; omega
    constructor
    · rw [List.take_succ_cons, List.flatten_cons, List.flatten_cons, e, List.take_length_add_append, a]
    · rw [List.drop_succ_cons, List.flatten_cons, e, List.drop_length_add_append, b]
theorem getD_ins {α : Type} (l : List (List α)) (x : List α) (i k : Nat) (hi : i ≤ l.length) : (l.take i ++ (x :: l.drop i)).getD k [] = if k < i then l.getD k [] else if k = i then x else l.getD (k - 1) [] := by
  have hl : (l.take i).length = i := by simp; omega
  rw [List.getD_eq_getElem?_getD, List.getElem?_append, hl]
  by_cases h1 : k < i
  · rw [if_pos h1, if_pos h1, List.getElem?_take, if_pos h1, List.getD_eq_getElem?_getD]
  · rw [if_neg h1, if_neg h1]
    by_cases h2 : k = i
    · subst h2; simp
    · rw [if_neg h2, show k - i = (k - i - 1) + 1 by omega, List.getElem?_cons_succ, List.getElem?_drop, List.getD_eq_getElem?_getD]
      congr 2
      omega
theorem get_ins {α : Type} (l : List α) (x : α) (i k : Nat) (hi : i ≤ l.length) (hk : k < (l.take i ++ (x :: l.drop i)).length) : (∃ h : k < l.length, k < i ∧ (l.take i ++ (x :: l.drop i))[k] = l[k]) ∨ (k = i ∧ (l.take i ++ (x :: l.drop i))[k] = x) ∨ (∃ h : k - 1 < l.length, i < k ∧ (l.take i ++ (x :: l.drop i))[k] = l[k - 1]) := by
  have hl : (l.take i).length = i := by simp; omega
  have hk' : k < l.length + 1 := by simp at hk; omega
  by_cases h1 : k < i
  · refine .inl ⟨by omega, h1, ?_⟩
    rw [List.getElem_append_left (by omega), List.getElem_take]
  · by_cases h2 : k = i
    · subst h2
      refine .inr (.inl ⟨rfl, ?_⟩)
      rw [List.getElem_append_right (by omega)]
      simp [hl]
    · refine .inr (.inr ⟨by omega, by omega, ?_⟩)
      have : (l.take i ++ (x :: l.drop i))[k]? = l[k - 1]? := by
        rw [List.getElem?_append_right (by omega), hl, show k - i = (k - i - 1) + 1 by omega, List.getElem?_cons_succ, List.getElem?_drop]
        congr 1
        omega
      rw [List.getElem?_eq_getElem hk, List.getElem?_eq_getElem (by omega)] at this
      exact Option.some.inj this
theorem flat_ins_mem {Fs : List (List Nat)} {G : List Nat} {i q : Nat} : q ∈ (Fs.take i ++ (G :: Fs.drop i)).flatten ↔ q ∈ Fs.flatten ∨ q ∈ G := by
  have e : Fs.flatten = (Fs.take i).flatten ++ (Fs.drop i).flatten := by rw [← List.flatten_append, List.take_append_drop]
  rw [List.flatten_append, List.flatten_cons, e]
  simp only [List.mem_append]
  constructor
  · rintro (h | h | h)
    · exact .inl (.inl h)
    · exact .inr h
    · exact .inl (.inr h)
  · rintro ((h | h) | h)
    · exact .inl h
    · exact .inr (.inr h)
    · exact .inr (.inl h)
theorem flat_ins_nodup {Fs : List (List Nat)} {G : List Nat} {i : Nat} (h : Fs.flatten.Nodup) (hG : G.Nodup) (hd : ∀ q ∈ Fs.flatten, q ∉ G) : (Fs.take i ++ (G :: Fs.drop i)).flatten.Nodup := by
  have e : Fs.flatten = (Fs.take i).flatten ++ (Fs.drop i).flatten := by rw [← List.flatten_append, List.take_append_drop]
  rw [e] at h hd
  have h' := List.nodup_append.1 h
  rw [List.flatten_append, List.flatten_cons]
  refine List.nodup_append.2 ⟨h'.1, List.nodup_append.2 ⟨hG, h'.2.1, fun a ha b hb e => hd b (List.mem_append_right _ hb) (e ▸ ha)⟩, fun a ha b hb e => ?_⟩
  rcases List.mem_append.1 hb with hb | hb
  · exact hd a (List.mem_append_left _ ha) (e ▸ hb)
  · exact h'.2.2 a ha b hb e
theorem OwOps.ltI {w : World} {v : Value} {l : List OpV} {F : List Nat} (h : OwOps w v l F) : ∀ q ∈ F, q < w.heap.size := by
  obtain ⟨Cs, Fs, e1, e2, e3, e4, rfl⟩ := h
  intro q hq
  rcases List.mem_append.1 hq with hq | hq
  · exact (e4.lt q (by simpa [FB] using hq)).2
  · obtain ⟨F, hF, hq⟩ := List.mem_flatten.1 hq
    obtain ⟨i, hi, rfl⟩ := List.getElem_of_mem hF
    obtain ⟨k, n, t, _, a, b, c, e⟩ := (e3 i (by omega)).2
    have e' : Fs.getD i [] = Fs[i] := by simp [List.getD_eq_getElem?_getD, hi]
    rw [e'] at e
    rw [e] at hq
    simp only [List.mem_append] at hq
    rcases hq with (hq | hq) | hq
    · exact (a.rng q hq).2
    · exact (b.rng q hq).2
    · exact (c.rng q hq).2
theorem owc_one {w : World} {C : List Value} {o : OpV} {F : List Nat} (h : OwOpC w C o F) : ∀ u ∈ C, u.oneCell' = true := by
  obtain ⟨k, n, t, e, h1, h2, h3, _⟩ := h
  exact opc_one ⟨k, n, t, e, h1.ints, h2.byt, h3.byt⟩
theorem owc_len {w : World} {C : List Value} {o : OpV} {F : List Nat} (h : OwOpC w C o F) : C.length = 12 := by
  obtain ⟨k, n, t, rfl, _⟩ := h; rfl

/-- slices.Insert of an operation that owns its rows into a row of the call's own. -/
theorem insO_any (w : World) (v : Value) (l : List OpV) (F : List Nat) (i vb : Nat) (C : List Value) (o : OpV) (G : List Nat) (h : OwOps w v l F) (hN : F.Nodup) (hi : i ≤ l.length) (hn : l.length ≤ 100000)
    (hl : Loc w vb C.toArray 28) (ho : OwOpC w C o G) (hG : G.Nodup) (hFG : ∀ q ∈ F, q ∉ G) (hvF : vb ∉ F) :
    Calls Tryz.prog 92 #[v, .int .i64 i, .slice (some ⟨vb, 0, none⟩) 1 1] w fun e w' => ∃ u F', e = .returned u ∧ OwOps w' u (l.take i ++ (o :: l.drop i)) F' ∧ F'.Nodup ∧ (∀ q ∈ F', q ∈ F ∨ q ∈ G ∨ (w.heap.size ≤ q ∧ q < w'.heap.size)) ∧ Frm w w' (FB v) := by
  have hlt := h.ltI
  have hR := h.rd
  obtain ⟨Cs, Fs, e1, e2, e3, e4, rfl⟩ := h
  have hC : ∀ k, k < Cs.length → (Cs.getD k []).length = 12 := fun k hk => (e3 k (by omega)).1
  have hx1 : ∀ u ∈ Cs.flatten, u.oneCell' = true := by
    intro u hu
    obtain ⟨D, hD, hu⟩ := List.mem_flatten.1 hu
    obtain ⟨k, hk, rfl⟩ := List.getElem_of_mem hD
    have e' : Cs.getD k [] = Cs[k] := by simp [List.getD_eq_getElem?_getD, hk]
    have := (e3 k (by omega)).2
    rw [e'] at this
    exact owc_one this u hu
  have hmain : Calls Tryz.prog 92 #[v, .int .i64 i, .slice (some ⟨vb, 0, none⟩) 1 1] w (InsAns w v l.length (Cs.flatten.take (i * 12) ++ (C ++ Cs.flatten.drop (i * 12)))) := by
    by_cases hin : i = l.length
    · have e : i * 12 = Cs.flatten.length := by rw [e4.1, hin]
      rw [e, List.take_length, List.drop_length, List.append_nil, hin]
      exact ins_end w v l.length vb _ C e4 (owc_len ho) hl (owc_one ho) hn
    · rcases e4.2 with ⟨rfl, h0⟩ | ⟨g, cap, cur, rfl, _, hg, hnc, _⟩
      · omega
      · by_cases hroom : cap < l.length + 1
        · exact ins_grow w g l.length cap i vb _ C e4 (owc_len ho) hl (owc_one ho) hx1 hn (by omega) hroom
        · exact ins_shift w g l.length cap i vb _ C e4 (owc_len ho) hl (owc_one ho) hx1 hn (by omega) (by omega) (fun e => hvF (List.mem_append_left _ (by simp [FB, Value.ownBlock, e])))
  refine hmain.mono ?_
  rintro e w' ⟨g, cap, rfl, k1, k2, k3, k4⟩
  have hFd : ∀ q ∈ Fs.flatten, q ∉ FB v := fun q hq hv => (List.nodup_append.1 hN).2.2 q hv q hq rfl
  have hGd : ∀ q ∈ G, q ∉ FB v := fun q hq hv => hFG q (List.mem_append_left _ hv) hq
  obtain ⟨t1, t2⟩ := flat_takeI 12 Cs i hC (by omega)
  refine ⟨_, FB (.slice (some ⟨g, 0, none⟩) (l.length + 1) cap) ++ (Fs.take i ++ (G :: Fs.drop i)).flatten, rfl, ⟨Cs.take i ++ (C :: Cs.drop i), Fs.take i ++ (G :: Fs.drop i), by simp; omega, by simp; omega, fun k hk => ?_, ?_, ?_⟩, ?_, ?_, k2⟩
  · rw [getD_ins Cs C i k (by omega), getD_ins Fs G i k (by omega)]
    rcases get_ins l o i k hi hk with ⟨h, hlt', e⟩ | ⟨rfl, e⟩ | ⟨h, hlt', e⟩
    · rw [e, if_pos hlt', if_pos hlt']
      exact ⟨(e3 k h).1, (e3 k h).2.frm k2 (fun q hq => hFd q (mem_flat hq))⟩
    · rw [e, if_neg (Nat.lt_irrefl _), if_pos rfl, if_neg (Nat.lt_irrefl _), if_pos rfl]
      exact ⟨owc_len ho, ho.frm k2 hGd⟩
    · rw [e, if_neg (by omega), if_neg (by omega), if_neg (by omega), if_neg (by omega)]
      exact ⟨(e3 _ h).1, (e3 _ h).2.frm k2 (fun q hq => hFd q (mem_flat hq))⟩
  · have e : (l.take i ++ (o :: l.drop i)).length = l.length + 1 := by simp; omega
    rw [e, List.flatten_append, List.flatten_cons, t1, t2]
    exact k1
  · have e : (l.take i ++ (o :: l.drop i)).length = l.length + 1 := by simp; omega
    rfl
  · refine List.nodup_append.2 ⟨FB_nodup _, flat_ins_nodup (List.nodup_append.1 hN).2.1 hG (fun q hq => hFG q (List.mem_append_right _ hq)), fun a ha b hb e => ?_⟩
    have ea : a = g := by simpa [FB, Value.ownBlock] using ha
    subst e
    subst ea
    rcases flat_ins_mem.1 hb with hb | hb
    · rcases k3 with k3 | k3
      · exact hFd a hb (by simp [FB, k3])
      · have := hlt a (List.mem_append_right _ hb); omega
    · rcases k3 with k3 | k3
      · exact hGd a hb (by simp [FB, k3])
      · obtain ⟨kk, nn, tt, _, a1, a2, a3, rfl⟩ := ho
        simp only [List.mem_append] at hb
        have : a < w.heap.size := by
          rcases hb with (hb | hb) | hb
          · exact (a1.rng a hb).2
          · exact (a2.rng a hb).2
          · exact (a3.rng a hb).2
        omega
  · intro q hq
    rcases List.mem_append.1 hq with hq | hq
    · have eq : q = g := by simpa [FB, Value.ownBlock] using hq
      subst eq
      rcases k3 with k3 | k3
      · exact .inl (List.mem_append_left _ (by simp [FB, k3]))
      · exact .inr (.inr ⟨k3, k4⟩)
    · rcases flat_ins_mem.1 hq with hq | hq
      · exact .inl (List.mem_append_right _ hq)
      · exact .inr (.inl hq)
end Go.Proofs.YtkmmhlimihkgfaaGreat

/- An operation that owns its rows in another's place, in a row of the call's own. -/
namespace Go.Proofs.YtkmmhlimihkgfaaGreat
open Go.RowKit
set_option linter.unusedVariables false
set_option maxRecDepth 100000

theorem flat_set_mem {Fs : List (List Nat)} {G : List Nat} {i q : Nat} (h : q ∈ (Fs.set i G).flatten) : q ∈ Fs.flatten ∨ q ∈ G := by
  obtain ⟨F, hF, hq⟩ := List.mem_flatten.1 h
  rcases List.mem_or_eq_of_mem_set hF with hF | rfl
  · exact .inl (List.mem_flatten.2 ⟨F, hF, hq⟩)
  · exact .inr hq
theorem flat_set_nodup : ∀ {Fs : List (List Nat)} {G : List Nat} {i : Nat}, Fs.flatten.Nodup → G.Nodup → (∀ q ∈ Fs.flatten, q ∉ G) → (Fs.set i G).flatten.Nodup
  | [], _, _, _, _, _ => by simp
  | F :: Fs, G, 0, h, hG, hd => by
    rw [List.flatten_cons] at h hd
    have h' := List.nodup_append.1 h
    rw [List.set_cons_zero, List.flatten_cons]
    exact List.nodup_append.2 ⟨hG, h'.2.1, fun a ha b hb e => hd b (List.mem_append_right _ hb) (e ▸ ha)⟩
  | F :: Fs, G, i + 1, h, hG, hd => by
    rw [List.flatten_cons] at h hd
    have h' := List.nodup_append.1 h
    rw [List.set_cons_succ, List.flatten_cons]
    refine List.nodup_append.2 ⟨h'.1, flat_set_nodup h'.2.1 hG (fun q hq => hd q (List.mem_append_right _ hq)), fun a ha b hb e => ?_⟩
    rcases flat_set_mem hb with hb | hb
    · exact h'.2.2 a ha b hb e
    · exact hd a (List.mem_append_left _ ha) (e ▸ hb)

set_option maxHeartbeats 3200000 in
theorem OwOps.setAt {w : World} {g cap : Nat} {l : List OpV} {F : List Nat} (h : OwOps w (.slice (some ⟨g, 0, none⟩) l.length cap) l F) (hN : F.Nodup) (i : Nat) (hi : i < l.length) (v0 v1 v2 v3 v4 v5 v6 v7 v8 v9 v10 v11 : Value) (o : OpV) (G : List Nat) (ho : OwOpC w [v0, v1, v2, v3, v4, v5, v6, v7, v8, v9, v10, v11] o G) (hG : G.Nodup) (hFG : ∀ q ∈ F, q ∉ G) :
    ∃ F', OwOps ((((((((((((w.setCell ⟨g, i * 12, none⟩ v0).setCell ⟨g, i * 12 + 1, none⟩ v1).setCell ⟨g, i * 12 + 2, none⟩ v2).setCell ⟨g, i * 12 + 3, none⟩ v3).setCell ⟨g, i * 12 + 4, none⟩ v4).setCell ⟨g, i * 12 + 5, none⟩ v5).setCell ⟨g, i * 12 + 6, none⟩ v6).setCell ⟨g, i * 12 + 7, none⟩ v7).setCell ⟨g, i * 12 + 8, none⟩ v8).setCell ⟨g, i * 12 + 9, none⟩ v9).setCell ⟨g, i * 12 + 10, none⟩ v10).setCell ⟨g, i * 12 + 11, none⟩ v11) (.slice (some ⟨g, 0, none⟩) l.length cap) (l.set i o) F' ∧ F'.Nodup ∧ (∀ q ∈ F', q ∈ F ∨ q ∈ G) ∧ Frm w ((((((((((((w.setCell ⟨g, i * 12, none⟩ v0).setCell ⟨g, i * 12 + 1, none⟩ v1).setCell ⟨g, i * 12 + 2, none⟩ v2).setCell ⟨g, i * 12 + 3, none⟩ v3).setCell ⟨g, i * 12 + 4, none⟩ v4).setCell ⟨g, i * 12 + 5, none⟩ v5).setCell ⟨g, i * 12 + 6, none⟩ v6).setCell ⟨g, i * 12 + 7, none⟩ v7).setCell ⟨g, i * 12 + 8, none⟩ v8).setCell ⟨g, i * 12 + 9, none⟩ v9).setCell ⟨g, i * 12 + 10, none⟩ v10).setCell ⟨g, i * 12 + 11, none⟩ v11) [g] := by
  have hlt := h.ltI
  obtain ⟨Cs, Fs, e1, e2, e3, e4, rfl⟩ := h
  have hC : ∀ k, k < Cs.length → (Cs.getD k []).length = 12 := fun k hk => (e3 k (by omega)).1
  have R0 := RowJ.start e1 hC i hi e4
  obtain ⟨kv, nv, tv, eD, _⟩ := (e3 i hi).2
  rw [eD] at R0
  have R1 := ((((((((((((R0.put 0 (by omega) v0).put 1 (by omega) v1).put 2 (by omega) v2).put 3 (by omega) v3).put 4 (by omega) v4).put 5 (by omega) v5).put 6 (by omega) v6).put 7 (by omega) v7).put 8 (by omega) v8).put 9 (by omega) v9).put 10 (by omega) v10).put 11 (by omega) v11)
  simp only [Nat.add_zero, List.set_cons_zero, List.set_cons_succ] at R1
  have f : Frm w ((((((((((((w.setCell ⟨g, i * 12, none⟩ v0).setCell ⟨g, i * 12 + 1, none⟩ v1).setCell ⟨g, i * 12 + 2, none⟩ v2).setCell ⟨g, i * 12 + 3, none⟩ v3).setCell ⟨g, i * 12 + 4, none⟩ v4).setCell ⟨g, i * 12 + 5, none⟩ v5).setCell ⟨g, i * 12 + 6, none⟩ v6).setCell ⟨g, i * 12 + 7, none⟩ v7).setCell ⟨g, i * 12 + 8, none⟩ v8).setCell ⟨g, i * 12 + 9, none⟩ v9).setCell ⟨g, i * 12 + 10, none⟩ v10).setCell ⟨g, i * 12 + 11, none⟩ v11) [g] := ((((((((((((set_frm w g (i * 12) v0).trans (set_frm _ g (i * 12 + 1) v1)).trans (set_frm _ g (i * 12 + 2) v2)).trans (set_frm _ g (i * 12 + 3) v3)).trans (set_frm _ g (i * 12 + 4) v4)).trans (set_frm _ g (i * 12 + 5) v5)).trans (set_frm _ g (i * 12 + 6) v6)).trans (set_frm _ g (i * 12 + 7) v7)).trans (set_frm _ g (i * 12 + 8) v8)).trans (set_frm _ g (i * 12 + 9) v9)).trans (set_frm _ g (i * 12 + 10) v10)).trans (set_frm _ g (i * 12 + 11) v11))
  have hgF : g ∉ Fs.flatten := fun hq => (List.nodup_append.1 hN).2.2 g (by simp [FB, Value.ownBlock]) g hq rfl
  have hgG : g ∉ G := hFG g (List.mem_append_left _ (by simp [FB, Value.ownBlock]))
  refine ⟨FB (.slice (some ⟨g, 0, none⟩) l.length cap) ++ (Fs.set i G).flatten, ⟨Cs.set i [v0, v1, v2, v3, v4, v5, v6, v7, v8, v9, v10, v11], Fs.set i G, by simp [e1], by simp [e2], fun k hk => ?_, ?_, rfl⟩, ?_, ?_, f⟩
  · have hk' : k < l.length := by simpa using hk
    by_cases e : k = i
    · subst e
      rw [getD_set_at _ _ _ (by omega), getD_set_at _ _ _ (by omega), List.getElem_set_self]
      exact ⟨rfl, ho.frm f (fun q hq hq' => by simp at hq'; subst hq'; exact hgG hq)⟩
    · rw [getD_set_ne _ _ _ _ e, getD_set_ne _ _ _ _ e, List.getElem_set_ne (Ne.symm e)]
      exact ⟨(e3 k hk').1, (e3 k hk').2.frm f (fun q hq hq' => by simp at hq'; subst hq'; exact hgF (mem_flat hq))⟩
  · rw [List.length_set]
    exact R1.row
  · refine List.nodup_append.2 ⟨FB_nodup _, flat_set_nodup (List.nodup_append.1 hN).2.1 hG (fun q hq => hFG q (List.mem_append_right _ hq)), fun a ha b hb e => ?_⟩
    have ea : a = g := by simpa [FB, Value.ownBlock] using ha
    subst e
    subst ea
    rcases flat_set_mem hb with hb | hb
    · exact hgF hb
    · exact hgG hb
  · intro q hq
    rcases List.mem_append.1 hq with hq | hq
    · exact .inl (List.mem_append_left _ hq)
    · rcases flat_set_mem hq with hq | hq
      · exact .inl (List.mem_append_right _ hq)
      · exact .inr hq
end Go.Proofs.YtkmmhlimihkgfaaGreat

/- impl.opLess, impl.putInto. -/
namespace Go.Proofs.YtkmmhlimihkgfaaGreat
open Go.RowKit
set_option linter.unusedVariables false
set_option maxRecDepth 100000

theorem there_lt {l : List OpV} {n r : Int} (h : there l n r = true) : posO l n r < l.length := by
  unfold there at h
  split at h
  · assumption
  · cases h
theorem obV_of {o : OpV} (h : opB o = true) : obV o = opBytes o := by unfold obV; rw [if_pos h]
theorem OwOp.cells {w : World} {base : Nat} {o : OpV} {k n t : Value} (h : OwOp w base o k n t) : OwOpC w [.int .i64 o.kind, .int .i64 o.atN, .int .i64 o.atR, .int .i64 o.nodeN, .int .i64 o.nodeR, .int .i64 o.parN, .int .i64 o.parR, k, .int .i64 o.elem, n, t, .bool o.gone] o (FB k ++ FB n ++ FB t) :=
  ⟨k, n, t, rfl, h.1.mono (Nat.zero_le _), h.2.1.mono (Nat.zero_le _), h.2.2.1.mono (Nat.zero_le _), rfl⟩
theorem OwOp.rng {w : World} {base : Nat} {o : OpV} {k n t : Value} (h : OwOp w base o k n t) : Rng (FB k ++ FB n ++ FB t) base w.heap.size := (h.1.rng.app h.2.1.rng).app h.2.2.1.rng

set_option maxHeartbeats 12800000 in
theorem opLess_any (w : World) (va vb : Value) (a b : OpV) (ha : RdOp w va a) (hb : RdOp w vb b) (ka : opB a = true) (kb : opB b = true) (sa : szO a ≤ 2097152) (sb : szO b ≤ 2097152) :
    Calls Tryz.prog 90 #[va, vb] w fun e w' => e = .returned (.bool (klB (opBytes a) (opBytes b))) ∧ Below w.heap.size w w' := by
  have HA := hide (fun (W : World) (hW : Below w.heap.size w W) => bytesI_any W va a (ha.keep hW) (by unfold szO at sa; omega))
  have HB := hide (fun (W : World) (hW : Below w.heap.size w W) => bytesI_any W vb b (hb.keep hW) (by unfold szO at sb; omega))
  have KA := hide (And.intro ka (obV_of ka))
  have KB := hide (And.intro kb (obV_of kb))
  obtain ⟨k, n, t, rfl, hk, hn, ht⟩ := ha
  obtain ⟨ka', ca, rfl, _, _⟩ := hk.shape
  obtain ⟨na, da, rfl, _, _⟩ := hn.shape
  obtain ⟨ta, fa, rfl, _, _⟩ := ht.shape
  clear hk hn ht
  obtain ⟨k, n, t, rfl, hk, hn, ht⟩ := hb
  obtain ⟨kb', cb, rfl, _, _⟩ := hk.shape
  obtain ⟨nb, db, rfl, _, _⟩ := hn.shape
  obtain ⟨tb, fb, rfl, _, _⟩ := ht.shape
  clear hk hn ht ka kb sa sb
  obtain ⟨l0, l1, hA0⟩ := two w #[.int .i64 a.kind, .int .i64 a.atN, .int .i64 a.atR, .int .i64 a.nodeN, .int .i64 a.nodeR, .int .i64 a.parN, .int .i64 a.parR, .slice ka' a.key.length ca, .int .i64 a.elem, .slice na a.name.length da, .slice ta a.text.length fa, .bool a.gone] #[.int .i64 b.kind, .int .i64 b.atN, .int .i64 b.atR, .int .i64 b.nodeN, .int .i64 b.nodeR, .int .i64 b.parN, .int .i64 b.parR, .slice kb' b.key.length cb, .int .i64 b.elem, .slice nb b.name.length db, .slice tb b.text.length fb, .bool b.gone] 28 28
  unfold opVal at HA HB ⊢
  go_enter Tryz.func90, Tryz.ntmps90
  go_wp2_with fail
  generalize ((w.alloc (.cells #[.int .i64 a.kind, .int .i64 a.atN, .int .i64 a.atR, .int .i64 a.nodeN, .int .i64 a.nodeR, .int .i64 a.parN, .int .i64 a.parR, .slice ka' a.key.length ca, .int .i64 a.elem, .slice na a.name.length da, .slice ta a.text.length fa, .bool a.gone] 28)).alloc (.cells #[.int .i64 b.kind, .int .i64 b.atN, .int .i64 b.atR, .int .i64 b.nodeN, .int .i64 b.nodeR, .int .i64 b.parN, .int .i64 b.parR, .slice kb' b.key.length cb, .int .i64 b.elem, .slice nb b.name.length db, .slice tb b.text.length fb, .bool b.gone] 28)) = wa at *
  refine (unhide HA _ hA0).mono ?_
  rintro e w1 ⟨pg, cg, rfl, og, hB⟩
  replace hA0 := bstep hA0 hB
  replace l1 := l1.all hB
  clear hB l0 HA
  obtain ⟨x0, x1, x2, x3, x4, x5, x6, x7, x8, x9, x10, x11⟩ := l1.twelve
  go_wp2_with fail
  clear x0 x1 x2 x3 x4 x5 x6 x7 x8 x9 x10 x11
  refine (unhide HB _ hA0).mono ?_
  rintro e w2 ⟨ph, ch, rfl, oh, hB⟩
  replace hA0 := bstep hA0 hB
  replace og := og.keep hB
  clear hB l1 HB
  rw [(unhide KA).2] at og ⊢
  rw [(unhide KB).2] at oh ⊢
  go_wp2_with fail
  refine (rowLessB_any w2 _ _ _ _ og.byt oh.byt).mono ?_
  rintro e w3 ⟨rfl, hB⟩
  replace hA0 := bstep hA0 hB
  go_wp2_with fail
  go_ret
  exact ⟨rfl, hA0⟩

set_option maxHeartbeats 40000000 in
theorem putInto_any (w : World) (v vo : Value) (l : List OpV) (o : OpV) (F : List Nat) (hF : OwOps w v l F) (hN : F.Nodup) (hc : opsB l = true) (ho : RdOp w vo o) (hb : opB o = true) (hs : szO o ≤ 2097152) (hls : ∀ x ∈ l, szO x ≤ 2097152) :
    Calls Tryz.prog 40 #[v, vo] w fun e w' => ∃ u, e = .returned (.tuple #[u, .bool (putOk l o)]) ∧ (putOk l o = false → u = v) ∧ ∃ F', OwOps w' u (putL l o) F' ∧ F'.Nodup ∧ (∀ q ∈ F', q ∈ F ∨ (w.heap.size ≤ q ∧ q < w'.heap.size)) ∧ Frm w w' (FB v) := by
  have HC := hide (fun (W : World) (hW : Below w.heap.size w W) => copyOp_any W vo o (ho.keep hW) (by omega))
  have HL := hide (fun (W : World) (hW : Below w.heap.size w W) (vx : Value) (x : OpV) (hx : RdOp W vx x) (kx : opB x = true) (sx : szO x ≤ 2097152) => opLess_any W vo vx o x (ho.keep hW) hx hb kx hs sx)
  have HLS := hide hls
  have hlt : ∀ q ∈ F, q < w.heap.size := hF.ltI
  have hl := opsB_len hc
  obtain ⟨k, n, t, rfl, hk, hn, ht⟩ := ho
  obtain ⟨ak, ck, rfl, _, _⟩ := hk.shape
  obtain ⟨an, cn, rfl, _, _⟩ := hn.shape
  obtain ⟨tt, ct, rfl, _, _⟩ := ht.shape
  obtain ⟨au, cu, rfl, _, _⟩ := Elems.shape hF.rd
  clear hk hn ht hs hls hb
  have hA0 := (Below.refl w.heap.size w).alloc (Nat.le_refl _) (.cells #[.int .i64 o.kind, .int .i64 o.atN, .int .i64 o.atR, .int .i64 o.nodeN, .int .i64 o.nodeR, .int .i64 o.parN, .int .i64 o.parR, .slice ak o.key.length ck, .int .i64 o.elem, .slice an o.name.length cn, .slice tt o.text.length ct, .bool o.gone] 28)
  have l0 := Loc.made w #[.int .i64 o.kind, .int .i64 o.atN, .int .i64 o.atR, .int .i64 o.nodeN, .int .i64 o.nodeR, .int .i64 o.parN, .int .i64 o.parR, .slice ak o.key.length ck, .int .i64 o.elem, .slice an o.name.length cn, .slice tt o.text.length ct, .bool o.gone] 28
  unfold opVal at HC HL
  refine calls_via ?_
  intro Q HQ
  have HQ2 := hide (fun u kk w9 (hkk : kk = putOk l o) (hno : kk = false → u = .slice au l.length cu) (z : ∃ F', OwOps w9 u (putL l o) F' ∧ F'.Nodup ∧ (∀ q ∈ F', q ∈ F ∨ (w.heap.size ≤ q ∧ q < w9.heap.size)) ∧ Frm w w9 (FB (.slice au l.length cu))) => unhide HQ (.returned (.tuple #[u, .bool kk])) w9 ⟨u, by rw [hkk], by rw [← hkk]; exact hno, z⟩)
  clear HQ
  unfold opVal
  go_enter Tryz.func40, Tryz.ntmps40
  go_wp2_with fail
  generalize (w.alloc (.cells #[.int .i64 o.kind, .int .i64 o.atN, .int .i64 o.atR, .int .i64 o.nodeN, .int .i64 o.nodeR, .int .i64 o.parN, .int .i64 o.parR, .slice ak o.key.length ck, .int .i64 o.elem, .slice an o.name.length cn, .slice tt o.text.length ct, .bool o.gone] 28)) = wa at *
  generalize hSS : w.heap.size = S at *
  have BS := hide (show ∀ (b c : World), Below S w b → Below b.heap.size b c → Below S w c from fun b c h k => h.trans (k.mono (by have := h.size; omega)))
  have hFa : OwOps wa (.slice au l.length cu) l F := OwOps.frm hF (Frm.ofBelow (by rw [hSS]; exact hA0) []) (fun _ _ => by simp)
  refine (search_any wa _ l o.atN o.atR hFa.rd hc).mono ?_
  rintro e w4 ⟨rfl, hB⟩
  have hB4 := unhide BS _ _ hA0 hB
  have l4 := l0.all hB
  have hF4 : OwOps w4 (.slice au l.length cu) l F := OwOps.frm hFa (Frm.ofBelow hB []) (fun _ _ => by simp)
  clear hA0 hB l0 hFa hF
  have hS4 : S ≤ w4.heap.size := Nat.le_of_lt l4.lt
  have F0 : ∀ W, Below S w W → Frm w W (FB (.slice au l.length cu)) := fun W h => Frm.ofBelow (by rw [hSS]; exact h) _
  cases hth : there l o.atN o.atR with
  | true =>
    have hpos := there_lt hth
    have hput : putL l o = if klB (opBytes o) (opBytes (l.getD (posO l o.atN o.atR) o)) then l.set (posO l o.atN o.atR) o else l := by unfold putL; rw [if_pos hth]
    have hok : putOk l o = true := by unfold putOk; rw [hth]; rfl
    generalize posO l o.atN o.atR = p at *
    obtain ⟨b, off, cap, eu, _, hbl, hel⟩ : ∃ b off cap, (Value.slice au l.length cu) = .slice (some ⟨b, off, none⟩) l.length cap ∧ l ≠ [] ∧ b < w4.heap.size ∧ ∀ i (hi : i < l.length), ∃ C : List Value, C.length = 12 ∧ (∀ j, j < 12 → w4.cell? ⟨b, off + i * 12 + j, none⟩ = C[j]?) ∧ RdOpC w4 C l[i] := by
      rcases hF4.rd.cases with ⟨e, _⟩ | h
      · subst e; simp at hpos
      · exact h
    have hoff : off = 0 := by
      obtain ⟨Cs, Fs, _, _, _, hrow, _⟩ := hF4
      rcases hrow.2 with ⟨e, _⟩ | ⟨g, cap', cur, e, _⟩
      · rw [eu] at e; cases e
      · rw [eu] at e; cases e; rfl
    subst hoff
    cases eu
    obtain ⟨b1, d1, b2, d2, b3, d3, e0, e1, e2, e3, e4, e5, e6, e7, e8, e9, e10, e11, hro⟩ := opc_at (w := w4) (W := w4) (Below.refl _ _) hbl (hel p hpos)
    have hx : l.getD p o = l[p] := by simp [List.getD_eq_getElem?_getD, hpos]
    rw [hx] at hput
    have hbx := opsB_each hc hpos
    have hsx := unhide HLS l[p] (List.getElem_mem hpos)
    simp only [Nat.zero_add] at e0 e1 e2 e3 e4 e5 e6 e7 e8 e9 e10 e11
    have HL5 := hide (fun (g : Gr w4) => unhide HL g.W (unhide BS _ _ hB4 g.h) _ l[p] (hro.keep g.h) hbx hsx)
    unfold opVal at HL5
    have hSl : S < w4.heap.size := l4.lt
    have hpl : (p : Int) < (l.length : Int) := by omega
    have hp0 : (0 : Int) ≤ (p : Int) := by omega
    clear hro hel HL
    obtain ⟨x0, x1, x2, x3, x4, x5, x6, x7, x8, x9, x10, x11⟩ := l4.twelve
    go_wp2_with fail
    replace x0 := Gr.cell hSl x0
    replace e0 := Gr.cell hbl e0
    replace x1 := Gr.cell hSl x1
    replace e1 := Gr.cell hbl e1
    replace x2 := Gr.cell hSl x2
    replace e2 := Gr.cell hbl e2
    replace x3 := Gr.cell hSl x3
    replace e3 := Gr.cell hbl e3
    replace x4 := Gr.cell hSl x4
    replace e4 := Gr.cell hbl e4
    replace x5 := Gr.cell hSl x5
    replace e5 := Gr.cell hbl e5
    replace x6 := Gr.cell hSl x6
    replace e6 := Gr.cell hbl e6
    replace x7 := Gr.cell hSl x7
    replace e7 := Gr.cell hbl e7
    replace x8 := Gr.cell hSl x8
    replace e8 := Gr.cell hbl e8
    replace x9 := Gr.cell hSl x9
    replace e9 := Gr.cell hbl e9
    replace x10 := Gr.cell hSl x10
    replace e10 := Gr.cell hbl e10
    replace x11 := Gr.cell hSl x11
    replace e11 := Gr.cell hbl e11
    have hne : Nonempty (Gr w4) := ⟨⟨w4, Below.refl _ _⟩⟩
    refine wp_region_gr (by kernel_rfl) (by kernel_rfl) ?_
    repeat (go_big_quiet_step ((rename_i g; exact calls_gr (unhide HL5 g))))
    refine wpQuiet_nil ?_
    rintro _ ⟨g, rfl⟩
    clear x0 x1 x2 x3 x4 x5 x6 x7 x8 x9 x10 x11
    obtain ⟨w6, hB⟩ := g
    dsimp only
    have hB6 := unhide BS _ _ hB4 hB
    have l6 := l4.all hB
    have hF6 : OwOps w6 (.slice (some ⟨b, 0, none⟩) l.length cu) l F := OwOps.frm hF4 (Frm.ofBelow hB []) (fun _ _ => by simp)
    clear hB4 hB l4 hF4 HL5 e0 e1 e2 e3 e4 e5 e6 e7 e8 e9 e10 e11
    cases hkl : klB (opBytes o) (opBytes l[p]) with
    | false =>
      rw [hkl] at hput
      have KK := hide (unhide HQ2 (.slice (some ⟨b, 0, none⟩) l.length cu) true w6 hok.symm (fun h => by cases h) ⟨F, by rw [hput]; exact hF6, hN, fun q hq => .inl hq, F0 _ hB6⟩)
      clear HQ2 hput
      go_wp2_with fail
      exact unhide KK
    | true =>
      rw [hkl, if_pos rfl] at hput
      obtain ⟨x0, x1, x2, x3, x4, x5, x6, x7, x8, x9, x10, x11⟩ := l6.twelve
      go_wp2_with fail
      clear x0 x1 x2 x3 x4 x5 x6 x7 x8 x9 x10 x11
      refine (unhide HC _ hB6).mono ?_
      rintro e w7 ⟨a1, c1, a2, c2, a3, c3, rfl, oc, hB⟩
      have hB7 := unhide BS _ _ hB6 hB
      have hF7 : OwOps w7 (.slice (some ⟨b, 0, none⟩) l.length cu) l F := OwOps.frm hF6 (Frm.ofBelow hB []) (fun _ _ => by simp)
      have hcr := oc.rng
      have hS6 : S ≤ w6.heap.size := Nat.le_of_lt l6.lt
      have hs67 := hB.size
      have hcF : ∀ q ∈ F, q ∉ FB (.slice a1 o.key.length c1) ++ FB (.slice a2 o.name.length c2) ++ FB (.slice a3 o.text.length c3) := fun q hq hq' => by have := hcr q hq'; have := hlt q hq; omega
      obtain ⟨F', hO, hN', hsub, hfs⟩ := OwOps.setAt hF7 hN p hpos (.int .i64 o.kind) (.int .i64 o.atN) (.int .i64 o.atR) (.int .i64 o.nodeN) (.int .i64 o.nodeR) (.int .i64 o.parN) (.int .i64 o.parR) (.slice a1 o.key.length c1) (.int .i64 o.elem) (.slice a2 o.name.length c2) (.slice a3 o.text.length c3) (.bool o.gone) o _ oc.cells oc.2.2.2 hcF
      obtain ⟨xs, hx⟩ : ∃ xs : List Value, w7.ownsRow 0 28 12 (.slice (some ⟨b, 0, none⟩) l.length cu) l.length xs := by
        obtain ⟨Cs, Fs, _, _, _, hrow, _⟩ := hF7
        exact ⟨_, hrow⟩
      have hxl := hx.1
      have hcell : ∀ j, j < 12 → ∃ y, w7.cell? ⟨b, p * 12 + j, none⟩ = some y := fun j hj => ⟨xs[p * 12 + j]'(by omega), by rw [hx.cellAt (p * 12 + j) (by omega), List.getElem?_eq_getElem (by omega)]⟩
      obtain ⟨y0, q0⟩ := hcell 0 (by omega)
      obtain ⟨y1, q1⟩ := hcell 1 (by omega)
      obtain ⟨y2, q2⟩ := hcell 2 (by omega)
      obtain ⟨y3, q3⟩ := hcell 3 (by omega)
      obtain ⟨y4, q4⟩ := hcell 4 (by omega)
      obtain ⟨y5, q5⟩ := hcell 5 (by omega)
      obtain ⟨y6, q6⟩ := hcell 6 (by omega)
      obtain ⟨y7, q7⟩ := hcell 7 (by omega)
      obtain ⟨y8, q8⟩ := hcell 8 (by omega)
      obtain ⟨y9, q9⟩ := hcell 9 (by omega)
      obtain ⟨y10, q10⟩ := hcell 10 (by omega)
      obtain ⟨y11, q11⟩ := hcell 11 (by omega)
      rw [Nat.add_zero] at q0
      have f0 := hx.frozenAt (p * 12)
      have f1 := hx.frozenAt (p * 12 + 1)
      have f2 := hx.frozenAt (p * 12 + 2)
      have f3 := hx.frozenAt (p * 12 + 3)
      have f4 := hx.frozenAt (p * 12 + 4)
      have f5 := hx.frozenAt (p * 12 + 5)
      have f6 := hx.frozenAt (p * 12 + 6)
      have f7 := hx.frozenAt (p * 12 + 7)
      have f8 := hx.frozenAt (p * 12 + 8)
      have f9 := hx.frozenAt (p * 12 + 9)
      have f10 := hx.frozenAt (p * 12 + 10)
      have f11 := hx.frozenAt (p * 12 + 11)
      have hf8 := (F0 _ hB7).trans (hfs.mono (S' := FB (.slice (some ⟨b, 0, none⟩) l.length cu)) (fun q hq => by simp at hq; simp [FB, Value.ownBlock, hq]))
      have KK := hide (unhide HQ2 (.slice (some ⟨b, 0, none⟩) l.length cu) true _ hok.symm (fun h => by cases h) ⟨F', by rw [hput]; exact hO, hN', fun q hq => by
        have s8 := hfs.size
        rcases hsub q hq with h | h
        · exact .inl h
        · have := hcr q h; exact .inr (by omega), hf8⟩)
      clear HQ2 hput hO hF6 hF7 hx hcell hfs hf8 hB7 hB6 oc HC F0
      go_wp2_with fail
      exact unhide KK
  | false =>
    have hput : putL l o = if 150 ≤ l.length then l else l.take (posO l o.atN o.atR) ++ [o] ++ l.drop (posO l o.atN o.atR) := by unfold putL; rw [hth]; rfl
    have hok : putOk l o = decide (l.length < 150) := by unfold putOk; rw [hth]; rfl
    have hple := posO_le l o.atN o.atR
    generalize posO l o.atN o.atR = p at *
    clear HL
    by_cases hfull : l.length = 150
    · rw [if_pos (by omega)] at hput
      have hok' : putOk l o = false := by rw [hok]; simp; omega
      have KK := hide (unhide HQ2 (.slice au l.length cu) false w4 hok'.symm (fun _ => rfl) ⟨F, by rw [hput]; exact hF4, hN, fun q hq => .inl hq, F0 _ hB4⟩)
      have hfi : (l.length : Int) = 150 := by omega
      rw [hfull] at KK
      clear HQ2 hput
      go_wp2_with fail
      exact unhide KK
    · rw [if_neg (by omega)] at hput
      have hok' : putOk l o = true := by rw [hok]; simp; omega
      have hfi : ¬ ((l.length : Int) = 150) := by omega
      obtain ⟨x0, x1, x2, x3, x4, x5, x6, x7, x8, x9, x10, x11⟩ := l4.twelve
      go_wp2_with fail
      clear x0 x1 x2 x3 x4 x5 x6 x7 x8 x9 x10 x11
      refine (unhide HC _ hB4).mono ?_
      rintro e w5 ⟨a1, c1, a2, c2, a3, c3, rfl, oc, hB⟩
      have hB5 := unhide BS _ _ hB4 hB
      have hF5 : OwOps w5 (.slice au l.length cu) l F := OwOps.frm hF4 (Frm.ofBelow hB []) (fun _ _ => by simp)
      have hcr := oc.rng
      have hcF : ∀ q ∈ F, q ∉ FB (.slice a1 o.key.length c1) ++ FB (.slice a2 o.name.length c2) ++ FB (.slice a3 o.text.length c3) := fun q hq hq' => by have := hcr q hq'; have := hlt q hq; omega
      have hsz5 := hB.size
      have hA6 := hB5.alloc (by omega) (.cells #[.int .i64 o.kind, .int .i64 o.atN, .int .i64 o.atR, .int .i64 o.nodeN, .int .i64 o.nodeR, .int .i64 o.parN, .int .i64 o.parR, .slice a1 o.key.length c1, .int .i64 o.elem, .slice a2 o.name.length c2, .slice a3 o.text.length c3, .bool o.gone] 28)
      have lv := Loc.made w5 #[.int .i64 o.kind, .int .i64 o.atN, .int .i64 o.atR, .int .i64 o.nodeN, .int .i64 o.nodeR, .int .i64 o.parN, .int .i64 o.parR, .slice a1 o.key.length c1, .int .i64 o.elem, .slice a2 o.name.length c2, .slice a3 o.text.length c3, .bool o.gone] 28
      have oc6 := oc.keep ((Below.refl w5.heap.size w5).alloc (Nat.le_refl _) (.cells #[.int .i64 o.kind, .int .i64 o.atN, .int .i64 o.atR, .int .i64 o.nodeN, .int .i64 o.nodeR, .int .i64 o.parN, .int .i64 o.parR, .slice a1 o.key.length c1, .int .i64 o.elem, .slice a2 o.name.length c2, .slice a3 o.text.length c3, .bool o.gone] 28))
      have hF6 : OwOps (w5.alloc (.cells #[.int .i64 o.kind, .int .i64 o.atN, .int .i64 o.atR, .int .i64 o.nodeN, .int .i64 o.nodeR, .int .i64 o.parN, .int .i64 o.parR, .slice a1 o.key.length c1, .int .i64 o.elem, .slice a2 o.name.length c2, .slice a3 o.text.length c3, .bool o.gone] 28)) (.slice au l.length cu) l F := OwOps.frm hF5 (Frm.ofBelow ((Below.refl w5.heap.size w5).alloc (Nat.le_refl _) _) []) (fun _ _ => by simp)
      have hvF : w5.heap.size ∉ F := fun hq => by have := hlt _ hq; omega
      clear hB4 hF4 hF5 oc HC
      go_wp2_with fail
      generalize (w5.alloc (.cells #[.int .i64 o.kind, .int .i64 o.atN, .int .i64 o.atR, .int .i64 o.nodeN, .int .i64 o.nodeR, .int .i64 o.parN, .int .i64 o.parR, .slice a1 o.key.length c1, .int .i64 o.elem, .slice a2 o.name.length c2, .slice a3 o.text.length c3, .bool o.gone] 28)) = w6 at *
      refine (insO_any w6 _ l F p w5.heap.size [.int .i64 o.kind, .int .i64 o.atN, .int .i64 o.atR, .int .i64 o.nodeN, .int .i64 o.nodeR, .int .i64 o.parN, .int .i64 o.parR, .slice a1 o.key.length c1, .int .i64 o.elem, .slice a2 o.name.length c2, .slice a3 o.text.length c3, .bool o.gone] o _ hF6 hN hple (by omega) lv oc6.cells oc6.2.2.2 hcF hvF).mono ?_
      rintro e w7 ⟨u, F', rfl, hO, hN', hsub, hf⟩
      have hf7 := (F0 _ hA6).trans hf
      have KK := hide (unhide HQ2 u true w7 hok'.symm (fun h => by cases h) ⟨F', by rw [hput, List.append_assoc]; exact hO, hN', fun q hq => by
        have s7 := hf.size
        have lvlt := lv.lt
        rcases hsub q hq with h | h | h
        · exact .inl h
        · have := hcr q h; exact .inr (by omega)
        · exact .inr (by omega), hf7⟩)
      clear HQ2 hput hO hF6 F0
      go_wp2_with fail
      exact unhide KK
end Go.Proofs.YtkmmhlimihkgfaaGreat
