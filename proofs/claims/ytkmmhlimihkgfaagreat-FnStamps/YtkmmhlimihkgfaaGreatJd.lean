/- Own texts joined: BytS, L5put. -/
import Derived.Test.YtkmmhlimihkgfaaGreatJa
import Derived.Test.YtkmmhlimihkgfaaGreatJb
import Derived.Test.YtkmmhlimihkgfaaGreatJc
import Derived.Deep.CutBlock

/- spec.l4bytes and spec.OpBytes tell the bytes of an operation. -/
namespace Go.Proofs.YtkmmhlimihkgfaaGreat
open Go.RowKit
set_option linter.unusedVariables false
set_option maxRecDepth 100000

theorem cell_later {w w' : World} (hB : Below w.heap.size w w') {p : Addr} {v : Value} (h : w.cell? p = some v) : w'.cell? p = some v := (hB.cell (lt_of_cell h)).trans h
theorem balloc2 {w w' : World} {o : Obj} (h : Below w.heap.size w w') : Below w.heap.size w (w'.alloc o) := h.alloc h.size o
theorem rw_base {f : FuncId} {args : Array Value} {W : World} {r : List Int} {B : Nat} (h : Calls Tryz.prog f args W fun e w' => ∃ a c, e = .returned (.slice a r.length c) ∧ Own w' W.heap.size (.slice a r.length c) r ∧ Below W.heap.size W w') (hb : B ≤ W.heap.size) :
    Calls Tryz.prog f args W fun e w' => ∃ a c, e = .returned (.slice a r.length c) ∧ Own w' B (.slice a r.length c) r ∧ Below W.heap.size W w' :=
  h.mono fun _ _ ⟨a, c, q1, q2, q3⟩ => ⟨a, c, q1, q2.mono hb, q3⟩
theorem own_nil2 (w : World) (base : Nat) : Own w base (.slice none 0 0) [] := ⟨okB_nil, rfl, .inl ⟨rfl, rfl⟩⟩
theorem putTS_own2 (w : World) (v u : Value) (l t : List Int) (h : Byt w v l) (hu : Byt w u t) (hl : l.length ≤ 60000000) :
    Calls Tryz.prog 131 #[v, u] w fun e w' => ∃ a c, e = .returned (.slice a (putT l t).length c) ∧ Own w' w.heap.size (.slice a (putT l t).length c) (putT l t) ∧ Below w.heap.size w w' := by
  refine (putTS_any w v u l t h hu hl).mono ?_
  rintro e w' ⟨v', rfl, ho, hB⟩
  obtain ⟨a, c, rfl, _, _⟩ := ho.byt.shape
  exact ⟨a, c, rfl, ho, hB⟩

set_option maxHeartbeats 12800000 in
theorem bytesS_0 (w : World) (o : OpV) (a1 a2 a3 : Option Addr) (c1 c2 c3 : Nat) (hk : Ints w (.slice a1 o.key.length c1) o.key) (hn : Byt w (.slice a2 o.name.length c2) o.name) (ht : Byt w (.slice a3 o.text.length c3) o.text) (hs : o.key.length ≤ 2097152) (k0 : o.kind = 0) :
    Calls Tryz.prog 93 #[opVal o (.slice a1 o.key.length c1) (.slice a2 o.name.length c2) (.slice a3 o.text.length c3)] w fun e w' => ∃ a c, e = .returned (.slice a (opBytes o).length c) ∧ Own w' w.heap.size (.slice a (opBytes o).length c) (opBytes o) ∧ Below w.heap.size w w' := by
  have HK := hide hk
  have HM := hide hn
  have HX := hide ht
  clear hk hn ht
  have Ln : ([] : List Int).length = 0 := rfl
  obtain ⟨r1, e1⟩ : ∃ r, r = putAll ([] : List Int) 0 := ⟨_, rfl⟩
  have L1 := putAll_len ([] : List Int) 0
  have H1 := hide (fun (W : World) (hW : Below w.heap.size w W) (v : Value) (h : Own W w.heap.size v ([] : List Int)) => rw_base (putS_own W v ([] : List Int) 0 h.byt (by omega)) hW.size)
  rw [← e1] at L1 H1
  obtain ⟨r2, e2⟩ : ∃ r, r = putId r1 o.atN o.atR := ⟨_, rfl⟩
  have L2 := putId_len r1 o.atN o.atR
  have H2 := hide (fun (W : World) (hW : Below w.heap.size w W) (v : Value) (h : Own W w.heap.size v r1) => rw_base (putIdS_any W v r1 o.atN o.atR h.byt (by omega)) hW.size)
  rw [← e2] at L2 H2
  obtain ⟨r3, e3⟩ : ∃ r, r = putId r2 o.parN o.parR := ⟨_, rfl⟩
  have L3 := putId_len r2 o.parN o.parR
  have H3 := hide (fun (W : World) (hW : Below w.heap.size w W) (v : Value) (h : Own W w.heap.size v r2) => rw_base (putIdS_any W v r2 o.parN o.parR h.byt (by omega)) hW.size)
  rw [← e3] at L3 H3
  obtain ⟨r4, e4⟩ : ∃ r, r = putKey r3 o.key := ⟨_, rfl⟩
  have L4 := putKey_len r3 o.key
  have H4 := hide (fun (W : World) (hW : Below w.heap.size w W) (v : Value) (h : Own W w.heap.size v r3) => rw_base (putKeyS_any W v _ r3 o.key h.byt ((unhide HK).keep hW) (by omega) (by omega)) hW.size)
  rw [← e4] at L4 H4
  obtain ⟨r5, e5⟩ : ∃ r, r = putAll r4 o.elem := ⟨_, rfl⟩
  have L5 := putAll_len r4 o.elem
  have H5 := hide (fun (W : World) (hW : Below w.heap.size w W) (v : Value) (h : Own W w.heap.size v r4) => rw_base (putS_own W v r4 o.elem h.byt (by omega)) hW.size)
  rw [← e5] at L5 H5
  obtain ⟨r6, e6⟩ : ∃ r, r = putT r5 o.name := ⟨_, rfl⟩
  have L6 := putT_len r5 o.name
  have H6 := hide (fun (W : World) (hW : Below w.heap.size w W) (v : Value) (h : Own W w.heap.size v r5) => rw_base (putTS_own2 W v _ r5 o.name h.byt ((unhide HM).keep hW) (by omega)) hW.size)
  rw [← e6] at L6 H6
  obtain ⟨r7, e7⟩ : ∃ r, r = putT r6 o.text := ⟨_, rfl⟩
  have L7 := putT_len r6 o.text
  have H7 := hide (fun (W : World) (hW : Below w.heap.size w W) (v : Value) (h : Own W w.heap.size v r6) => rw_base (putTS_own2 W v _ r6 o.text h.byt ((unhide HX).keep hW) (by omega)) hW.size)
  rw [← e7] at L7 H7
  have HE := hide (show opBytes o = r7 by unfold opBytes opHd; rw [k0, if_pos rfl]; rw [e7, e6, e5, e4, e3, e2, e1])
  clear e7 L7 e6 L6 e5 L5 e4 L4 e3 L3 e2 L2 e1 L1
  have hA0 : Below w.heap.size w (w.alloc (.cells #[.int .i64 0, .int .i64 o.atN, .int .i64 o.atR, .int .i64 o.nodeN, .int .i64 o.nodeR, .int .i64 o.parN, .int .i64 o.parR, .slice a1 o.key.length c1, .int .i64 o.elem, .slice a2 o.name.length c2, .slice a3 o.text.length c3, .bool o.gone] 28)) := (Below.refl w.heap.size w).alloc (Nat.le_refl _) _
  have l0 := Loc.made w #[.int .i64 0, .int .i64 o.atN, .int .i64 o.atR, .int .i64 o.nodeN, .int .i64 o.nodeR, .int .i64 o.parN, .int .i64 o.parR, .slice a1 o.key.length c1, .int .i64 o.elem, .slice a2 o.name.length c2, .slice a3 o.text.length c3, .bool o.gone] 28
  rw [unhide HE]
  clear HE
  unfold opVal
  rw [k0]
  go_enter Tryz.func93, Tryz.ntmps93
  go_wp2_with fail
  generalize (w.alloc (.cells #[.int .i64 0, .int .i64 o.atN, .int .i64 o.atR, .int .i64 o.nodeN, .int .i64 o.nodeR, .int .i64 o.parN, .int .i64 o.parR, .slice a1 o.key.length c1, .int .i64 o.elem, .slice a2 o.name.length c2, .slice a3 o.text.length c3, .bool o.gone] 28)) = w0 at *
  obtain ⟨x0, x1, x2, x3, x4, x5, x6, x7, x8, x9, x10, x11⟩ := l0.twelve
  go_region_held3 (fun w' => w'.cell? ⟨w.heap.size, 0, none⟩ = some (.int .i64 0) ∧ w'.cell? ⟨w.heap.size, 1, none⟩ = some (.int .i64 o.atN) ∧ w'.cell? ⟨w.heap.size, 2, none⟩ = some (.int .i64 o.atR))
    (first | exact ⟨by assumption, by assumption, by assumption⟩ | go_keep)
    (first
      | (go_at_call 129; refine (unhide H1 _ (by repeat (first | exact hA0 | exact Below.refl _ _ | refine balloc2 ?_ | refine Below.drew ?_)) _ (own_nil2 _ _)).mono ?_; clear H1; rintro e w11 ⟨b1, d1, rfl, ho1, hB1⟩; have hA11 := bstep (a := w) (by repeat (first | exact hA0 | exact Below.refl _ _ | refine balloc2 ?_ | refine Below.drew ?_)) hB1; have hD11 := bstep (a := w0) (by repeat (first | exact Below.refl _ _ | exact Below.refl _ _ | refine balloc2 ?_ | refine Below.drew ?_)) hB1; have hY1 := fun p v h => cell_later hB1 (p := p) (v := v) h; obtain ⟨x0, x1, x2, x3, x4, x5, x6, x7, x8, x9, x10, x11⟩ := (l0.all hD11).twelve)
      | (go_at_call 128; refine (unhide H2 _ (by repeat (first | exact hA11 | exact Below.refl _ _ | refine balloc2 ?_ | refine Below.drew ?_)) _ (ho1.keep (by repeat (first | exact Below.refl _ _ | exact Below.refl _ _ | refine balloc2 ?_ | refine Below.drew ?_)))).mono ?_; clear H2; rintro e w12 ⟨b2, d2, rfl, ho2, hB2⟩; have hA12 := bstep (a := w) (by repeat (first | exact hA11 | exact Below.refl _ _ | refine balloc2 ?_ | refine Below.drew ?_)) hB2; have hD12 := bstep (a := w0) (by repeat (first | exact hD11 | exact Below.refl _ _ | refine balloc2 ?_ | refine Below.drew ?_)) hB2; have hY2 := fun p v h => cell_later hB2 (p := p) (v := v) h; obtain ⟨x0, x1, x2, x3, x4, x5, x6, x7, x8, x9, x10, x11⟩ := (l0.all hD12).twelve))
  all_goals
    have l12 := l0.all hD12
    clear x0 x1 x2 x3 x4 x5 x6 x7 x8 x9 x10 x11 hY1 hB1 hD11 hY2 hB2 hD12 ho1 hA11
    obtain ⟨x0, x1, x2, x3, x4, x5, x6, x7, x8, x9, x10, x11⟩ := l12.twelve
    go_wp2_with fail
    clear x0 x1 x2 x3 x4 x5 x6 x7 x8 x9 x10 x11
    obtain ⟨x0, x1, x2, x3, x4, x5, x6, x7, x8, x9, x10, x11⟩ := l12.twelve
    go_region_held3 (fun w' => w'.cell? ⟨w.heap.size, 5, none⟩ = some (.int .i64 o.parN) ∧ w'.cell? ⟨w.heap.size, 6, none⟩ = some (.int .i64 o.parR) ∧ w'.cell? ⟨w.heap.size, 7, none⟩ = some (.slice a1 o.key.length c1))
      (first | exact ⟨by assumption, by assumption, by assumption⟩ | go_keep)
      (first
        | (go_at_call 128; refine (unhide H3 _ (by repeat (first | exact hA12 | exact Below.refl _ _ | refine balloc2 ?_ | refine Below.drew ?_)) _ (ho2.keep (by repeat (first | exact Below.refl _ _ | exact Below.refl _ _ | refine balloc2 ?_ | refine Below.drew ?_)))).mono ?_; clear H3; rintro e w13 ⟨b3, d3, rfl, ho3, hB3⟩; have hA13 := bstep (a := w) (by repeat (first | exact hA12 | exact Below.refl _ _ | refine balloc2 ?_ | refine Below.drew ?_)) hB3; have hD13 := bstep (a := w12) (by repeat (first | exact Below.refl _ _ | exact Below.refl _ _ | refine balloc2 ?_ | refine Below.drew ?_)) hB3; have hY3 := fun p v h => cell_later hB3 (p := p) (v := v) h; obtain ⟨x0, x1, x2, x3, x4, x5, x6, x7, x8, x9, x10, x11⟩ := (l12.all hD13).twelve)
        | (go_at_call 130; refine (unhide H4 _ (by repeat (first | exact hA13 | exact Below.refl _ _ | refine balloc2 ?_ | refine Below.drew ?_)) _ (ho3.keep (by repeat (first | exact Below.refl _ _ | exact Below.refl _ _ | refine balloc2 ?_ | refine Below.drew ?_)))).mono ?_; clear H4; rintro e w14 ⟨b4, d4, rfl, ho4, hB4⟩; have hA14 := bstep (a := w) (by repeat (first | exact hA13 | exact Below.refl _ _ | refine balloc2 ?_ | refine Below.drew ?_)) hB4; have hD14 := bstep (a := w12) (by repeat (first | exact hD13 | exact Below.refl _ _ | refine balloc2 ?_ | refine Below.drew ?_)) hB4; have hY4 := fun p v h => cell_later hB4 (p := p) (v := v) h; obtain ⟨x0, x1, x2, x3, x4, x5, x6, x7, x8, x9, x10, x11⟩ := (l12.all hD14).twelve))
    all_goals
      have l14 := l12.all hD14
      clear x0 x1 x2 x3 x4 x5 x6 x7 x8 x9 x10 x11 hY3 hB3 hD13 hY4 hB4 hD14 ho3 hA13
      obtain ⟨x0, x1, x2, x3, x4, x5, x6, x7, x8, x9, x10, x11⟩ := l14.twelve
      go_wp2_with fail
      clear x0 x1 x2 x3 x4 x5 x6 x7 x8 x9 x10 x11
      obtain ⟨x0, x1, x2, x3, x4, x5, x6, x7, x8, x9, x10, x11⟩ := l14.twelve
      go_region_held3 (fun w' => w'.cell? ⟨w.heap.size, 8, none⟩ = some (.int .i64 o.elem) ∧ w'.cell? ⟨w.heap.size, 9, none⟩ = some (.slice a2 o.name.length c2) ∧ w'.cell? ⟨w.heap.size, 10, none⟩ = some (.slice a3 o.text.length c3))
        (first | exact ⟨by assumption, by assumption, by assumption⟩ | go_keep)
        (first
          | (go_at_call 129; refine (unhide H5 _ (by repeat (first | exact hA14 | exact Below.refl _ _ | refine balloc2 ?_ | refine Below.drew ?_)) _ (ho4.keep (by repeat (first | exact Below.refl _ _ | exact Below.refl _ _ | refine balloc2 ?_ | refine Below.drew ?_)))).mono ?_; clear H5; rintro e w15 ⟨b5, d5, rfl, ho5, hB5⟩; have hA15 := bstep (a := w) (by repeat (first | exact hA14 | exact Below.refl _ _ | refine balloc2 ?_ | refine Below.drew ?_)) hB5; have hD15 := bstep (a := w14) (by repeat (first | exact Below.refl _ _ | exact Below.refl _ _ | refine balloc2 ?_ | refine Below.drew ?_)) hB5; have hY5 := fun p v h => cell_later hB5 (p := p) (v := v) h; obtain ⟨x0, x1, x2, x3, x4, x5, x6, x7, x8, x9, x10, x11⟩ := (l14.all hD15).twelve)
          | (go_at_call 131; refine (unhide H6 _ (by repeat (first | exact hA15 | exact Below.refl _ _ | refine balloc2 ?_ | refine Below.drew ?_)) _ (ho5.keep (by repeat (first | exact Below.refl _ _ | exact Below.refl _ _ | refine balloc2 ?_ | refine Below.drew ?_)))).mono ?_; clear H6; rintro e w16 ⟨b6, d6, rfl, ho6, hB6⟩; have hA16 := bstep (a := w) (by repeat (first | exact hA15 | exact Below.refl _ _ | refine balloc2 ?_ | refine Below.drew ?_)) hB6; have hD16 := bstep (a := w14) (by repeat (first | exact hD15 | exact Below.refl _ _ | refine balloc2 ?_ | refine Below.drew ?_)) hB6; have hY6 := fun p v h => cell_later hB6 (p := p) (v := v) h; obtain ⟨x0, x1, x2, x3, x4, x5, x6, x7, x8, x9, x10, x11⟩ := (l14.all hD16).twelve)
          | (go_at_call 131; refine (unhide H7 _ (by repeat (first | exact hA16 | exact Below.refl _ _ | refine balloc2 ?_ | refine Below.drew ?_)) _ (ho6.keep (by repeat (first | exact Below.refl _ _ | exact Below.refl _ _ | refine balloc2 ?_ | refine Below.drew ?_)))).mono ?_; clear H7; rintro e w17 ⟨b7, d7, rfl, ho7, hB7⟩; have hA17 := bstep (a := w) (by repeat (first | exact hA16 | exact Below.refl _ _ | refine balloc2 ?_ | refine Below.drew ?_)) hB7; have hD17 := bstep (a := w14) (by repeat (first | exact hD16 | exact Below.refl _ _ | refine balloc2 ?_ | refine Below.drew ?_)) hB7; have hY7 := fun p v h => cell_later hB7 (p := p) (v := v) h; obtain ⟨x0, x1, x2, x3, x4, x5, x6, x7, x8, x9, x10, x11⟩ := (l14.all hD17).twelve))
      all_goals
        have l17 := l14.all hD17
        clear x0 x1 x2 x3 x4 x5 x6 x7 x8 x9 x10 x11 hY5 hB5 hD15 hY6 hB6 hD16 hY7 hB7 hD17 ho5 ho6 hA15 hA16
        obtain ⟨x0, x1, x2, x3, x4, x5, x6, x7, x8, x9, x10, x11⟩ := l17.twelve
        go_wp2_with fail
        clear x0 x1 x2 x3 x4 x5 x6 x7 x8 x9 x10 x11
        go_ret
        exact ⟨b7, d7, rfl, ho7, hA17⟩

set_option maxHeartbeats 12800000 in
theorem bytesS_1 (w : World) (o : OpV) (a1 a2 a3 : Option Addr) (c1 c2 c3 : Nat) (hk : Ints w (.slice a1 o.key.length c1) o.key) (hn : Byt w (.slice a2 o.name.length c2) o.name) (ht : Byt w (.slice a3 o.text.length c3) o.text) (hs : o.key.length ≤ 2097152) (k0 : o.kind = 1) :
    Calls Tryz.prog 93 #[opVal o (.slice a1 o.key.length c1) (.slice a2 o.name.length c2) (.slice a3 o.text.length c3)] w fun e w' => ∃ a c, e = .returned (.slice a (opBytes o).length c) ∧ Own w' w.heap.size (.slice a (opBytes o).length c) (opBytes o) ∧ Below w.heap.size w w' := by
  have HK := hide hk
  have HM := hide hn
  have HX := hide ht
  clear hk hn ht
  have Ln : ([] : List Int).length = 0 := rfl
  obtain ⟨r1, e1⟩ : ∃ r, r = putAll ([] : List Int) 1 := ⟨_, rfl⟩
  have L1 := putAll_len ([] : List Int) 1
  have H1 := hide (fun (W : World) (hW : Below w.heap.size w W) (v : Value) (h : Own W w.heap.size v ([] : List Int)) => rw_base (putS_own W v ([] : List Int) 1 h.byt (by omega)) hW.size)
  rw [← e1] at L1 H1
  obtain ⟨r2, e2⟩ : ∃ r, r = putId r1 o.atN o.atR := ⟨_, rfl⟩
  have L2 := putId_len r1 o.atN o.atR
  have H2 := hide (fun (W : World) (hW : Below w.heap.size w W) (v : Value) (h : Own W w.heap.size v r1) => rw_base (putIdS_any W v r1 o.atN o.atR h.byt (by omega)) hW.size)
  rw [← e2] at L2 H2
  obtain ⟨r3, e3⟩ : ∃ r, r = putId r2 o.nodeN o.nodeR := ⟨_, rfl⟩
  have L3 := putId_len r2 o.nodeN o.nodeR
  have H3 := hide (fun (W : World) (hW : Below w.heap.size w W) (v : Value) (h : Own W w.heap.size v r2) => rw_base (putIdS_any W v r2 o.nodeN o.nodeR h.byt (by omega)) hW.size)
  rw [← e3] at L3 H3
  obtain ⟨r4, e4⟩ : ∃ r, r = putId r3 o.parN o.parR := ⟨_, rfl⟩
  have L4 := putId_len r3 o.parN o.parR
  have H4 := hide (fun (W : World) (hW : Below w.heap.size w W) (v : Value) (h : Own W w.heap.size v r3) => rw_base (putIdS_any W v r3 o.parN o.parR h.byt (by omega)) hW.size)
  rw [← e4] at L4 H4
  obtain ⟨r5, e5⟩ : ∃ r, r = putKey r4 o.key := ⟨_, rfl⟩
  have L5 := putKey_len r4 o.key
  have H5 := hide (fun (W : World) (hW : Below w.heap.size w W) (v : Value) (h : Own W w.heap.size v r4) => rw_base (putKeyS_any W v _ r4 o.key h.byt ((unhide HK).keep hW) (by omega) (by omega)) hW.size)
  rw [← e5] at L5 H5
  have HE := hide (show opBytes o = r5 by unfold opBytes opHd; rw [k0, if_neg (by decide), if_pos rfl]; rw [e5, e4, e3, e2, e1])
  clear e5 L5 e4 L4 e3 L3 e2 L2 e1 L1
  have hA0 : Below w.heap.size w (w.alloc (.cells #[.int .i64 1, .int .i64 o.atN, .int .i64 o.atR, .int .i64 o.nodeN, .int .i64 o.nodeR, .int .i64 o.parN, .int .i64 o.parR, .slice a1 o.key.length c1, .int .i64 o.elem, .slice a2 o.name.length c2, .slice a3 o.text.length c3, .bool o.gone] 28)) := (Below.refl w.heap.size w).alloc (Nat.le_refl _) _
  have l0 := Loc.made w #[.int .i64 1, .int .i64 o.atN, .int .i64 o.atR, .int .i64 o.nodeN, .int .i64 o.nodeR, .int .i64 o.parN, .int .i64 o.parR, .slice a1 o.key.length c1, .int .i64 o.elem, .slice a2 o.name.length c2, .slice a3 o.text.length c3, .bool o.gone] 28
  rw [unhide HE]
  clear HE
  unfold opVal
  rw [k0]
  go_enter Tryz.func93, Tryz.ntmps93
  go_wp2_with fail
  generalize (w.alloc (.cells #[.int .i64 1, .int .i64 o.atN, .int .i64 o.atR, .int .i64 o.nodeN, .int .i64 o.nodeR, .int .i64 o.parN, .int .i64 o.parR, .slice a1 o.key.length c1, .int .i64 o.elem, .slice a2 o.name.length c2, .slice a3 o.text.length c3, .bool o.gone] 28)) = w0 at *
  obtain ⟨x0, x1, x2, x3, x4, x5, x6, x7, x8, x9, x10, x11⟩ := l0.twelve
  go_region_held3 (fun w' => w'.cell? ⟨w.heap.size, 0, none⟩ = some (.int .i64 1) ∧ w'.cell? ⟨w.heap.size, 1, none⟩ = some (.int .i64 o.atN) ∧ w'.cell? ⟨w.heap.size, 2, none⟩ = some (.int .i64 o.atR))
    (first | exact ⟨by assumption, by assumption, by assumption⟩ | go_keep)
    (first
      | (go_at_call 129; refine (unhide H1 _ (by repeat (first | exact hA0 | exact Below.refl _ _ | refine balloc2 ?_ | refine Below.drew ?_)) _ (own_nil2 _ _)).mono ?_; clear H1; rintro e w11 ⟨b1, d1, rfl, ho1, hB1⟩; have hA11 := bstep (a := w) (by repeat (first | exact hA0 | exact Below.refl _ _ | refine balloc2 ?_ | refine Below.drew ?_)) hB1; have hD11 := bstep (a := w0) (by repeat (first | exact Below.refl _ _ | exact Below.refl _ _ | refine balloc2 ?_ | refine Below.drew ?_)) hB1; have hY1 := fun p v h => cell_later hB1 (p := p) (v := v) h; obtain ⟨x0, x1, x2, x3, x4, x5, x6, x7, x8, x9, x10, x11⟩ := (l0.all hD11).twelve)
      | (go_at_call 128; refine (unhide H2 _ (by repeat (first | exact hA11 | exact Below.refl _ _ | refine balloc2 ?_ | refine Below.drew ?_)) _ (ho1.keep (by repeat (first | exact Below.refl _ _ | exact Below.refl _ _ | refine balloc2 ?_ | refine Below.drew ?_)))).mono ?_; clear H2; rintro e w12 ⟨b2, d2, rfl, ho2, hB2⟩; have hA12 := bstep (a := w) (by repeat (first | exact hA11 | exact Below.refl _ _ | refine balloc2 ?_ | refine Below.drew ?_)) hB2; have hD12 := bstep (a := w0) (by repeat (first | exact hD11 | exact Below.refl _ _ | refine balloc2 ?_ | refine Below.drew ?_)) hB2; have hY2 := fun p v h => cell_later hB2 (p := p) (v := v) h; obtain ⟨x0, x1, x2, x3, x4, x5, x6, x7, x8, x9, x10, x11⟩ := (l0.all hD12).twelve))
  all_goals
    have l12 := l0.all hD12
    clear x0 x1 x2 x3 x4 x5 x6 x7 x8 x9 x10 x11 hY1 hB1 hD11 hY2 hB2 hD12 ho1 hA11
    obtain ⟨x0, x1, x2, x3, x4, x5, x6, x7, x8, x9, x10, x11⟩ := l12.twelve
    go_wp2_with fail
    clear x0 x1 x2 x3 x4 x5 x6 x7 x8 x9 x10 x11
    obtain ⟨x0, x1, x2, x3, x4, x5, x6, x7, x8, x9, x10, x11⟩ := l12.twelve
    go_region_held3 (fun w' => w'.cell? ⟨w.heap.size, 3, none⟩ = some (.int .i64 o.nodeN) ∧ w'.cell? ⟨w.heap.size, 4, none⟩ = some (.int .i64 o.nodeR) ∧ w'.cell? ⟨w.heap.size, 5, none⟩ = some (.int .i64 o.parN) ∧ w'.cell? ⟨w.heap.size, 6, none⟩ = some (.int .i64 o.parR) ∧ w'.cell? ⟨w.heap.size, 7, none⟩ = some (.slice a1 o.key.length c1))
      (first | exact ⟨by assumption, by assumption, by assumption, by assumption, by assumption⟩ | go_keep)
      (first
        | (go_at_call 128; refine (unhide H3 _ (by repeat (first | exact hA12 | exact Below.refl _ _ | refine balloc2 ?_ | refine Below.drew ?_)) _ (ho2.keep (by repeat (first | exact Below.refl _ _ | exact Below.refl _ _ | refine balloc2 ?_ | refine Below.drew ?_)))).mono ?_; clear H3; rintro e w13 ⟨b3, d3, rfl, ho3, hB3⟩; have hA13 := bstep (a := w) (by repeat (first | exact hA12 | exact Below.refl _ _ | refine balloc2 ?_ | refine Below.drew ?_)) hB3; have hD13 := bstep (a := w12) (by repeat (first | exact Below.refl _ _ | exact Below.refl _ _ | refine balloc2 ?_ | refine Below.drew ?_)) hB3; have hY3 := fun p v h => cell_later hB3 (p := p) (v := v) h; obtain ⟨x0, x1, x2, x3, x4, x5, x6, x7, x8, x9, x10, x11⟩ := (l12.all hD13).twelve)
        | (go_at_call 128; refine (unhide H4 _ (by repeat (first | exact hA13 | exact Below.refl _ _ | refine balloc2 ?_ | refine Below.drew ?_)) _ (ho3.keep (by repeat (first | exact Below.refl _ _ | exact Below.refl _ _ | refine balloc2 ?_ | refine Below.drew ?_)))).mono ?_; clear H4; rintro e w14 ⟨b4, d4, rfl, ho4, hB4⟩; have hA14 := bstep (a := w) (by repeat (first | exact hA13 | exact Below.refl _ _ | refine balloc2 ?_ | refine Below.drew ?_)) hB4; have hD14 := bstep (a := w12) (by repeat (first | exact hD13 | exact Below.refl _ _ | refine balloc2 ?_ | refine Below.drew ?_)) hB4; have hY4 := fun p v h => cell_later hB4 (p := p) (v := v) h; obtain ⟨x0, x1, x2, x3, x4, x5, x6, x7, x8, x9, x10, x11⟩ := (l12.all hD14).twelve)
        | (go_at_call 130; refine (unhide H5 _ (by repeat (first | exact hA14 | exact Below.refl _ _ | refine balloc2 ?_ | refine Below.drew ?_)) _ (ho4.keep (by repeat (first | exact Below.refl _ _ | exact Below.refl _ _ | refine balloc2 ?_ | refine Below.drew ?_)))).mono ?_; clear H5; rintro e w15 ⟨b5, d5, rfl, ho5, hB5⟩; have hA15 := bstep (a := w) (by repeat (first | exact hA14 | exact Below.refl _ _ | refine balloc2 ?_ | refine Below.drew ?_)) hB5; have hD15 := bstep (a := w12) (by repeat (first | exact hD14 | exact Below.refl _ _ | refine balloc2 ?_ | refine Below.drew ?_)) hB5; have hY5 := fun p v h => cell_later hB5 (p := p) (v := v) h; obtain ⟨x0, x1, x2, x3, x4, x5, x6, x7, x8, x9, x10, x11⟩ := (l12.all hD15).twelve))
    all_goals
      have l15 := l12.all hD15
      clear x0 x1 x2 x3 x4 x5 x6 x7 x8 x9 x10 x11 hY3 hB3 hD13 hY4 hB4 hD14 hY5 hB5 hD15 ho3 ho4 hA13 hA14
      obtain ⟨x0, x1, x2, x3, x4, x5, x6, x7, x8, x9, x10, x11⟩ := l15.twelve
      go_wp2_with fail
      clear x0 x1 x2 x3 x4 x5 x6 x7 x8 x9 x10 x11
      go_ret
      exact ⟨b5, d5, rfl, ho5, hA15⟩

set_option maxHeartbeats 12800000 in
theorem bytesS_2 (w : World) (o : OpV) (a1 a2 a3 : Option Addr) (c1 c2 c3 : Nat) (hk : Ints w (.slice a1 o.key.length c1) o.key) (hn : Byt w (.slice a2 o.name.length c2) o.name) (ht : Byt w (.slice a3 o.text.length c3) o.text) (hs : o.key.length ≤ 2097152) (k0 : o.kind = 2) :
    Calls Tryz.prog 93 #[opVal o (.slice a1 o.key.length c1) (.slice a2 o.name.length c2) (.slice a3 o.text.length c3)] w fun e w' => ∃ a c, e = .returned (.slice a (opBytes o).length c) ∧ Own w' w.heap.size (.slice a (opBytes o).length c) (opBytes o) ∧ Below w.heap.size w w' := by
  have HK := hide hk
  have HM := hide hn
  have HX := hide ht
  clear hk hn ht
  have Ln : ([] : List Int).length = 0 := rfl
  obtain ⟨r1, e1⟩ : ∃ r, r = putAll ([] : List Int) 2 := ⟨_, rfl⟩
  have L1 := putAll_len ([] : List Int) 2
  have H1 := hide (fun (W : World) (hW : Below w.heap.size w W) (v : Value) (h : Own W w.heap.size v ([] : List Int)) => rw_base (putS_own W v ([] : List Int) 2 h.byt (by omega)) hW.size)
  rw [← e1] at L1 H1
  obtain ⟨r2, e2⟩ : ∃ r, r = putId r1 o.atN o.atR := ⟨_, rfl⟩
  have L2 := putId_len r1 o.atN o.atR
  have H2 := hide (fun (W : World) (hW : Below w.heap.size w W) (v : Value) (h : Own W w.heap.size v r1) => rw_base (putIdS_any W v r1 o.atN o.atR h.byt (by omega)) hW.size)
  rw [← e2] at L2 H2
  obtain ⟨r3, e3⟩ : ∃ r, r = putId r2 o.nodeN o.nodeR := ⟨_, rfl⟩
  have L3 := putId_len r2 o.nodeN o.nodeR
  have H3 := hide (fun (W : World) (hW : Below w.heap.size w W) (v : Value) (h : Own W w.heap.size v r2) => rw_base (putIdS_any W v r2 o.nodeN o.nodeR h.byt (by omega)) hW.size)
  rw [← e3] at L3 H3
  obtain ⟨r4, e4⟩ : ∃ r, r = putT r3 o.text := ⟨_, rfl⟩
  have L4 := putT_len r3 o.text
  have H4 := hide (fun (W : World) (hW : Below w.heap.size w W) (v : Value) (h : Own W w.heap.size v r3) => rw_base (putTS_own2 W v _ r3 o.text h.byt ((unhide HX).keep hW) (by omega)) hW.size)
  rw [← e4] at L4 H4
  have HE := hide (show opBytes o = r4 by unfold opBytes opHd; rw [k0, if_neg (by decide), if_neg (by decide), if_pos rfl]; rw [e4, e3, e2, e1])
  clear e4 L4 e3 L3 e2 L2 e1 L1
  have hA0 : Below w.heap.size w (w.alloc (.cells #[.int .i64 2, .int .i64 o.atN, .int .i64 o.atR, .int .i64 o.nodeN, .int .i64 o.nodeR, .int .i64 o.parN, .int .i64 o.parR, .slice a1 o.key.length c1, .int .i64 o.elem, .slice a2 o.name.length c2, .slice a3 o.text.length c3, .bool o.gone] 28)) := (Below.refl w.heap.size w).alloc (Nat.le_refl _) _
  have l0 := Loc.made w #[.int .i64 2, .int .i64 o.atN, .int .i64 o.atR, .int .i64 o.nodeN, .int .i64 o.nodeR, .int .i64 o.parN, .int .i64 o.parR, .slice a1 o.key.length c1, .int .i64 o.elem, .slice a2 o.name.length c2, .slice a3 o.text.length c3, .bool o.gone] 28
  rw [unhide HE]
  clear HE
  unfold opVal
  rw [k0]
  go_enter Tryz.func93, Tryz.ntmps93
  go_wp2_with fail
  generalize (w.alloc (.cells #[.int .i64 2, .int .i64 o.atN, .int .i64 o.atR, .int .i64 o.nodeN, .int .i64 o.nodeR, .int .i64 o.parN, .int .i64 o.parR, .slice a1 o.key.length c1, .int .i64 o.elem, .slice a2 o.name.length c2, .slice a3 o.text.length c3, .bool o.gone] 28)) = w0 at *
  obtain ⟨x0, x1, x2, x3, x4, x5, x6, x7, x8, x9, x10, x11⟩ := l0.twelve
  go_region_held3 (fun w' => w'.cell? ⟨w.heap.size, 0, none⟩ = some (.int .i64 2) ∧ w'.cell? ⟨w.heap.size, 1, none⟩ = some (.int .i64 o.atN) ∧ w'.cell? ⟨w.heap.size, 2, none⟩ = some (.int .i64 o.atR))
    (first | exact ⟨by assumption, by assumption, by assumption⟩ | go_keep)
    (first
      | (go_at_call 129; refine (unhide H1 _ (by repeat (first | exact hA0 | exact Below.refl _ _ | refine balloc2 ?_ | refine Below.drew ?_)) _ (own_nil2 _ _)).mono ?_; clear H1; rintro e w11 ⟨b1, d1, rfl, ho1, hB1⟩; have hA11 := bstep (a := w) (by repeat (first | exact hA0 | exact Below.refl _ _ | refine balloc2 ?_ | refine Below.drew ?_)) hB1; have hD11 := bstep (a := w0) (by repeat (first | exact Below.refl _ _ | exact Below.refl _ _ | refine balloc2 ?_ | refine Below.drew ?_)) hB1; have hY1 := fun p v h => cell_later hB1 (p := p) (v := v) h; obtain ⟨x0, x1, x2, x3, x4, x5, x6, x7, x8, x9, x10, x11⟩ := (l0.all hD11).twelve)
      | (go_at_call 128; refine (unhide H2 _ (by repeat (first | exact hA11 | exact Below.refl _ _ | refine balloc2 ?_ | refine Below.drew ?_)) _ (ho1.keep (by repeat (first | exact Below.refl _ _ | exact Below.refl _ _ | refine balloc2 ?_ | refine Below.drew ?_)))).mono ?_; clear H2; rintro e w12 ⟨b2, d2, rfl, ho2, hB2⟩; have hA12 := bstep (a := w) (by repeat (first | exact hA11 | exact Below.refl _ _ | refine balloc2 ?_ | refine Below.drew ?_)) hB2; have hD12 := bstep (a := w0) (by repeat (first | exact hD11 | exact Below.refl _ _ | refine balloc2 ?_ | refine Below.drew ?_)) hB2; have hY2 := fun p v h => cell_later hB2 (p := p) (v := v) h; obtain ⟨x0, x1, x2, x3, x4, x5, x6, x7, x8, x9, x10, x11⟩ := (l0.all hD12).twelve))
  all_goals
    have l12 := l0.all hD12
    clear x0 x1 x2 x3 x4 x5 x6 x7 x8 x9 x10 x11 hY1 hB1 hD11 hY2 hB2 hD12 ho1 hA11
    obtain ⟨x0, x1, x2, x3, x4, x5, x6, x7, x8, x9, x10, x11⟩ := l12.twelve
    go_wp2_with fail
    clear x0 x1 x2 x3 x4 x5 x6 x7 x8 x9 x10 x11
    obtain ⟨x0, x1, x2, x3, x4, x5, x6, x7, x8, x9, x10, x11⟩ := l12.twelve
    go_region_held3 (fun w' => w'.cell? ⟨w.heap.size, 3, none⟩ = some (.int .i64 o.nodeN) ∧ w'.cell? ⟨w.heap.size, 4, none⟩ = some (.int .i64 o.nodeR) ∧ w'.cell? ⟨w.heap.size, 10, none⟩ = some (.slice a3 o.text.length c3))
      (first | exact ⟨by assumption, by assumption, by assumption⟩ | go_keep)
      (first
        | (go_at_call 128; refine (unhide H3 _ (by repeat (first | exact hA12 | exact Below.refl _ _ | refine balloc2 ?_ | refine Below.drew ?_)) _ (ho2.keep (by repeat (first | exact Below.refl _ _ | exact Below.refl _ _ | refine balloc2 ?_ | refine Below.drew ?_)))).mono ?_; clear H3; rintro e w13 ⟨b3, d3, rfl, ho3, hB3⟩; have hA13 := bstep (a := w) (by repeat (first | exact hA12 | exact Below.refl _ _ | refine balloc2 ?_ | refine Below.drew ?_)) hB3; have hD13 := bstep (a := w12) (by repeat (first | exact Below.refl _ _ | exact Below.refl _ _ | refine balloc2 ?_ | refine Below.drew ?_)) hB3; have hY3 := fun p v h => cell_later hB3 (p := p) (v := v) h; obtain ⟨x0, x1, x2, x3, x4, x5, x6, x7, x8, x9, x10, x11⟩ := (l12.all hD13).twelve)
        | (go_at_call 131; refine (unhide H4 _ (by repeat (first | exact hA13 | exact Below.refl _ _ | refine balloc2 ?_ | refine Below.drew ?_)) _ (ho3.keep (by repeat (first | exact Below.refl _ _ | exact Below.refl _ _ | refine balloc2 ?_ | refine Below.drew ?_)))).mono ?_; clear H4; rintro e w14 ⟨b4, d4, rfl, ho4, hB4⟩; have hA14 := bstep (a := w) (by repeat (first | exact hA13 | exact Below.refl _ _ | refine balloc2 ?_ | refine Below.drew ?_)) hB4; have hD14 := bstep (a := w12) (by repeat (first | exact hD13 | exact Below.refl _ _ | refine balloc2 ?_ | refine Below.drew ?_)) hB4; have hY4 := fun p v h => cell_later hB4 (p := p) (v := v) h; obtain ⟨x0, x1, x2, x3, x4, x5, x6, x7, x8, x9, x10, x11⟩ := (l12.all hD14).twelve))
    all_goals
      have l14 := l12.all hD14
      clear x0 x1 x2 x3 x4 x5 x6 x7 x8 x9 x10 x11 hY3 hB3 hD13 hY4 hB4 hD14 ho3 hA13
      obtain ⟨x0, x1, x2, x3, x4, x5, x6, x7, x8, x9, x10, x11⟩ := l14.twelve
      go_wp2_with fail
      clear x0 x1 x2 x3 x4 x5 x6 x7 x8 x9 x10 x11
      go_ret
      exact ⟨b4, d4, rfl, ho4, hA14⟩

set_option maxHeartbeats 12800000 in
theorem bytesS_g (w : World) (o : OpV) (a1 a2 a3 : Option Addr) (c1 c2 c3 : Nat) (hk : Ints w (.slice a1 o.key.length c1) o.key) (hn : Byt w (.slice a2 o.name.length c2) o.name) (ht : Byt w (.slice a3 o.text.length c3) o.text) (hs : o.key.length ≤ 2097152) (k0 : o.kind ≠ 0) (k1 : o.kind ≠ 1) (k2 : o.kind ≠ 2) (hg : o.gone = true) :
    Calls Tryz.prog 93 #[opVal o (.slice a1 o.key.length c1) (.slice a2 o.name.length c2) (.slice a3 o.text.length c3)] w fun e w' => ∃ a c, e = .returned (.slice a (opBytes o).length c) ∧ Own w' w.heap.size (.slice a (opBytes o).length c) (opBytes o) ∧ Below w.heap.size w w' := by
  have HK := hide hk
  have HM := hide hn
  have HX := hide ht
  clear hk hn ht
  have Ln : ([] : List Int).length = 0 := rfl
  obtain ⟨r1, e1⟩ : ∃ r, r = putAll ([] : List Int) o.kind := ⟨_, rfl⟩
  have L1 := putAll_len ([] : List Int) o.kind
  have H1 := hide (fun (W : World) (hW : Below w.heap.size w W) (v : Value) (h : Own W w.heap.size v ([] : List Int)) => rw_base (putS_own W v ([] : List Int) o.kind h.byt (by omega)) hW.size)
  rw [← e1] at L1 H1
  obtain ⟨r2, e2⟩ : ∃ r, r = putId r1 o.atN o.atR := ⟨_, rfl⟩
  have L2 := putId_len r1 o.atN o.atR
  have H2 := hide (fun (W : World) (hW : Below w.heap.size w W) (v : Value) (h : Own W w.heap.size v r1) => rw_base (putIdS_any W v r1 o.atN o.atR h.byt (by omega)) hW.size)
  rw [← e2] at L2 H2
  obtain ⟨r3, e3⟩ : ∃ r, r = putId r2 o.nodeN o.nodeR := ⟨_, rfl⟩
  have L3 := putId_len r2 o.nodeN o.nodeR
  have H3 := hide (fun (W : World) (hW : Below w.heap.size w W) (v : Value) (h : Own W w.heap.size v r2) => rw_base (putIdS_any W v r2 o.nodeN o.nodeR h.byt (by omega)) hW.size)
  rw [← e3] at L3 H3
  obtain ⟨r4, e4⟩ : ∃ r, r = putT r3 o.name := ⟨_, rfl⟩
  have L4 := putT_len r3 o.name
  have H4 := hide (fun (W : World) (hW : Below w.heap.size w W) (v : Value) (h : Own W w.heap.size v r3) => rw_base (putTS_own2 W v _ r3 o.name h.byt ((unhide HM).keep hW) (by omega)) hW.size)
  rw [← e4] at L4 H4
  obtain ⟨r5, e5⟩ : ∃ r, r = putAll r4 1 := ⟨_, rfl⟩
  have L5 := putAll_len r4 1
  have H5 := hide (fun (W : World) (hW : Below w.heap.size w W) (v : Value) (h : Own W w.heap.size v r4) => rw_base (putS_own W v r4 1 h.byt (by omega)) hW.size)
  rw [← e5] at L5 H5
  have HE := hide (show opBytes o = r5 by unfold opBytes opHd; rw [if_neg k0, if_neg k1, if_neg k2, if_pos hg]; rw [e5, e4, e3, e2, e1])
  clear e5 L5 e4 L4 e3 L3 e2 L2 e1 L1
  have hA0 : Below w.heap.size w (w.alloc (.cells #[.int .i64 o.kind, .int .i64 o.atN, .int .i64 o.atR, .int .i64 o.nodeN, .int .i64 o.nodeR, .int .i64 o.parN, .int .i64 o.parR, .slice a1 o.key.length c1, .int .i64 o.elem, .slice a2 o.name.length c2, .slice a3 o.text.length c3, .bool o.gone] 28)) := (Below.refl w.heap.size w).alloc (Nat.le_refl _) _
  have l0 := Loc.made w #[.int .i64 o.kind, .int .i64 o.atN, .int .i64 o.atR, .int .i64 o.nodeN, .int .i64 o.nodeR, .int .i64 o.parN, .int .i64 o.parR, .slice a1 o.key.length c1, .int .i64 o.elem, .slice a2 o.name.length c2, .slice a3 o.text.length c3, .bool o.gone] 28
  rw [unhide HE]
  clear HE
  unfold opVal
  have q0 : (o.kind == 0) = false := by simpa using k0
  have q1 : (o.kind == 1) = false := by simpa using k1
  have q2 : (o.kind == 2) = false := by simpa using k2
  clear k0 k1 k2
  have HG := hide hg
  clear hg
  go_enter Tryz.func93, Tryz.ntmps93
  go_wp2_with fail
  generalize (w.alloc (.cells #[.int .i64 o.kind, .int .i64 o.atN, .int .i64 o.atR, .int .i64 o.nodeN, .int .i64 o.nodeR, .int .i64 o.parN, .int .i64 o.parR, .slice a1 o.key.length c1, .int .i64 o.elem, .slice a2 o.name.length c2, .slice a3 o.text.length c3, .bool o.gone] 28)) = w0 at *
  obtain ⟨x0, x1, x2, x3, x4, x5, x6, x7, x8, x9, x10, x11⟩ := l0.twelve
  go_region_held3 (fun w' => w'.cell? ⟨w.heap.size, 0, none⟩ = some (.int .i64 o.kind) ∧ w'.cell? ⟨w.heap.size, 1, none⟩ = some (.int .i64 o.atN) ∧ w'.cell? ⟨w.heap.size, 2, none⟩ = some (.int .i64 o.atR))
    (first | exact ⟨by assumption, by assumption, by assumption⟩ | go_keep)
    (first
      | (go_at_call 129; refine (unhide H1 _ (by repeat (first | exact hA0 | exact Below.refl _ _ | refine balloc2 ?_ | refine Below.drew ?_)) _ (own_nil2 _ _)).mono ?_; clear H1; rintro e w11 ⟨b1, d1, rfl, ho1, hB1⟩; have hA11 := bstep (a := w) (by repeat (first | exact hA0 | exact Below.refl _ _ | refine balloc2 ?_ | refine Below.drew ?_)) hB1; have hD11 := bstep (a := w0) (by repeat (first | exact Below.refl _ _ | exact Below.refl _ _ | refine balloc2 ?_ | refine Below.drew ?_)) hB1; have hY1 := fun p v h => cell_later hB1 (p := p) (v := v) h; obtain ⟨x0, x1, x2, x3, x4, x5, x6, x7, x8, x9, x10, x11⟩ := (l0.all hD11).twelve)
      | (go_at_call 128; refine (unhide H2 _ (by repeat (first | exact hA11 | exact Below.refl _ _ | refine balloc2 ?_ | refine Below.drew ?_)) _ (ho1.keep (by repeat (first | exact Below.refl _ _ | exact Below.refl _ _ | refine balloc2 ?_ | refine Below.drew ?_)))).mono ?_; clear H2; rintro e w12 ⟨b2, d2, rfl, ho2, hB2⟩; have hA12 := bstep (a := w) (by repeat (first | exact hA11 | exact Below.refl _ _ | refine balloc2 ?_ | refine Below.drew ?_)) hB2; have hD12 := bstep (a := w0) (by repeat (first | exact hD11 | exact Below.refl _ _ | refine balloc2 ?_ | refine Below.drew ?_)) hB2; have hY2 := fun p v h => cell_later hB2 (p := p) (v := v) h; obtain ⟨x0, x1, x2, x3, x4, x5, x6, x7, x8, x9, x10, x11⟩ := (l0.all hD12).twelve))
  all_goals
    have l12 := l0.all hD12
    clear x0 x1 x2 x3 x4 x5 x6 x7 x8 x9 x10 x11 hY1 hB1 hD11 hY2 hB2 hD12 ho1 hA11
    obtain ⟨x0, x1, x2, x3, x4, x5, x6, x7, x8, x9, x10, x11⟩ := l12.twelve
    go_wp2_with fail
    clear x0 x1 x2 x3 x4 x5 x6 x7 x8 x9 x10 x11
    obtain ⟨x0, x1, x2, x3, x4, x5, x6, x7, x8, x9, x10, x11⟩ := l12.twelve
    go_region_held3 (fun w' => w'.cell? ⟨w.heap.size, 3, none⟩ = some (.int .i64 o.nodeN) ∧ w'.cell? ⟨w.heap.size, 4, none⟩ = some (.int .i64 o.nodeR) ∧ w'.cell? ⟨w.heap.size, 9, none⟩ = some (.slice a2 o.name.length c2))
      (first | exact ⟨by assumption, by assumption, by assumption⟩ | go_keep)
      (first
        | (go_at_call 128; refine (unhide H3 _ (by repeat (first | exact hA12 | exact Below.refl _ _ | refine balloc2 ?_ | refine Below.drew ?_)) _ (ho2.keep (by repeat (first | exact Below.refl _ _ | exact Below.refl _ _ | refine balloc2 ?_ | refine Below.drew ?_)))).mono ?_; clear H3; rintro e w13 ⟨b3, d3, rfl, ho3, hB3⟩; have hA13 := bstep (a := w) (by repeat (first | exact hA12 | exact Below.refl _ _ | refine balloc2 ?_ | refine Below.drew ?_)) hB3; have hD13 := bstep (a := w12) (by repeat (first | exact Below.refl _ _ | exact Below.refl _ _ | refine balloc2 ?_ | refine Below.drew ?_)) hB3; have hY3 := fun p v h => cell_later hB3 (p := p) (v := v) h; obtain ⟨x0, x1, x2, x3, x4, x5, x6, x7, x8, x9, x10, x11⟩ := (l12.all hD13).twelve)
        | (go_at_call 131; refine (unhide H4 _ (by repeat (first | exact hA13 | exact Below.refl _ _ | refine balloc2 ?_ | refine Below.drew ?_)) _ (ho3.keep (by repeat (first | exact Below.refl _ _ | exact Below.refl _ _ | refine balloc2 ?_ | refine Below.drew ?_)))).mono ?_; clear H4; rintro e w14 ⟨b4, d4, rfl, ho4, hB4⟩; have hA14 := bstep (a := w) (by repeat (first | exact hA13 | exact Below.refl _ _ | refine balloc2 ?_ | refine Below.drew ?_)) hB4; have hD14 := bstep (a := w12) (by repeat (first | exact hD13 | exact Below.refl _ _ | refine balloc2 ?_ | refine Below.drew ?_)) hB4; have hY4 := fun p v h => cell_later hB4 (p := p) (v := v) h; obtain ⟨x0, x1, x2, x3, x4, x5, x6, x7, x8, x9, x10, x11⟩ := (l12.all hD14).twelve))
    all_goals
      have l14 := l12.all hD14
      clear x0 x1 x2 x3 x4 x5 x6 x7 x8 x9 x10 x11 hY3 hB3 hD13 hY4 hB4 hD14 ho3 hA13
      obtain ⟨x0, x1, x2, x3, x4, x5, x6, x7, x8, x9, x10, x11⟩ := l14.twelve
      rw [unhide HG] at x11
      go_wp2_with fail
      clear x0 x1 x2 x3 x4 x5 x6 x7 x8 x9
      clear x10 x11
      refine (unhide H5 _ hA14 _ ho4).mono ?_
      rintro e w15 ⟨b5, d5, rfl, ho5, hB5⟩
      have hA15 := bstep hA14 hB5
      go_wp2_with fail
      go_ret
      exact ⟨b5, d5, rfl, ho5, hA15⟩

set_option maxHeartbeats 12800000 in
theorem bytesS_n (w : World) (o : OpV) (a1 a2 a3 : Option Addr) (c1 c2 c3 : Nat) (hk : Ints w (.slice a1 o.key.length c1) o.key) (hn : Byt w (.slice a2 o.name.length c2) o.name) (ht : Byt w (.slice a3 o.text.length c3) o.text) (hs : o.key.length ≤ 2097152) (k0 : o.kind ≠ 0) (k1 : o.kind ≠ 1) (k2 : o.kind ≠ 2) (hg : o.gone = false) :
    Calls Tryz.prog 93 #[opVal o (.slice a1 o.key.length c1) (.slice a2 o.name.length c2) (.slice a3 o.text.length c3)] w fun e w' => ∃ a c, e = .returned (.slice a (opBytes o).length c) ∧ Own w' w.heap.size (.slice a (opBytes o).length c) (opBytes o) ∧ Below w.heap.size w w' := by
  have HK := hide hk
  have HM := hide hn
  have HX := hide ht
  clear hk hn ht
  have Ln : ([] : List Int).length = 0 := rfl
  obtain ⟨r1, e1⟩ : ∃ r, r = putAll ([] : List Int) o.kind := ⟨_, rfl⟩
  have L1 := putAll_len ([] : List Int) o.kind
  have H1 := hide (fun (W : World) (hW : Below w.heap.size w W) (v : Value) (h : Own W w.heap.size v ([] : List Int)) => rw_base (putS_own W v ([] : List Int) o.kind h.byt (by omega)) hW.size)
  rw [← e1] at L1 H1
  obtain ⟨r2, e2⟩ : ∃ r, r = putId r1 o.atN o.atR := ⟨_, rfl⟩
  have L2 := putId_len r1 o.atN o.atR
  have H2 := hide (fun (W : World) (hW : Below w.heap.size w W) (v : Value) (h : Own W w.heap.size v r1) => rw_base (putIdS_any W v r1 o.atN o.atR h.byt (by omega)) hW.size)
  rw [← e2] at L2 H2
  obtain ⟨r3, e3⟩ : ∃ r, r = putId r2 o.nodeN o.nodeR := ⟨_, rfl⟩
  have L3 := putId_len r2 o.nodeN o.nodeR
  have H3 := hide (fun (W : World) (hW : Below w.heap.size w W) (v : Value) (h : Own W w.heap.size v r2) => rw_base (putIdS_any W v r2 o.nodeN o.nodeR h.byt (by omega)) hW.size)
  rw [← e3] at L3 H3
  obtain ⟨r4, e4⟩ : ∃ r, r = putT r3 o.name := ⟨_, rfl⟩
  have L4 := putT_len r3 o.name
  have H4 := hide (fun (W : World) (hW : Below w.heap.size w W) (v : Value) (h : Own W w.heap.size v r3) => rw_base (putTS_own2 W v _ r3 o.name h.byt ((unhide HM).keep hW) (by omega)) hW.size)
  rw [← e4] at L4 H4
  obtain ⟨r5, e5⟩ : ∃ r, r = putAll r4 0 := ⟨_, rfl⟩
  have L5 := putAll_len r4 0
  have H5 := hide (fun (W : World) (hW : Below w.heap.size w W) (v : Value) (h : Own W w.heap.size v r4) => rw_base (putS_own W v r4 0 h.byt (by omega)) hW.size)
  rw [← e5] at L5 H5
  obtain ⟨r6, e6⟩ : ∃ r, r = putT r5 o.text := ⟨_, rfl⟩
  have L6 := putT_len r5 o.text
  have H6 := hide (fun (W : World) (hW : Below w.heap.size w W) (v : Value) (h : Own W w.heap.size v r5) => rw_base (putTS_own2 W v _ r5 o.text h.byt ((unhide HX).keep hW) (by omega)) hW.size)
  rw [← e6] at L6 H6
  have HE := hide (show opBytes o = r6 by unfold opBytes opHd; rw [if_neg k0, if_neg k1, if_neg k2, if_neg (by rw [hg]; decide)]; rw [e6, e5, e4, e3, e2, e1])
  clear e6 L6 e5 L5 e4 L4 e3 L3 e2 L2 e1 L1
  have hA0 : Below w.heap.size w (w.alloc (.cells #[.int .i64 o.kind, .int .i64 o.atN, .int .i64 o.atR, .int .i64 o.nodeN, .int .i64 o.nodeR, .int .i64 o.parN, .int .i64 o.parR, .slice a1 o.key.length c1, .int .i64 o.elem, .slice a2 o.name.length c2, .slice a3 o.text.length c3, .bool o.gone] 28)) := (Below.refl w.heap.size w).alloc (Nat.le_refl _) _
  have l0 := Loc.made w #[.int .i64 o.kind, .int .i64 o.atN, .int .i64 o.atR, .int .i64 o.nodeN, .int .i64 o.nodeR, .int .i64 o.parN, .int .i64 o.parR, .slice a1 o.key.length c1, .int .i64 o.elem, .slice a2 o.name.length c2, .slice a3 o.text.length c3, .bool o.gone] 28
  rw [unhide HE]
  clear HE
  unfold opVal
  have q0 : (o.kind == 0) = false := by simpa using k0
  have q1 : (o.kind == 1) = false := by simpa using k1
  have q2 : (o.kind == 2) = false := by simpa using k2
  clear k0 k1 k2
  have HG := hide hg
  clear hg
  go_enter Tryz.func93, Tryz.ntmps93
  go_wp2_with fail
  generalize (w.alloc (.cells #[.int .i64 o.kind, .int .i64 o.atN, .int .i64 o.atR, .int .i64 o.nodeN, .int .i64 o.nodeR, .int .i64 o.parN, .int .i64 o.parR, .slice a1 o.key.length c1, .int .i64 o.elem, .slice a2 o.name.length c2, .slice a3 o.text.length c3, .bool o.gone] 28)) = w0 at *
  obtain ⟨x0, x1, x2, x3, x4, x5, x6, x7, x8, x9, x10, x11⟩ := l0.twelve
  go_region_held3 (fun w' => w'.cell? ⟨w.heap.size, 0, none⟩ = some (.int .i64 o.kind) ∧ w'.cell? ⟨w.heap.size, 1, none⟩ = some (.int .i64 o.atN) ∧ w'.cell? ⟨w.heap.size, 2, none⟩ = some (.int .i64 o.atR))
    (first | exact ⟨by assumption, by assumption, by assumption⟩ | go_keep)
    (first
      | (go_at_call 129; refine (unhide H1 _ (by repeat (first | exact hA0 | exact Below.refl _ _ | refine balloc2 ?_ | refine Below.drew ?_)) _ (own_nil2 _ _)).mono ?_; clear H1; rintro e w11 ⟨b1, d1, rfl, ho1, hB1⟩; have hA11 := bstep (a := w) (by repeat (first | exact hA0 | exact Below.refl _ _ | refine balloc2 ?_ | refine Below.drew ?_)) hB1; have hD11 := bstep (a := w0) (by repeat (first | exact Below.refl _ _ | exact Below.refl _ _ | refine balloc2 ?_ | refine Below.drew ?_)) hB1; have hY1 := fun p v h => cell_later hB1 (p := p) (v := v) h; obtain ⟨x0, x1, x2, x3, x4, x5, x6, x7, x8, x9, x10, x11⟩ := (l0.all hD11).twelve)
      | (go_at_call 128; refine (unhide H2 _ (by repeat (first | exact hA11 | exact Below.refl _ _ | refine balloc2 ?_ | refine Below.drew ?_)) _ (ho1.keep (by repeat (first | exact Below.refl _ _ | exact Below.refl _ _ | refine balloc2 ?_ | refine Below.drew ?_)))).mono ?_; clear H2; rintro e w12 ⟨b2, d2, rfl, ho2, hB2⟩; have hA12 := bstep (a := w) (by repeat (first | exact hA11 | exact Below.refl _ _ | refine balloc2 ?_ | refine Below.drew ?_)) hB2; have hD12 := bstep (a := w0) (by repeat (first | exact hD11 | exact Below.refl _ _ | refine balloc2 ?_ | refine Below.drew ?_)) hB2; have hY2 := fun p v h => cell_later hB2 (p := p) (v := v) h; obtain ⟨x0, x1, x2, x3, x4, x5, x6, x7, x8, x9, x10, x11⟩ := (l0.all hD12).twelve))
  all_goals
    have l12 := l0.all hD12
    clear x0 x1 x2 x3 x4 x5 x6 x7 x8 x9 x10 x11 hY1 hB1 hD11 hY2 hB2 hD12 ho1 hA11
    obtain ⟨x0, x1, x2, x3, x4, x5, x6, x7, x8, x9, x10, x11⟩ := l12.twelve
    go_wp2_with fail
    clear x0 x1 x2 x3 x4 x5 x6 x7 x8 x9 x10 x11
    obtain ⟨x0, x1, x2, x3, x4, x5, x6, x7, x8, x9, x10, x11⟩ := l12.twelve
    go_region_held3 (fun w' => w'.cell? ⟨w.heap.size, 3, none⟩ = some (.int .i64 o.nodeN) ∧ w'.cell? ⟨w.heap.size, 4, none⟩ = some (.int .i64 o.nodeR) ∧ w'.cell? ⟨w.heap.size, 9, none⟩ = some (.slice a2 o.name.length c2))
      (first | exact ⟨by assumption, by assumption, by assumption⟩ | go_keep)
      (first
        | (go_at_call 128; refine (unhide H3 _ (by repeat (first | exact hA12 | exact Below.refl _ _ | refine balloc2 ?_ | refine Below.drew ?_)) _ (ho2.keep (by repeat (first | exact Below.refl _ _ | exact Below.refl _ _ | refine balloc2 ?_ | refine Below.drew ?_)))).mono ?_; clear H3; rintro e w13 ⟨b3, d3, rfl, ho3, hB3⟩; have hA13 := bstep (a := w) (by repeat (first | exact hA12 | exact Below.refl _ _ | refine balloc2 ?_ | refine Below.drew ?_)) hB3; have hD13 := bstep (a := w12) (by repeat (first | exact Below.refl _ _ | exact Below.refl _ _ | refine balloc2 ?_ | refine Below.drew ?_)) hB3; have hY3 := fun p v h => cell_later hB3 (p := p) (v := v) h; obtain ⟨x0, x1, x2, x3, x4, x5, x6, x7, x8, x9, x10, x11⟩ := (l12.all hD13).twelve)
        | (go_at_call 131; refine (unhide H4 _ (by repeat (first | exact hA13 | exact Below.refl _ _ | refine balloc2 ?_ | refine Below.drew ?_)) _ (ho3.keep (by repeat (first | exact Below.refl _ _ | exact Below.refl _ _ | refine balloc2 ?_ | refine Below.drew ?_)))).mono ?_; clear H4; rintro e w14 ⟨b4, d4, rfl, ho4, hB4⟩; have hA14 := bstep (a := w) (by repeat (first | exact hA13 | exact Below.refl _ _ | refine balloc2 ?_ | refine Below.drew ?_)) hB4; have hD14 := bstep (a := w12) (by repeat (first | exact hD13 | exact Below.refl _ _ | refine balloc2 ?_ | refine Below.drew ?_)) hB4; have hY4 := fun p v h => cell_later hB4 (p := p) (v := v) h; obtain ⟨x0, x1, x2, x3, x4, x5, x6, x7, x8, x9, x10, x11⟩ := (l12.all hD14).twelve))
    all_goals
      have l14 := l12.all hD14
      clear x0 x1 x2 x3 x4 x5 x6 x7 x8 x9 x10 x11 hY3 hB3 hD13 hY4 hB4 hD14 ho3 hA13
      obtain ⟨x0, x1, x2, x3, x4, x5, x6, x7, x8, x9, x10, x11⟩ := l14.twelve
      rw [unhide HG] at x11
      go_wp2_with fail
      clear x0 x1 x2 x3 x4 x5 x6 x7 x8 x9
      go_region_held3 (fun w' => w'.cell? ⟨w.heap.size, 10, none⟩ = some (.slice a3 o.text.length c3))
        (first | assumption | go_keep)
        (first
          | (go_at_call 129; refine (unhide H5 _ (by repeat (first | exact hA14 | exact Below.refl _ _ | refine balloc2 ?_ | refine Below.drew ?_)) _ (ho4.keep (by repeat (first | exact Below.refl _ _ | exact Below.refl _ _ | refine balloc2 ?_ | refine Below.drew ?_)))).mono ?_; clear H5; rintro e w15 ⟨b5, d5, rfl, ho5, hB5⟩; have hA15 := bstep (a := w) (by repeat (first | exact hA14 | exact Below.refl _ _ | refine balloc2 ?_ | refine Below.drew ?_)) hB5; have hD15 := bstep (a := w14) (by repeat (first | exact Below.refl _ _ | exact Below.refl _ _ | refine balloc2 ?_ | refine Below.drew ?_)) hB5; have x10 := (l14.all hD15).twelve.2.2.2.2.2.2.2.2.2.2.1)
          | (go_at_call 131; refine (unhide H6 _ hA15 _ ho5).mono ?_; clear H6; rintro e w16 ⟨b6, d6, rfl, ho6, hB6⟩; have hA16 := bstep (a := w) hA15 hB6; have hD16 := bstep (a := w14) hD15 hB6; have x10 := (l14.all hD16).twelve.2.2.2.2.2.2.2.2.2.2.1))
      all_goals
        go_wp2_with fail
        go_ret
        exact ⟨b6, d6, rfl, ho6, hA16⟩

/-- spec.l4bytes, whatever it is asked. -/
theorem bytesS_any (w : World) (v : Value) (o : OpV) (h : RdOp w v o) (hs : o.key.length ≤ 2097152) :
    Calls Tryz.prog 93 #[v] w fun e w' => ∃ a c, e = .returned (.slice a (opBytes o).length c) ∧ Own w' w.heap.size (.slice a (opBytes o).length c) (opBytes o) ∧ Below w.heap.size w w' := by
  obtain ⟨k, n, t, rfl, hk, hn, ht⟩ := h
  obtain ⟨a1, c1, rfl, _, _⟩ := hk.shape
  obtain ⟨a2, c2, rfl, _, _⟩ := hn.shape
  obtain ⟨a3, c3, rfl, _, _⟩ := ht.shape
  by_cases k0 : o.kind = 0
  · exact bytesS_0 w o a1 a2 a3 c1 c2 c3 hk hn ht hs k0
  by_cases k1 : o.kind = 1
  · exact bytesS_1 w o a1 a2 a3 c1 c2 c3 hk hn ht hs k1
  by_cases k2 : o.kind = 2
  · exact bytesS_2 w o a1 a2 a3 c1 c2 c3 hk hn ht hs k2
  rcases Bool.eq_false_or_eq_true o.gone with hg | hg
  · exact bytesS_g w o a1 a2 a3 c1 c2 c3 hk hn ht hs k0 k1 k2 hg
  · exact bytesS_n w o a1 a2 a3 c1 c2 c3 hk hn ht hs k0 k1 k2 hg
end Go.Proofs.YtkmmhlimihkgfaaGreat

/- spec.l5put. -/
namespace Go.Proofs.YtkmmhlimihkgfaaGreat
open Go.RowKit
set_option linter.unusedVariables false
set_option maxRecDepth 100000

theorem bstepF {a b c : World} {S : List Nat} (h : Below a.heap.size a b) (f : Frm b c S) (hs : ∀ g ∈ S, a.heap.size ≤ g) : Below a.heap.size a c := h.trans (f.below h.size hs)
/-- The operations with one more put among them. -/
def putL (l : List OpV) (o : OpV) : List OpV :=
  if there l o.atN o.atR then (if klB (opBytes o) (opBytes (l.getD (posO l o.atN o.atR) o)) then l.set (posO l o.atN o.atR) o else l)
  else if 150 ≤ l.length then l else l.take (posO l o.atN o.atR) ++ [o] ++ l.drop (posO l o.atN o.atR)
def putOk (l : List OpV) (o : OpV) : Bool := there l o.atN o.atR || decide (l.length < 150)

/-- What l5put hands on: the row that it got, or one of its own of operations that were there. -/
def PutR (w0 : World) (B : Nat) (w' : World) (v u : Value) (l pl : List OpV) : Prop := (u = v ∧ pl = l) ∨ ShOps w0 w' B u pl
theorem ShOps.low {w0 w : World} {b b' : Nat} {v : Value} {l : List OpV} (h : ShOps w0 w b v l) (hb : b' ≤ b) : ShOps w0 w b' v l := by
  obtain ⟨Cs, z1, z2, z3⟩ := h
  exact ⟨Cs, z1, z2, ownsRow_base z3 b' hb⟩

set_option maxHeartbeats 200000000 in
theorem l5put_sh (w0 w : World) (hB00 : Below w0.heap.size w0 w) (v vo : Value) (l : List OpV) (o : OpV) (h : RdOps w0 v l) (ho : RdOp w0 vo o) (hl : l.length ≤ 150) (hk : o.key.length ≤ 2097152) (hkl : ∀ x ∈ l, x.key.length ≤ 2097152) :
    Calls Tryz.prog 46 #[v, vo] w fun e w' => ∃ u, e = .returned (.tuple #[u, .bool (putOk l o)]) ∧ PutR w0 w.heap.size w' v u l (putL l o) ∧ Below w.heap.size w w' := by
  have HBO := hide (fun W (hW : Below w.heap.size w W) => bytesS_any W vo o ((ho.keep hB00).keep hW) hk)
  obtain ⟨k, n, t, rfl, hk0, hn0, ht0⟩ := ho
  obtain ⟨ak, ck, rfl, _, _⟩ := hk0.shape
  obtain ⟨an, cn, rfl, _, _⟩ := hn0.shape
  obtain ⟨tt, ct, rfl, _, _⟩ := ht0.shape
  have HRD := hide (And.intro hk0 (And.intro hn0 ht0))
  clear hk0 hn0 ht0
  unfold opVal at HBO ⊢
  have hA := (Below.refl w.heap.size w).alloc (Nat.le_refl _) (.cells #[.int .i64 o.kind, .int .i64 o.atN, .int .i64 o.atR, .int .i64 o.nodeN, .int .i64 o.nodeR, .int .i64 o.parN, .int .i64 o.parR, .slice ak o.key.length ck, .int .i64 o.elem, .slice an o.name.length cn, .slice tt o.text.length ct, .bool o.gone] 28)
  have lo := Loc.made w #[.int .i64 o.kind, .int .i64 o.atN, .int .i64 o.atR, .int .i64 o.nodeN, .int .i64 o.nodeR, .int .i64 o.parN, .int .i64 o.parR, .slice ak o.key.length ck, .int .i64 o.elem, .slice an o.name.length cn, .slice tt o.text.length ct, .bool o.gone] 28
  have hR := (h.keep hB00).keep hA
  have HRO := hide hR
  have HR0 := hide h
  have HZ0 := hide (bstep hB00 hA)
  obtain ⟨av, cv, rfl, _, _⟩ := Elems.shape h
  have HAT := hide (fun j (hj : j < l.length) => (show ∃ b off cap, (Value.slice av l.length cv) = .slice (some ⟨b, off, none⟩) l.length cap ∧ b < (w.alloc (.cells #[.int .i64 o.kind, .int .i64 o.atN, .int .i64 o.atR, .int .i64 o.nodeN, .int .i64 o.nodeR, .int .i64 o.parN, .int .i64 o.parR, .slice ak o.key.length ck, .int .i64 o.elem, .slice an o.name.length cn, .slice tt o.text.length ct, .bool o.gone] 28)).heap.size ∧ ∃ C : List Value, C.length = 12 ∧ (∀ i, i < 12 → (w.alloc (.cells #[.int .i64 o.kind, .int .i64 o.atN, .int .i64 o.atR, .int .i64 o.nodeN, .int .i64 o.nodeR, .int .i64 o.parN, .int .i64 o.parR, .slice ak o.key.length ck, .int .i64 o.elem, .slice an o.name.length cn, .slice tt o.text.length ct, .bool o.gone] 28)).cell? ⟨b, off + j * 12 + i, none⟩ = C[i]?) ∧ RdOpC (w.alloc (.cells #[.int .i64 o.kind, .int .i64 o.atN, .int .i64 o.atR, .int .i64 o.nodeN, .int .i64 o.nodeR, .int .i64 o.parN, .int .i64 o.parR, .slice ak o.key.length ck, .int .i64 o.elem, .slice an o.name.length cn, .slice tt o.text.length ct, .bool o.gone] 28)) C l[j] by
    obtain ⟨_, ⟨_, e⟩ | ⟨_, _, _, _, e⟩ | ⟨b, off, cap, ev, g1, g2, g3, g4, g5⟩⟩ := hR
    · subst e; simp at hj
    · subst e; simp at hj
    · exact ⟨b, off, cap, ev, g4, g5 j hj⟩))
  have LL := hide (And.intro hA lo)
  clear hA lo hR h hB00
  have hll : (l.length : Int) ≤ 150 := by omega
  refine calls_via ?_
  intro Q HQ
  go_enter Tryz.func46, Tryz.ntmps46
  go_upto_block 0 with fail
  obtain ⟨hA, lo⟩ := unhide LL
  clear LL
  generalize (w.alloc (.cells #[.int .i64 o.kind, .int .i64 o.atN, .int .i64 o.atR, .int .i64 o.nodeN, .int .i64 o.nodeR, .int .i64 o.parN, .int .i64 o.parR, .slice ak o.key.length ck, .int .i64 o.elem, .slice an o.name.length cn, .slice tt o.text.length ct, .bool o.gone] 28)) = wa at *
  generalize hSS : w.heap.size = S at *
  have hSl := lo.lt
  have hA' : Below w.heap.size w wa := by rw [hSS]; exact hA
  go_cut [6] from 8 to 23 (fun s6 wx => s6 = .int .i64 (posO l o.atN o.atR) ∧ Below wa.heap.size wa wx)
  case first =>
    go_wp2_with fail
    go_loopw [6] (fun i wr => ∃ a : Nat, a ≤ l.length ∧ i = .int .i64 a ∧ Hid (∀ k (hk : k < l.length), k < a → ahead o.atN o.atR l[k] = true) ∧ Below wa.heap.size wa wr) (fun i _ => l.length - (intOf i).toNat)
    case atStart => exact ⟨0, Nat.zero_le _, rfl, hide (fun k _ hk => by omega), Below.refl _ _⟩
    case round =>
      obtain ⟨a, hal, rfl, HI, hB⟩ := hrel
      by_cases hlt : a < l.length
      · have hlt' : (a : Int) < (l.length : Int) := by omega
        have ha0 : (0 : Int) ≤ (a : Int) := by omega
        have hda : decide (a < l.length) = true := by simpa using hlt
        obtain ⟨pb, poff, pcap, epv, hpl, hel⟩ := unhide HAT a hlt
        cases epv
        obtain ⟨b1, d1, b2, d2, b3, d3, e0, e1, e2, e3, e4, e5, e6, e7, e8, e9, e10, e11, hro⟩ := opc_at (w := wa) (W := wr) hB hpl hel
        have lt1 := lo.all hB
        have t1 : wr.cell? ⟨S, 1, none⟩ = some (.int .i64 o.atN) := lt1.cell 1
        have t2 : wr.cell? ⟨S, 2, none⟩ = some (.int .i64 o.atR) := lt1.cell 2
        have hSr : S < wr.heap.size := lt1.lt
        have hpr : pb < wr.heap.size := Nat.lt_of_lt_of_le hpl hB.size
        replace e1 := Gr.cell hpr e1
        replace e2 := Gr.cell hpr e2
        replace t1 := Gr.cell hSr t1
        replace t2 := Gr.cell hSr t2
        have hNE : Nonempty (Gr wr) := ⟨⟨wr, Below.refl _ _⟩⟩
        clear hel hro lt1 e0 e3 e4 e5 e6 e7 e8 e9 e10 e11
        have HC := hide (fun W => lessS_any W l[a].atN l[a].atR o.atN o.atR)
        have HD := hide (And.intro (fun (hh : ahead o.atN o.atR l[a] = true) => (show ∀ k (hk : k < l.length), k < a + 1 → ahead o.atN o.atR l[k] = true from fun k hk hka => by
          rcases Nat.lt_succ_iff_lt_or_eq.1 hka with h1 | rfl
          · exact unhide HI k hk h1
          · exact hh)) (fun (hh : ahead o.atN o.atR l[a] = false) => (show posO l o.atN o.atR = a from posO_of hal (unhide HI) (fun _ => hh))))
        change Hid (∀ W, Calls _ _ _ W fun e w' => e = .returned (.bool (ahead o.atN o.atR l[a])) ∧ _) at HC
        generalize ahead o.atN o.atR l[a] = am at *
        generalize l[a] = p0 at *
        go_wp2_with fail
        refine wp_region_gr (by kernel_rfl) (by kernel_rfl) ?_
        repeat (go_big_quiet_step ((rename_i p; exact calls_gr (unhide HC _))))
        refine wpQuiet_nil ?_
        rintro _ ⟨p, rfl⟩
        have hB3 := bstep hB p.h
        clear e1 e2 t1 t2 HC HI
        cases am with
        | true =>
          have HD1 := hide ((unhide HD).1 rfl)
          clear HD
          go_wp2_with fail
          go_roundw
          case rel => exact ⟨a + 1, by omega, by go_num, HD1, hB3⟩
          case measure => simp [intOf]; omega
        | false =>
          have HD1 := hide ((unhide HD).2 rfl)
          clear HD
          go_wp2_with fail
          go_meet
          exact ⟨by rw [unhide HD1], hB3⟩
      · have hae : a = l.length := by omega
        subst hae
        have HD1 := hide (show posO l o.atN o.atR = l.length from posO_of hal (unhide HI) (fun hk => by omega))
        clear HI hlt
        have hNE : Nonempty (Gr wr) := ⟨⟨wr, Below.refl _ _⟩⟩
        go_wp2_with fail
        refine wp_region_gr (by kernel_rfl) (by kernel_rfl) ?_
        repeat (go_big_quiet_step (fail))
        refine wpQuiet_nil ?_
        rintro _ ⟨p, rfl⟩
        have hB3 := bstep hB p.h
        go_wp2_with fail
        go_meet
        exact ⟨by rw [unhide HD1], hB3⟩
  case rest =>
    obtain ⟨rfl, hB⟩ := hcut
    have hple := posO_le l o.atN o.atR
    generalize hpp : posO l o.atN o.atR = p at *
    have HPP := hide hpp
    clear hpp
    have hpI : (p : Int) ≤ (l.length : Int) := by omega
    have hp0 : (0 : Int) ≤ (p : Int) := by omega
    go_upto_region 5 with fail
    go_cut [37] from 24 to 36 (fun s37 wx => s37 = .bool (there l o.atN o.atR) ∧ Below wa.heap.size wa wx)
    case first =>
      have hNE : Nonempty (Gr wc) := ⟨⟨wc, Below.refl _ _⟩⟩
      by_cases hlt : p < l.length
      · have hlt' : (p : Int) < (l.length : Int) := by omega
        have hda : decide (p < l.length) = true := by simpa using hlt
        have HT := hide (show there l o.atN o.atR = (l[p].atN == o.atN && l[p].atR == o.atR) by
          have e := unhide HPP
          unfold there
          simp only [e, hlt, dite_true]
          rw [Bool.eq_iff_iff]
          simp)
        obtain ⟨pb, poff, pcap, epv, hpl, hel⟩ := unhide HAT p hlt
        cases epv
        obtain ⟨b1, d1, b2, d2, b3, d3, e0, e1, e2, e3, e4, e5, e6, e7, e8, e9, e10, e11, hro⟩ := opc_at (w := wa) (W := wc) hB hpl hel
        have lt1 := lo.all hB
        have t1 : wc.cell? ⟨S, 1, none⟩ = some (.int .i64 o.atN) := lt1.cell 1
        have t2 : wc.cell? ⟨S, 2, none⟩ = some (.int .i64 o.atR) := lt1.cell 2
        have hSr : S < wc.heap.size := lt1.lt
        have hpr : pb < wc.heap.size := Nat.lt_of_lt_of_le hpl hB.size
        replace e1 := Gr.cell hpr e1
        replace e2 := Gr.cell hpr e2
        replace t1 := Gr.cell hSr t1
        replace t2 := Gr.cell hSr t2
        skip
        clear hel hro lt1 e0 e3 e4 e5 e6 e7 e8 e9 e10 e11
        generalize l[p] = p0 at *
        generalize p0.atN = pn at *
        generalize p0.atR = pr at *
        have HM := hide (fun b => (show there l o.atN o.atR = b → ∀ W, Below wc.heap.size wc W → (Value.bool b = .bool (there l o.atN o.atR) ∧ Below wa.heap.size wa W) from fun e W hW => ⟨by rw [e], bstep hB hW⟩))
        by_cases h1 : pn = o.atN
        · by_cases h2 : pr = o.atR
          · have HT2 := hide ((unhide HT).trans (show _ = true by rw [h1, h2]; simp))
            subst h1 h2
            clear HT
            refine wp_region_gr (by kernel_rfl) (by kernel_rfl) ?_
            repeat (go_big_quiet_step (fail))
            refine wpQuiet_nil ?_
            rintro _ ⟨q, rfl⟩
            clear e1 e2 t1 t2
            go_wp2_with fail
            go_meet
            exact unhide HM true (unhide HT2) _ q.h
          · have HT2 := hide ((unhide HT).trans (show _ = false by simp [h2]))
            subst h1
            have q2 : (pr == o.atR) = false := by simpa using h2
            clear HT h2
            refine wp_region_gr (by kernel_rfl) (by kernel_rfl) ?_
            repeat (go_big_quiet_step (fail))
            refine wpQuiet_nil ?_
            rintro _ ⟨q, rfl⟩
            clear e1 e2 t1 t2
            go_wp2_with fail
            go_meet
            exact unhide HM false (unhide HT2) _ q.h
        · have HT2 := hide ((unhide HT).trans (show _ = false by simp [h1]))
          have q1 : (pn == o.atN) = false := by simpa using h1
          clear HT h1
          refine wp_region_gr (by kernel_rfl) (by kernel_rfl) ?_
          repeat (go_big_quiet_step (fail))
          refine wpQuiet_nil ?_
          rintro _ ⟨q, rfl⟩
          clear e1 e2 t1 t2
          go_wp2_with fail
          go_meet
          exact unhide HM false (unhide HT2) _ q.h
      · have hae : p = l.length := by omega
        have HT := hide (show there l o.atN o.atR = false by
          have e := unhide HPP
          unfold there
          simp only [e, hlt, dite_false])
        subst hae
        clear hlt
        refine wp_region_gr (by kernel_rfl) (by kernel_rfl) ?_
        repeat (go_big_quiet_step (fail))
        refine wpQuiet_nil ?_
        rintro _ ⟨q, rfl⟩
        have hB3 := bstep hB q.h
        go_wp2_with fail
        go_meet
        exact ⟨by rw [unhide HT], hB3⟩
    case rest =>
      obtain ⟨rfl, hB2⟩ := hcut
      clear hB
      have hBw : Below S w wc := hA.trans (hB2.mono (Nat.le_of_lt hSl))
      cases hth : there l o.atN o.atR with
      | false =>
        have HV := hide (show putL l o = (if 150 ≤ l.length then l else l.take p ++ [o] ++ l.drop p) by unfold putL; rw [hth, unhide HPP, if_neg (by decide)])
        have HK := hide (show putOk l o = decide (l.length < 150) by unfold putOk; rw [hth]; rfl)
        by_cases h150 : 150 ≤ l.length
        · have hd : (150 : Int) ≤ (l.length : Int) := by omega
          have KK := hide (show ∃ u, Ending.returned (.tuple #[(Value.slice av l.length cv), .bool false]) = .returned (.tuple #[u, .bool (putOk l o)]) ∧ PutR w0 S wc (Value.slice av l.length cv) u l (putL l o) ∧ Below S w wc from ⟨_, by rw [unhide HK, decide_eq_false (by omega)], by rw [unhide HV, if_pos h150]; exact .inl ⟨rfl, rfl⟩, hBw⟩)
          clear hBw hB2 hA lo
          go_wp2_with fail
          exact unhide HQ _ _ (unhide KK)
        · have hd : ¬ (150 : Int) ≤ (l.length : Int) := by omega
          rw [if_neg h150] at HV
          have hks : putOk l o = true := by rw [unhide HK]; simpa using h150
          have HKS := hide hks
          clear hks HK
          have HO1 := hide (show RdOpC w0 [.int .i64 o.kind, .int .i64 o.atN, .int .i64 o.atR, .int .i64 o.nodeN, .int .i64 o.nodeR, .int .i64 o.parN, .int .i64 o.parR, .slice ak o.key.length ck, .int .i64 o.elem, .slice an o.name.length cn, .slice tt o.text.length ct, .bool o.gone] o by obtain ⟨r1, r2, r3⟩ := unhide HRD; exact ⟨_, _, _, rfl, r1, r2, r3⟩)
          obtain ⟨hml, ⟨ev, el⟩ | ⟨x, cap, ev, hc, el⟩ | ⟨b, off, cap, ev, g1, g2, g3, g4, g5⟩⟩ := unhide HR0
          · subst el
            have hp00 : p = 0 := by simpa using hple
            subst hp00
            cases ev
            have hwc := hB2.size
            have HX := hide (And.intro hB2 hBw)
            have HSZ := hide (show ∀ W, Seg w0 W (.slice none 0 0) [] from fun W => .inl ⟨rfl, rfl⟩)
            clear hB2 hBw
            go_wp2_with (at_builtin; refine wpList_appSh (w0 := w0) rfl _ _ rfl wc.heap.size _ [] rfl (sh_none _ _ _) _ [] rfl (unhide HSZ _) ?hole1 (Nat.le_refl _) ?_)
            intro u1 w1 hs1 hg1
            have hB1 := Below.ofGrown hg1
            have hBa1 := bstep (unhide HX).1 hB1
            have hBw1 : Below S w w1 := (unhide HX).2.trans (hB1.mono (by have := (unhide HX).2.size; omega))
            have lo1 := lo.all hBa1
            obtain ⟨a9, c9, ev9⟩ : ∃ a9 c9, u1 = .slice a9 0 c9 := by
              obtain ⟨Cs, _, _, hown⟩ := hs1
              rcases hown.2 with ⟨e, e0⟩ | ⟨g, cap', cur, e, _⟩
              · exact ⟨none, 0, e⟩
              · exact ⟨_, _, by simpa using e⟩
            subst ev9
            obtain ⟨x0, x1, x2, x3, x4, x5, x6, x7, x8, x9, x10, x11⟩ := lo1.twelve
            have hAe := (Below.refl w1.heap.size w1).alloc (Nat.le_refl _) (.cells #[.int .i64 o.kind, .int .i64 o.atN, .int .i64 o.atR, .int .i64 o.nodeN, .int .i64 o.nodeR, .int .i64 o.parN, .int .i64 o.parR, .slice ak o.key.length ck, .int .i64 o.elem, .slice an o.name.length cn, .slice tt o.text.length ct, .bool o.gone] 28)
            have lE := Loc.made w1 #[.int .i64 o.kind, .int .i64 o.atN, .int .i64 o.atR, .int .i64 o.nodeN, .int .i64 o.nodeR, .int .i64 o.parN, .int .i64 o.parR, .slice ak o.key.length ck, .int .i64 o.elem, .slice an o.name.length cn, .slice tt o.text.length ct, .bool o.gone] 28
            have HS2 := hide (Seg.one (w0 := w0) (w := (w1.alloc (.cells #[.int .i64 o.kind, .int .i64 o.atN, .int .i64 o.atR, .int .i64 o.nodeN, .int .i64 o.nodeR, .int .i64 o.parN, .int .i64 o.parR, .slice ak o.key.length ck, .int .i64 o.elem, .slice an o.name.length cn, .slice tt o.text.length ct, .bool o.gone] 28))) (g := w1.heap.size) (C := [.int .i64 o.kind, .int .i64 o.atN, .int .i64 o.atR, .int .i64 o.nodeN, .int .i64 o.nodeR, .int .i64 o.parN, .int .i64 o.parR, .slice ak o.key.length ck, .int .i64 o.elem, .slice an o.name.length cn, .slice tt o.text.length ct, .bool o.gone]) (o := o) rfl lE (unhide HO1))
            have HSH := hide (show ShOps w0 (w1.alloc (.cells #[.int .i64 o.kind, .int .i64 o.atN, .int .i64 o.atR, .int .i64 o.nodeN, .int .i64 o.nodeR, .int .i64 o.parN, .int .i64 o.parR, .slice ak o.key.length ck, .int .i64 o.elem, .slice an o.name.length cn, .slice tt o.text.length ct, .bool o.gone] 28)) wc.heap.size (.slice a9 0 c9) [] by
              obtain ⟨Cs, z1, z2, z3⟩ := hs1
              exact ⟨Cs, by simpa using z1, fun i hi => by simp at hi, ownsRow_frm (by simpa using z3) (Frm.ofBelow hAe []) (fun _ _ => by simp)⟩)
            have HY := hide (And.intro (bstep hBa1 hAe) (And.intro (hBw1.trans (hAe.mono (by have := hBw1.size; omega))) (show wc.heap.size ≤ (w1.alloc (.cells #[.int .i64 o.kind, .int .i64 o.atN, .int .i64 o.atR, .int .i64 o.nodeN, .int .i64 o.nodeR, .int .i64 o.parN, .int .i64 o.parR, .slice ak o.key.length ck, .int .i64 o.elem, .slice an o.name.length cn, .slice tt o.text.length ct, .bool o.gone] 28)).heap.size by have := hB1.size; have := hAe.size; omega)))
            clear hs1 hg1 hB1 hBa1 hBw1 lo1 hAe lE HX
            go_wp2_with (at_builtin; refine wpList_appSh (w0 := w0) rfl _ _ rfl wc.heap.size _ [] rfl (unhide HSH) _ [o] rfl (unhide HS2) ?hole2 (unhide HY).2.2 ?_)
            case hole2 => first | omega | simp
            intro u2 w2 hs2 hg2
            clear x0 x1 x2 x3 x4 x5 x6 x7 x8 x9 x10 x11
            have hlt9 : ∀ q, (Value.slice a9 0 c9).ownBlock = some q → wc.heap.size ≤ q := fun q hq => by
              obtain ⟨Cs, _, _, z3⟩ := unhide HSH
              exact (z3.lt q hq).1
            have hBa2 := bstepBy (unhide HY).1 hg2 (fun q hq => by have := hlt9 q hq; omega)
            have hsz2 : wc.heap.size ≤ w2.heap.size := Nat.le_trans (unhide HY).2.2 hg2.size
            obtain ⟨a8, c8, ev8⟩ : ∃ a8 c8, u2 = .slice a8 1 c8 := by
              obtain ⟨Cs, _, _, hown⟩ := hs2
              rcases hown.2 with ⟨e, e0⟩ | ⟨g, cap', cur, e, _⟩
              · simp at e0
              · exact ⟨_, _, by simpa using e⟩
            subst ev8
            replace hs2 : ShOps w0 w2 wc.heap.size (.slice a8 1 c8) [o] := by simpa using hs2
            have HSH2 := hide (And.intro hs2 hsz2)
            have HEND := hide (fun u3 w3 (hs3 : ShOps w0 w3 wc.heap.size u3 [o]) (hB3 : Below wa.heap.size wa w3) => (show ∃ u, Ending.returned (.tuple #[u3, .bool true]) = .returned (.tuple #[u, .bool (putOk [] o)]) ∧ PutR w0 S w3 (Value.slice none 0 0) u [] (putL [] o) ∧ Below S w w3 from ⟨u3, by rw [unhide HKS], by rw [unhide HV]; exact .inr (hs3.low (by omega)), hA.trans (hB3.mono (Nat.le_of_lt hSl))⟩))
            have HG2 := hide (fun w3 (hg3 : w2.grownBy w3 (Value.slice a8 1 c8).ownBlock) => (show Below wa.heap.size wa w3 from bstepBy hBa2 hg3 (fun q hq => by
              obtain ⟨Cs, _, _, z3⟩ := hs2
              have := (z3.lt q hq).1
              omega)))
            clear hs2 hg2 hBa2 hlt9 HSH HY HS2
            go_wp2_with (at_builtin; refine wpList_appSh (w0 := w0) rfl _ _ rfl wc.heap.size _ [o] rfl (unhide HSH2).1 _ [] rfl (unhide HSZ _) ?hole3 (unhide HSH2).2 ?_)
            case hole3 => first | omega | simp
            intro u3 w3 hs3 hg3
            have KK := hide (unhide HEND u3 w3 (by simpa using hs3) (unhide HG2 w3 hg3))
            clear hs3 hg3
            go_wp2_with fail
            exact unhide HQ _ _ (unhide KK)
          · subst el
            have hp00 : p = 0 := by simpa using hple
            subst hp00
            cases ev
            have hwc := hB2.size
            have HX := hide (And.intro hB2 hBw)
            have HSZ := hide (show ∀ W, Seg w0 W (.slice (some x) 0 cv) [] from fun W => .inr (.inl ⟨_, _, rfl, rfl⟩))
            clear hB2 hBw
            go_wp2_with (at_builtin; refine wpList_appSh (w0 := w0) rfl _ _ rfl wc.heap.size _ [] rfl (sh_none _ _ _) _ [] rfl (unhide HSZ _) ?hole4 (Nat.le_refl _) ?_)
            intro u1 w1 hs1 hg1
            have hB1 := Below.ofGrown hg1
            have hBa1 := bstep (unhide HX).1 hB1
            have hBw1 : Below S w w1 := (unhide HX).2.trans (hB1.mono (by have := (unhide HX).2.size; omega))
            have lo1 := lo.all hBa1
            obtain ⟨a9, c9, ev9⟩ : ∃ a9 c9, u1 = .slice a9 0 c9 := by
              obtain ⟨Cs, _, _, hown⟩ := hs1
              rcases hown.2 with ⟨e, e0⟩ | ⟨g, cap', cur, e, _⟩
              · exact ⟨none, 0, e⟩
              · exact ⟨_, _, by simpa using e⟩
            subst ev9
            obtain ⟨x0, x1, x2, x3, x4, x5, x6, x7, x8, x9, x10, x11⟩ := lo1.twelve
            have hAe := (Below.refl w1.heap.size w1).alloc (Nat.le_refl _) (.cells #[.int .i64 o.kind, .int .i64 o.atN, .int .i64 o.atR, .int .i64 o.nodeN, .int .i64 o.nodeR, .int .i64 o.parN, .int .i64 o.parR, .slice ak o.key.length ck, .int .i64 o.elem, .slice an o.name.length cn, .slice tt o.text.length ct, .bool o.gone] 28)
            have lE := Loc.made w1 #[.int .i64 o.kind, .int .i64 o.atN, .int .i64 o.atR, .int .i64 o.nodeN, .int .i64 o.nodeR, .int .i64 o.parN, .int .i64 o.parR, .slice ak o.key.length ck, .int .i64 o.elem, .slice an o.name.length cn, .slice tt o.text.length ct, .bool o.gone] 28
            have HS2 := hide (Seg.one (w0 := w0) (w := (w1.alloc (.cells #[.int .i64 o.kind, .int .i64 o.atN, .int .i64 o.atR, .int .i64 o.nodeN, .int .i64 o.nodeR, .int .i64 o.parN, .int .i64 o.parR, .slice ak o.key.length ck, .int .i64 o.elem, .slice an o.name.length cn, .slice tt o.text.length ct, .bool o.gone] 28))) (g := w1.heap.size) (C := [.int .i64 o.kind, .int .i64 o.atN, .int .i64 o.atR, .int .i64 o.nodeN, .int .i64 o.nodeR, .int .i64 o.parN, .int .i64 o.parR, .slice ak o.key.length ck, .int .i64 o.elem, .slice an o.name.length cn, .slice tt o.text.length ct, .bool o.gone]) (o := o) rfl lE (unhide HO1))
            have HSH := hide (show ShOps w0 (w1.alloc (.cells #[.int .i64 o.kind, .int .i64 o.atN, .int .i64 o.atR, .int .i64 o.nodeN, .int .i64 o.nodeR, .int .i64 o.parN, .int .i64 o.parR, .slice ak o.key.length ck, .int .i64 o.elem, .slice an o.name.length cn, .slice tt o.text.length ct, .bool o.gone] 28)) wc.heap.size (.slice a9 0 c9) [] by
              obtain ⟨Cs, z1, z2, z3⟩ := hs1
              exact ⟨Cs, by simpa using z1, fun i hi => by simp at hi, ownsRow_frm (by simpa using z3) (Frm.ofBelow hAe []) (fun _ _ => by simp)⟩)
            have HY := hide (And.intro (bstep hBa1 hAe) (And.intro (hBw1.trans (hAe.mono (by have := hBw1.size; omega))) (show wc.heap.size ≤ (w1.alloc (.cells #[.int .i64 o.kind, .int .i64 o.atN, .int .i64 o.atR, .int .i64 o.nodeN, .int .i64 o.nodeR, .int .i64 o.parN, .int .i64 o.parR, .slice ak o.key.length ck, .int .i64 o.elem, .slice an o.name.length cn, .slice tt o.text.length ct, .bool o.gone] 28)).heap.size by have := hB1.size; have := hAe.size; omega)))
            clear hs1 hg1 hB1 hBa1 hBw1 lo1 hAe lE HX
            go_wp2_with (at_builtin; refine wpList_appSh (w0 := w0) rfl _ _ rfl wc.heap.size _ [] rfl (unhide HSH) _ [o] rfl (unhide HS2) ?hole5 (unhide HY).2.2 ?_)
            case hole5 => first | omega | simp
            intro u2 w2 hs2 hg2
            clear x0 x1 x2 x3 x4 x5 x6 x7 x8 x9 x10 x11
            have hlt9 : ∀ q, (Value.slice a9 0 c9).ownBlock = some q → wc.heap.size ≤ q := fun q hq => by
              obtain ⟨Cs, _, _, z3⟩ := unhide HSH
              exact (z3.lt q hq).1
            have hBa2 := bstepBy (unhide HY).1 hg2 (fun q hq => by have := hlt9 q hq; omega)
            have hsz2 : wc.heap.size ≤ w2.heap.size := Nat.le_trans (unhide HY).2.2 hg2.size
            obtain ⟨a8, c8, ev8⟩ : ∃ a8 c8, u2 = .slice a8 1 c8 := by
              obtain ⟨Cs, _, _, hown⟩ := hs2
              rcases hown.2 with ⟨e, e0⟩ | ⟨g, cap', cur, e, _⟩
              · simp at e0
              · exact ⟨_, _, by simpa using e⟩
            subst ev8
            replace hs2 : ShOps w0 w2 wc.heap.size (.slice a8 1 c8) [o] := by simpa using hs2
            have HSH2 := hide (And.intro hs2 hsz2)
            have HEND := hide (fun u3 w3 (hs3 : ShOps w0 w3 wc.heap.size u3 [o]) (hB3 : Below wa.heap.size wa w3) => (show ∃ u, Ending.returned (.tuple #[u3, .bool true]) = .returned (.tuple #[u, .bool (putOk [] o)]) ∧ PutR w0 S w3 (Value.slice (some x) 0 cv) u [] (putL [] o) ∧ Below S w w3 from ⟨u3, by rw [unhide HKS], by rw [unhide HV]; exact .inr (hs3.low (by omega)), hA.trans (hB3.mono (Nat.le_of_lt hSl))⟩))
            have HG2 := hide (fun w3 (hg3 : w2.grownBy w3 (Value.slice a8 1 c8).ownBlock) => (show Below wa.heap.size wa w3 from bstepBy hBa2 hg3 (fun q hq => by
              obtain ⟨Cs, _, _, z3⟩ := hs2
              have := (z3.lt q hq).1
              omega)))
            clear hs2 hg2 hBa2 hlt9 HSH HY HS2
            go_wp2_with (at_builtin; refine wpList_appSh (w0 := w0) rfl _ _ rfl wc.heap.size _ [o] rfl (unhide HSH2).1 _ [] rfl (unhide HSZ _) ?hole6 (unhide HSH2).2 ?_)
            case hole6 => first | omega | simp
            intro u3 w3 hs3 hg3
            have KK := hide (unhide HEND u3 w3 (by simpa using hs3) (unhide HG2 w3 hg3))
            clear hs3 hg3
            go_wp2_with fail
            exact unhide HQ _ _ (unhide KK)
          · cases ev
            have hpl : (l.take p).length = p := by rw [List.length_take]; omega
            have HS1 := hide (Seg.at (w0 := w0) (w := wc) (b := b) (off := off) (n := p) (c := cv) (m := l.take p) hpl (bstep (unhide HZ0) hB2) g4 (fun i hi => by
              rw [List.getElem_take]
              exact g5 i (by omega)))
            have HS3 := hide (fun W (hW : Below wa.heap.size wa W) c => Seg.at (w0 := w0) (w := W) (b := b) (off := off + p * 12) (n := l.length - p) (c := c) (m := l.drop p) (by rw [List.length_drop]) (bstep (unhide HZ0) hW) g4 (fun i hi => by
              rw [List.getElem_drop]
              obtain ⟨C, hC, hc, hr⟩ := g5 (p + i) (by rw [List.length_drop] at hi; omega)
              exact ⟨C, hC, fun j hj => by rw [← hc j hj]; congr 2; omega, hr⟩))
            have hpc : (p : Int) ≤ (cv : Int) := by omega
            have hwc := hB2.size
            have HX := hide (And.intro hB2 hBw)
            clear hB2 hBw g5
            go_wp2_with (at_builtin; refine wpList_appSh (w0 := w0) rfl _ _ rfl wc.heap.size _ [] rfl (sh_none _ _ _) _ (l.take p) rfl (unhide HS1) ?hole7 (Nat.le_refl _) ?_)
            case hole7 => first | omega | (simp; omega)
            intro u1 w1 hs1 hg1
            try rw [List.nil_append] at hs1
            have hB1 := Below.ofGrown hg1
            have hBa1 := bstep (unhide HX).1 hB1
            have hBw1 : Below S w w1 := (unhide HX).2.trans (hB1.mono (by have := (unhide HX).2.size; omega))
            have lo1 := lo.all hBa1
            obtain ⟨a9, c9, ev9⟩ : ∃ a9 c9, u1 = .slice a9 p c9 := by
              obtain ⟨Cs, _, _, hown⟩ := hs1
              rw [hpl] at hown
              rcases hown.2 with ⟨e, e0⟩ | ⟨g, cap', cur, e, _⟩
              · exact ⟨none, 0, by rw [e, e0]⟩
              · exact ⟨_, _, e⟩
            subst ev9
            obtain ⟨x0, x1, x2, x3, x4, x5, x6, x7, x8, x9, x10, x11⟩ := lo1.twelve
            have hAe := (Below.refl w1.heap.size w1).alloc (Nat.le_refl _) (.cells #[.int .i64 o.kind, .int .i64 o.atN, .int .i64 o.atR, .int .i64 o.nodeN, .int .i64 o.nodeR, .int .i64 o.parN, .int .i64 o.parR, .slice ak o.key.length ck, .int .i64 o.elem, .slice an o.name.length cn, .slice tt o.text.length ct, .bool o.gone] 28)
            have lE := Loc.made w1 #[.int .i64 o.kind, .int .i64 o.atN, .int .i64 o.atR, .int .i64 o.nodeN, .int .i64 o.nodeR, .int .i64 o.parN, .int .i64 o.parR, .slice ak o.key.length ck, .int .i64 o.elem, .slice an o.name.length cn, .slice tt o.text.length ct, .bool o.gone] 28
            have HS2 := hide (Seg.one (w0 := w0) (w := (w1.alloc (.cells #[.int .i64 o.kind, .int .i64 o.atN, .int .i64 o.atR, .int .i64 o.nodeN, .int .i64 o.nodeR, .int .i64 o.parN, .int .i64 o.parR, .slice ak o.key.length ck, .int .i64 o.elem, .slice an o.name.length cn, .slice tt o.text.length ct, .bool o.gone] 28))) (g := w1.heap.size) (C := [.int .i64 o.kind, .int .i64 o.atN, .int .i64 o.atR, .int .i64 o.nodeN, .int .i64 o.nodeR, .int .i64 o.parN, .int .i64 o.parR, .slice ak o.key.length ck, .int .i64 o.elem, .slice an o.name.length cn, .slice tt o.text.length ct, .bool o.gone]) (o := o) rfl lE (unhide HO1))
            have HSH := hide (show ShOps w0 (w1.alloc (.cells #[.int .i64 o.kind, .int .i64 o.atN, .int .i64 o.atR, .int .i64 o.nodeN, .int .i64 o.nodeR, .int .i64 o.parN, .int .i64 o.parR, .slice ak o.key.length ck, .int .i64 o.elem, .slice an o.name.length cn, .slice tt o.text.length ct, .bool o.gone] 28)) wc.heap.size (.slice a9 p c9) (l.take p) by
              obtain ⟨Cs, z1, z2, z3⟩ := hs1
              exact ⟨Cs, z1, z2, ownsRow_frm z3 (Frm.ofBelow hAe []) (fun _ _ => by simp)⟩)
            have HY := hide (And.intro (bstep hBa1 hAe) (And.intro (hBw1.trans (hAe.mono (by have := hBw1.size; omega))) (show wc.heap.size ≤ (w1.alloc (.cells #[.int .i64 o.kind, .int .i64 o.atN, .int .i64 o.atR, .int .i64 o.nodeN, .int .i64 o.nodeR, .int .i64 o.parN, .int .i64 o.parR, .slice ak o.key.length ck, .int .i64 o.elem, .slice an o.name.length cn, .slice tt o.text.length ct, .bool o.gone] 28)).heap.size by have := hB1.size; have := hAe.size; omega)))
            clear hs1 hg1 hB1 hBa1 hBw1 lo1 hAe lE HX
            go_wp2_with (at_builtin; refine wpList_appSh (w0 := w0) rfl _ _ rfl wc.heap.size _ (l.take p) rfl (unhide HSH) _ [o] rfl (unhide HS2) ?hole8 (unhide HY).2.2 ?_)
            case hole8 => first | omega | (simp; omega)
            intro u2 w2 hs2 hg2
            clear x0 x1 x2 x3 x4 x5 x6 x7 x8 x9 x10 x11
            have hlt9 : ∀ q, (Value.slice a9 p c9).ownBlock = some q → wc.heap.size ≤ q := fun q hq => by
              obtain ⟨Cs, _, _, z3⟩ := unhide HSH
              exact (z3.lt q hq).1
            have hBa2 := bstepBy (unhide HY).1 hg2 (fun q hq => by have := hlt9 q hq; omega)
            have hBw2 : Below S w w2 := hA.trans (hBa2.mono (Nat.le_of_lt hSl))
            have hsz2 : wc.heap.size ≤ w2.heap.size := Nat.le_trans (unhide HY).2.2 hg2.size
            have hl2 : (l.take p ++ [o]).length = p + 1 := by rw [List.length_append, hpl]; rfl
            obtain ⟨a8, c8, ev8⟩ : ∃ a8 c8, u2 = .slice a8 (p + 1) c8 := by
              obtain ⟨Cs, _, _, hown⟩ := hs2
              rw [hl2] at hown
              rcases hown.2 with ⟨e, e0⟩ | ⟨g, cap', cur, e, _⟩
              · omega
              · exact ⟨_, _, e⟩
            subst ev8
            have HS3' := hide (unhide HS3 w2 hBa2)
            have HSH2 := hide (And.intro hs2 (And.intro hBw2 hsz2))
            have HEND := hide (fun u3 w3 (hs3 : ShOps w0 w3 wc.heap.size u3 ((l.take p ++ [o]) ++ l.drop p)) (hB3 : Below wa.heap.size wa w3) => (show ∃ u, Ending.returned (.tuple #[u3, .bool true]) = .returned (.tuple #[u, .bool (putOk l o)]) ∧ PutR w0 S w3 (Value.slice (some ⟨b, off, none⟩) l.length cv) u l (putL l o) ∧ Below S w w3 from ⟨u3, by rw [unhide HKS], by rw [unhide HV]; exact .inr (hs3.low (by omega)), hA.trans (hB3.mono (Nat.le_of_lt hSl))⟩))
            have HG2 := hide (fun w3 (hg3 : w2.grownBy w3 (Value.slice a8 (p + 1) c8).ownBlock) => (show Below wa.heap.size wa w3 from bstepBy hBa2 hg3 (fun q hq => by
              obtain ⟨Cs, _, _, z3⟩ := hs2
              have := (z3.lt q hq).1
              omega)))
            clear hs2 hg2 hBa2 hBw2 hlt9 HSH HY HS1 HS2 HS3
            by_cases hcp : cv = p
            · subst hcp
              have hdr : l.drop cv = [] := List.drop_of_length_le g1
              have hll2 : l.length = cv := by omega
              rw [hdr] at HEND
              have HSZ := hide (show ∀ x c, Seg w0 w2 (.slice (some x) 0 c) [] from fun x c => .inr (.inl ⟨x, c, rfl, rfl⟩))
              go_wp2_with (at_builtin; refine wpList_appSh (w0 := w0) rfl _ _ rfl wc.heap.size _ (l.take cv ++ [o]) rfl (unhide HSH2).1 _ [] rfl (unhide HSZ _ _) ?hole9 (unhide HSH2).2.2 ?_)
              case hole9 => first | omega | (rw [hl2]; simp; omega)
              intro u3 w3 hs3 hg3
              have KK := hide (unhide HEND u3 w3 (by simpa using hs3) (unhide HG2 w3 hg3))
              clear hs3 hg3
              go_wp2_with fail
              exact unhide HQ _ _ (unhide KK)
            · have hlp : (p : Int) ≤ (l.length : Int) := by omega
              go_wp2_with (at_builtin; refine wpList_appSh (w0 := w0) rfl _ _ rfl wc.heap.size _ (l.take p ++ [o]) rfl (unhide HSH2).1 _ (l.drop p) rfl (unhide HS3' _) ?hole10 (unhide HSH2).2.2 ?_)
              case hole10 => first | omega | (rw [hl2, List.length_drop]; omega) | (simp; omega)
              intro u3 w3 hs3 hg3
              have KK := hide (unhide HEND u3 w3 (by simpa using hs3) (unhide HG2 w3 hg3))
              clear hs3 hg3
              go_wp2_with fail
              exact unhide HQ _ _ (unhide KK)
      | true =>
        have hlt : p < l.length := by
          unfold there at hth
          simp only [unhide HPP] at hth
          by_cases hh : p < l.length
          · exact hh
          · rw [dif_neg hh] at hth; cases hth
        have hge : l.getD p o = l[p] := by simp [List.getD_eq_getElem?_getD, hlt]
        have HV := hide (show putL l o = (if klB (opBytes o) (opBytes l[p]) then l.set p o else l) by unfold putL; rw [hth, unhide HPP, if_pos rfl, hge])
        have HK := hide (show putOk l o = true by unfold putOk; rw [hth]; rfl)
        have HO1 := hide (show RdOpC w0 [.int .i64 o.kind, .int .i64 o.atN, .int .i64 o.atR, .int .i64 o.nodeN, .int .i64 o.nodeR, .int .i64 o.parN, .int .i64 o.parR, .slice ak o.key.length ck, .int .i64 o.elem, .slice an o.name.length cn, .slice tt o.text.length ct, .bool o.gone] o by obtain ⟨r1, r2, r3⟩ := unhide HRD; exact ⟨_, _, _, rfl, r1, r2, r3⟩)
        have hlt' : (p : Int) < (l.length : Int) := by omega
        have HS1 := hide ((unhide HR0).seg (bstep (unhide HZ0) hB2))
        have hwc := hB2.size
        have HX := hide (And.intro hB2 hBw)
        clear hge hB2 hBw
        go_wp2_with (at_builtin; refine wpList_appSh (w0 := w0) rfl _ _ rfl wc.heap.size _ [] rfl (sh_none _ _ _) _ l rfl (unhide HS1) ?hole11 (Nat.le_refl _) ?_)
        case hole11 => first | omega | (simp; omega)
        intro u1 w1 hs1 hg1
        try rw [List.nil_append] at hs1
        have hB1 := Below.ofGrown hg1
        have hBa1 := bstep (unhide HX).1 hB1
        have hBw1 : Below S w w1 := hA.trans (hBa1.mono (Nat.le_of_lt hSl))
        obtain ⟨gg, c9, ev9, hgg⟩ : ∃ gg c9, u1 = .slice (some ⟨gg, 0, none⟩) l.length c9 ∧ wc.heap.size ≤ gg := by
          obtain ⟨Cs, _, _, hown⟩ := hs1
          rcases hown.2 with ⟨e, e0⟩ | ⟨g, cap', cur, e, hge, _⟩
          · omega
          · exact ⟨_, _, e, hge⟩
        subst ev9
        obtain ⟨B0, hB0⟩ : ∃ B0, B0 = wc.heap.size := ⟨_, rfl⟩
        rw [← hB0] at hs1 hgg hwc
        clear hB0
        have HSH := hide hs1
        clear hs1 hg1 hB1
        obtain ⟨pb, poff, pcap, epv, hpl, hel⟩ := unhide HAT p hlt
        cases epv
        obtain ⟨b1, d1, b2, d2, b3, d3, e0, e1, e2, e3, e4, e5, e6, e7, e8, e9, e10, e11, hro⟩ := opc_at (w := wa) (W := w1) hBa1 hpl hel
        have hpr : pb < w1.heap.size := Nat.lt_of_lt_of_le hpl hBa1.size
        have HB1 := hide (fun W (hW : Below w1.heap.size w1 W) => unhide HBO W (hBw1.trans (hW.mono (by have := hBw1.size; omega))))
        have HB2 := hide (fun W (hW : Below w1.heap.size w1 W) => bytesS_any W _ l[p] (hro.keep hW) (hkl _ (List.getElem_mem hlt)))
        have lo1 := lo.all hBa1
        obtain ⟨x0, x1, x2, x3, x4, x5, x6, x7, x8, x9, x10, x11⟩ := lo1.twelve
        unfold opVal at HB2
        clear hel hro
        have HW1 := hide (And.intro hBa1 hBw1)
        have HLO1 := hide lo1
        clear hBa1 hBw1 lo1
        generalize hlp : l[p] = p0 at *
        clear hlp
        have HOK := hide (fun (a b : List Int) (ha : okB a) (hb : okB b) => str_less ha hb)
        go_upto_region 7 with fail
        go_cut [50] from 41 to 49 (fun s50 wx => s50 = .bool (klB (opBytes o) (opBytes p0)) ∧ Below w1.heap.size w1 wx)
        case first =>
          generalize opBytes o = r1 at *
          generalize opBytes p0 = r2 at *
          go_region_with (first
            | (go_at_call 93; refine (unhide HB1 _ ((Below.refl _ _).drew)).mono ?_; clear HB1; rintro e w2 ⟨ab, cb, rfl, hob, hB2⟩; have hK2 := bstep ((Below.refl w1.heap.size w1).drew) hB2; have v1 := conv_any w2 _ _ hob.byt; replace e0 := cell_later hK2 e0; replace e1 := cell_later hK2 e1; replace e2 := cell_later hK2 e2; replace e3 := cell_later hK2 e3; replace e4 := cell_later hK2 e4; replace e5 := cell_later hK2 e5; replace e6 := cell_later hK2 e6; replace e7 := cell_later hK2 e7; replace e8 := cell_later hK2 e8; replace e9 := cell_later hK2 e9; replace e10 := cell_later hK2 e10; replace e11 := cell_later hK2 e11)
            | (go_at_call 93; refine (unhide HB2 _ hK2).mono ?_; clear HB2; rintro e w3 ⟨ac, cc, rfl, hoc, hB3⟩; have hK3 := bstep hK2 hB3; have v2 := conv_any w3 _ _ (hob.keep hB3).byt; have v3 := conv_any w3 _ _ hoc.byt))
          all_goals
            go_wp2_with fail
            go_meet
            exact ⟨congrArg Value.bool (unhide HOK r1 r2 hob.1 hoc.1), hK3⟩
        case rest =>
          obtain ⟨rfl, hB3⟩ := hcut
          obtain ⟨hBa1, hBw1⟩ := unhide HW1
          have hBa3 := bstep hBa1 hB3
          have lo3 := (unhide HLO1).all hB3
          have hsh3 : ShOps w0 wc B0 (.slice (some ⟨gg, 0, none⟩) l.length c9) l := by
            obtain ⟨Cs, z1, z2, z3⟩ := unhide HSH
            exact ⟨Cs, z1, z2, ownsRow_frm z3 (Frm.ofBelow hB3 []) (fun _ _ => by simp)⟩
          clear HB1 HB2 HSH HLO1 HW1 HX HS1 HBO hBa1 hBw1 hB3 HAT HRO x0 x1 x2 x3 x4 x5 x6 x7 x8 x9 x10 x11 e0 e1 e2 e3 e4 e5 e6 e7 e8 e9 e10 e11
          cases hkk : klB (opBytes o) (opBytes p0) with
          | false =>
            have KK := hide (show ∃ u, Ending.returned (.tuple #[(Value.slice (some ⟨gg, 0, none⟩) l.length c9), .bool true]) = .returned (.tuple #[u, .bool (putOk l o)]) ∧ PutR w0 S wc (Value.slice (some ⟨pb, poff, none⟩) l.length cv) u l (putL l o) ∧ Below S w wc from ⟨_, by rw [unhide HK], by rw [unhide HV, hkk, if_neg (by decide)]; exact .inr (hsh3.low (by omega)), hA.trans (hBa3.mono (Nat.le_of_lt hSl))⟩)
            clear hsh3 lo3 hBa3
            go_wp2_with fail
            exact unhide HQ _ _ (unhide KK)
          | true =>
            obtain ⟨⟨y0, q0⟩, f0⟩ := hsh3.cells p hlt 0 (by omega)
            obtain ⟨⟨y1, q1⟩, f1⟩ := hsh3.cells p hlt 1 (by omega)
            obtain ⟨⟨y2, q2⟩, f2⟩ := hsh3.cells p hlt 2 (by omega)
            obtain ⟨⟨y3, q3⟩, f3⟩ := hsh3.cells p hlt 3 (by omega)
            obtain ⟨⟨y4, q4⟩, f4⟩ := hsh3.cells p hlt 4 (by omega)
            obtain ⟨⟨y5, q5⟩, f5⟩ := hsh3.cells p hlt 5 (by omega)
            obtain ⟨⟨y6, q6⟩, f6⟩ := hsh3.cells p hlt 6 (by omega)
            obtain ⟨⟨y7, q7⟩, f7⟩ := hsh3.cells p hlt 7 (by omega)
            obtain ⟨⟨y8, q8⟩, f8⟩ := hsh3.cells p hlt 8 (by omega)
            obtain ⟨⟨y9, q9⟩, f9⟩ := hsh3.cells p hlt 9 (by omega)
            obtain ⟨⟨y10, q10⟩, f10⟩ := hsh3.cells p hlt 10 (by omega)
            obtain ⟨⟨y11, q11⟩, f11⟩ := hsh3.cells p hlt 11 (by omega)
            rw [Nat.add_zero] at q0 f0
            obtain ⟨x0, x1, x2, x3, x4, x5, x6, x7, x8, x9, x10, x11⟩ := lo3.twelve
            obtain ⟨hset, hfrm⟩ := hsh3.set p hlt (.int .i64 o.kind) (.int .i64 o.atN) (.int .i64 o.atR) (.int .i64 o.nodeN) (.int .i64 o.nodeR) (.int .i64 o.parN) (.int .i64 o.parR) (.slice ak o.key.length ck) (.int .i64 o.elem) (.slice an o.name.length cn) (.slice tt o.text.length ct) (.bool o.gone) o (unhide HO1)
            rw [List.length_set] at hset
            have hBz := bstepF hBa3 hfrm (fun q hq => by simp at hq; omega)
            have KK := hide (show ∃ u, Ending.returned (.tuple #[(Value.slice (some ⟨gg, 0, none⟩) l.length c9), .bool true]) = .returned (.tuple #[u, .bool (putOk l o)]) ∧ PutR w0 S ((((((((((((wc.setCell ⟨gg, p * 12, none⟩ (.int .i64 o.kind)).setCell ⟨gg, p * 12 + 1, none⟩ (.int .i64 o.atN)).setCell ⟨gg, p * 12 + 2, none⟩ (.int .i64 o.atR)).setCell ⟨gg, p * 12 + 3, none⟩ (.int .i64 o.nodeN)).setCell ⟨gg, p * 12 + 4, none⟩ (.int .i64 o.nodeR)).setCell ⟨gg, p * 12 + 5, none⟩ (.int .i64 o.parN)).setCell ⟨gg, p * 12 + 6, none⟩ (.int .i64 o.parR)).setCell ⟨gg, p * 12 + 7, none⟩ (.slice ak o.key.length ck)).setCell ⟨gg, p * 12 + 8, none⟩ (.int .i64 o.elem)).setCell ⟨gg, p * 12 + 9, none⟩ (.slice an o.name.length cn)).setCell ⟨gg, p * 12 + 10, none⟩ (.slice tt o.text.length ct)).setCell ⟨gg, p * 12 + 11, none⟩ (.bool o.gone)) (Value.slice (some ⟨pb, poff, none⟩) l.length cv) u l (putL l o) ∧ Below S w ((((((((((((wc.setCell ⟨gg, p * 12, none⟩ (.int .i64 o.kind)).setCell ⟨gg, p * 12 + 1, none⟩ (.int .i64 o.atN)).setCell ⟨gg, p * 12 + 2, none⟩ (.int .i64 o.atR)).setCell ⟨gg, p * 12 + 3, none⟩ (.int .i64 o.nodeN)).setCell ⟨gg, p * 12 + 4, none⟩ (.int .i64 o.nodeR)).setCell ⟨gg, p * 12 + 5, none⟩ (.int .i64 o.parN)).setCell ⟨gg, p * 12 + 6, none⟩ (.int .i64 o.parR)).setCell ⟨gg, p * 12 + 7, none⟩ (.slice ak o.key.length ck)).setCell ⟨gg, p * 12 + 8, none⟩ (.int .i64 o.elem)).setCell ⟨gg, p * 12 + 9, none⟩ (.slice an o.name.length cn)).setCell ⟨gg, p * 12 + 10, none⟩ (.slice tt o.text.length ct)).setCell ⟨gg, p * 12 + 11, none⟩ (.bool o.gone)) from ⟨_, by rw [unhide HK], by rw [unhide HV, hkk, if_pos rfl]; exact .inr (hset.low (by omega)), hA.trans (hBz.mono (Nat.le_of_lt hSl))⟩)
            clear hset hfrm hsh3 lo3 hBa3 hBz hkk
            go_wp2_with fail
            exact unhide HQ _ _ (unhide KK)
theorem l5put_any (w : World) (v vo : Value) (l : List OpV) (o : OpV) (h : RdOps w v l) (ho : RdOp w vo o) (hl : l.length ≤ 150) (hk : o.key.length ≤ 2097152) (hkl : ∀ x ∈ l, x.key.length ≤ 2097152) :
    Calls Tryz.prog 46 #[v, vo] w fun e w' => ∃ u, e = .returned (.tuple #[u, .bool (putOk l o)]) ∧ RdOps w' u (putL l o) ∧ Below w.heap.size w w' := by
  refine (l5put_sh w w (Below.refl _ _) v vo l o h ho hl hk hkl).mono ?_
  rintro e w' ⟨u, rfl, hp, hB⟩
  refine ⟨u, rfl, ?_, hB⟩
  rcases hp with ⟨rfl, e⟩ | hs
  · rw [e]; exact h.keep hB
  · exact hs.rd hB
end Go.Proofs.YtkmmhlimihkgfaaGreat
