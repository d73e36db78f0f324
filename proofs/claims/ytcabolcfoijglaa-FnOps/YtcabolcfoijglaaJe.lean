/- Own texts joined: PutOS, BytS. -/
import Derived.Test.YtcabolcfoijglaaJa
import Derived.Test.YtcabolcfoijglaaJb
import Derived.Test.YtcabolcfoijglaaJc
import Derived.Test.YtcabolcfoijglaaJd
import Derived.Deep.RegionHeld3

/- spec.l4putId and spec.l4putKey, by their contracts. -/
namespace Go.Proofs.Ytcabolcfoijglaa
open Go.RowKit
set_option linter.unusedVariables false
set_option maxRecDepth 100000

theorem putS_own (w : World) (v : Value) (l : List Int) (n : Int) (h : Byt w v l) (hl : l.length ≤ 60000000) :
    Calls Try.prog 79 #[v, .int .i64 n] w fun e w' => ∃ a c, e = .returned (.slice a (putAll l n).length c) ∧ Own w' w.heap.size (.slice a (putAll l n).length c) (putAll l n) ∧ Below w.heap.size w w' := by
  refine (putS_any w v l n h (by omega)).mono ?_
  rintro e w' ⟨v', rfl, ho, hB⟩
  obtain ⟨a, c, rfl, _, _⟩ := ho.byt.shape
  exact ⟨a, c, rfl, ho, hB⟩

theorem putId_len (l : List Int) (n r : Int) : (putId l n r).length ≤ l.length + 10 := by
  unfold putId
  have := putAll_len (putAll l n) r
  have := putAll_len l n
  omega
theorem putNs_len (l k : List Int) : (putNs l k).length ≤ l.length + 5 * k.length := by
  induction k generalizing l with
  | nil => simp [putNs]
  | cons x k ih =>
    rw [putNs, List.length_cons]
    have := ih (putAll l x)
    have := putAll_len l x
    omega
theorem putKey_len (l k : List Int) : (putKey l k).length ≤ l.length + 5 + 5 * k.length := by
  unfold putKey
  have := putNs_len (putAll l k.length) k
  have := putAll_len l (k.length : Int)
  omega

/-- Put a step further. -/
theorem putNs_step (l k : List Int) (j : Nat) (h : j < k.length) : putNs l (k.take (j + 1)) = putAll (putNs l (k.take j)) (k.getD j 0) := by
  induction k generalizing l j with
  | nil => simp at h
  | cons x k ih =>
    cases j with
    | zero => simp [putNs]
    | succ j =>
      rw [List.take_succ_cons, List.take_succ_cons, putNs, putNs, ih _ j (by simpa using h)]
      simp

set_option maxHeartbeats 3200000 in
theorem putIdS_any (w : World) (v : Value) (l : List Int) (n r : Int) (h : Byt w v l) (hl : l.length ≤ 50000000) :
    Calls Try.prog 78 #[v, .agg #[.int .i64 n, .int .i64 r]] w fun e w' => ∃ a c, e = .returned (.slice a (putId l n r).length c) ∧ Own w' w.heap.size (.slice a (putId l n r).length c) (putId l n r) ∧ Below w.heap.size w w' := by
  have hA := (Below.refl w.heap.size w).alloc (Nat.le_refl _) (.cells #[.int .i64 n, .int .i64 r] 24)
  have l0 := Loc.made w #[.int .i64 n, .int .i64 r] 24
  have hp := putAll_len l n
  have HV := hide (h.keep hA)
  obtain ⟨a, c, rfl, _, _⟩ := h.shape
  clear h
  go_enter Try.func78, Try.ntmps78
  go_wp2_with fail
  generalize (w.alloc (.cells #[.int .i64 n, .int .i64 r] 24)) = w0 at *
  have H1 := hide (fun (W : World) (hW : Below w0.heap.size w0 W) => putS_own W _ l n ((unhide HV).keep hW) (by omega))
  clear HV
  have x0 := l0.cell 0
  have x1 := l0.cell 1
  go_region_held3 (fun w' => w'.cell? ⟨w.heap.size, 0, none⟩ = some (.int .i64 n) ∧ w'.cell? ⟨w.heap.size, 1, none⟩ = some (.int .i64 r))
    (first | exact ⟨by assumption, by assumption⟩ | simp [*])
    (first
      | (go_at_call 79; refine (unhide H1 _ ((Below.refl _ _).drew)).mono ?_; clear H1; rintro e w1 ⟨a1, c1, rfl, ho1, hB1⟩; have hD1 := bstep ((Below.refl w0.heap.size w0).drew) hB1; have x0 := (l0.all hD1).cell 0; have x1 := (l0.all hD1).cell 1)
      | (go_at_call 79; refine (putS_own w1 _ (putAll l n) r ho1.byt (by omega)).mono ?_; rintro e w2 ⟨a2, c2, rfl, ho2, hB2⟩; have hD2 := bstep hD1 hB2; have x0 := (l0.all hD2).cell 0; have x1 := (l0.all hD2).cell 1))
  all_goals
    go_wp2
    go_ret
    exact ⟨a2, c2, rfl, ho2.mono (by have := hA.size; have := hD1.size; omega), bstep hA hD2⟩

set_option maxHeartbeats 3200000 in
theorem putKeyS_any (w : World) (v u : Value) (l k : List Int) (h : Byt w v l) (hu : Ints w u k) (hl : l.length ≤ 20000000) (hk : k.length ≤ 2097152) :
    Calls Try.prog 80 #[v, u] w fun e w' => ∃ a c, e = .returned (.slice a (putKey l k).length c) ∧ Own w' w.heap.size (.slice a (putKey l k).length c) (putKey l k) ∧ Below w.heap.size w w' := by
  have H1 := hide (putS_own w v l (k.length : Int) h (by omega))
  have HU := hide hu
  have hp := putAll_len l (k.length : Int)
  obtain ⟨a, c, rfl, _, _⟩ := h.shape
  obtain ⟨a', c', rfl, _, _⟩ := hu.shape
  clear h hu
  unfold putKey
  generalize putAll l (k.length : Int) = lp at *
  go_enter Try.func80, Try.ntmps80
  go_wp2_with fail
  refine (unhide H1).mono ?_
  clear H1
  rintro e w1 ⟨a1, c1, rfl, ho1, hB1⟩
  go_wp2_with fail
  go_loopw [0, 5] (fun b i wr => ∃ (j : Nat) (a2 : Option Addr) (c2 : Nat), j ≤ k.length ∧ i = .int .i64 j ∧ b = .slice a2 (putNs lp (k.take j)).length c2 ∧ Own wr w.heap.size (.slice a2 (putNs lp (k.take j)).length c2) (putNs lp (k.take j)) ∧ Below w.heap.size w wr) (fun _ i _ => k.length - (intOf i).toNat)
  case atStart => exact ⟨0, a1, c1, Nat.zero_le _, rfl, rfl, ho1, hB1⟩
  case round =>
    obtain ⟨j, a2, c2, hj, rfl, rfl, ho, hB⟩ := hrel
    clear ho1 hB1
    by_cases hlt : j < k.length
    · have HS := hide (putNs_step lp k j hlt)
      have hq := putNs_len lp (k.take j)
      rw [List.length_take, Nat.min_eq_left hj] at hq
      generalize hpt : putNs lp (k.take j) = lj at *
      clear hpt
      have hlt' : (j : Int) < (k.length : Int) := by omega
      obtain ⟨x, hx⟩ : ∃ x, x = k.getD j 0 := ⟨_, rfl⟩
      rw [← hx] at HS
      obtain ⟨hok, hm, ⟨_, e⟩ | ⟨_, _, _, _, e⟩ | ⟨b, off, cap, e, h1, h2, h3, h4, h5⟩⟩ := (unhide HU).keep hB
      · rw [e] at hlt; simp at hlt
      · rw [e] at hlt; simp at hlt
      have e1 : a' = some ⟨b, off, none⟩ := by injection e
      have hcx := h5 j hlt
      rw [← hx] at hcx
      clear hx h5 e HU
      subst e1
      go_wp2_with fail
      refine (putS_own wr _ lj x ho.byt (by omega)).mono ?_
      rintro e w2 ⟨a3, c3, rfl, ho3, hB3⟩
      rw [← unhide HS] at ho3 ⊢
      go_wp2_with fail
      go_roundw
      case rel => exact ⟨j + 1, a3, c3, by omega, by go_num, rfl, ho3.mono hB.size, bstep hB hB3⟩
      case measure => simp [intOf]; omega
    · obtain rfl : j = k.length := by omega
      have HE := hide (show putNs lp (k.take k.length) = putNs lp k by rw [List.take_of_length_le (Nat.le_refl _)])
      rw [unhide HE] at ho ⊢
      clear HE
      go_wp2_with fail
      go_ret
      exact ⟨a2, c2, rfl, ho, hB⟩
end Go.Proofs.Ytcabolcfoijglaa

/- spec.l4bytes and spec.OpBytes tell the bytes of an operation. -/
namespace Go.Proofs.Ytcabolcfoijglaa
open Go.RowKit
set_option linter.unusedVariables false
set_option maxRecDepth 100000

theorem cell_later {w w' : World} (hB : Below w.heap.size w w') {p : Addr} {v : Value} (h : w.cell? p = some v) : w'.cell? p = some v := (hB.cell (lt_of_cell h)).trans h
theorem balloc2 {w w' : World} {o : Obj} (h : Below w.heap.size w w') : Below w.heap.size w (w'.alloc o) := h.alloc h.size o
theorem rw_base {f : FuncId} {args : Array Value} {W : World} {r : List Int} {B : Nat} (h : Calls Try.prog f args W fun e w' => ∃ a c, e = .returned (.slice a r.length c) ∧ Own w' W.heap.size (.slice a r.length c) r ∧ Below W.heap.size W w') (hb : B ≤ W.heap.size) :
    Calls Try.prog f args W fun e w' => ∃ a c, e = .returned (.slice a r.length c) ∧ Own w' B (.slice a r.length c) r ∧ Below W.heap.size W w' :=
  h.mono fun _ _ ⟨a, c, q1, q2, q3⟩ => ⟨a, c, q1, q2.mono hb, q3⟩
theorem own_nil2 (w : World) (base : Nat) : Own w base (.slice none 0 0) [] := ⟨okB_nil, rfl, .inl ⟨rfl, rfl⟩⟩
theorem putTS_own2 (w : World) (v u : Value) (l t : List Int) (h : Byt w v l) (hu : Byt w u t) (hl : l.length ≤ 60000000) :
    Calls Try.prog 81 #[v, u] w fun e w' => ∃ a c, e = .returned (.slice a (putT l t).length c) ∧ Own w' w.heap.size (.slice a (putT l t).length c) (putT l t) ∧ Below w.heap.size w w' := by
  refine (putTS_any w v u l t h hu hl).mono ?_
  rintro e w' ⟨v', rfl, ho, hB⟩
  obtain ⟨a, c, rfl, _, _⟩ := ho.byt.shape
  exact ⟨a, c, rfl, ho, hB⟩

set_option maxHeartbeats 12800000 in
theorem bytesS_0 (w : World) (o : OpV) (a1 a2 a3 : Option Addr) (c1 c2 c3 : Nat) (hk : Ints w (.slice a1 o.key.length c1) o.key) (hn : Byt w (.slice a2 o.name.length c2) o.name) (ht : Byt w (.slice a3 o.text.length c3) o.text) (hs : o.key.length ≤ 2097152) (k0 : o.kind = 0) :
    Calls Try.prog 48 #[opVal o (.slice a1 o.key.length c1) (.slice a2 o.name.length c2) (.slice a3 o.text.length c3)] w fun e w' => ∃ a c, e = .returned (.slice a (opBytes o).length c) ∧ Own w' w.heap.size (.slice a (opBytes o).length c) (opBytes o) ∧ Below w.heap.size w w' := by
  have HK := hide hk
  have HM := hide hn
  have HX := hide ht
  clear hk hn ht
  have Ln : ([] : List Int).length = 0 := rfl
  obtain ⟨r1, e1⟩ : ∃ r, r = putAll ([] : List Int) 0 := ⟨_, rfl⟩
  have L1 := putAll_len ([] : List Int) 0
  have H1 := hide (fun (W : World) (hW : Below w.heap.size w W) (v : Value) (h : Own W w.heap.size v ([] : List Int)) => rw_base (putS_own W v ([] : List Int) 0 h.byt (by omega)) hW.size)
  rw [← e1] at L1 H1
  obtain ⟨r2, e2⟩ : ∃ r, r = putId r1 o.atN o.atR := ⟨_, rfl⟩
  have L2 := putId_len r1 o.atN o.atR
  have H2 := hide (fun (W : World) (hW : Below w.heap.size w W) (v : Value) (h : Own W w.heap.size v r1) => rw_base (putIdS_any W v r1 o.atN o.atR h.byt (by omega)) hW.size)
  rw [← e2] at L2 H2
  obtain ⟨r3, e3⟩ : ∃ r, r = putId r2 o.parN o.parR := ⟨_, rfl⟩
  have L3 := putId_len r2 o.parN o.parR
  have H3 := hide (fun (W : World) (hW : Below w.heap.size w W) (v : Value) (h : Own W w.heap.size v r2) => rw_base (putIdS_any W v r2 o.parN o.parR h.byt (by omega)) hW.size)
  rw [← e3] at L3 H3
  obtain ⟨r4, e4⟩ : ∃ r, r = putKey r3 o.key := ⟨_, rfl⟩
  have L4 := putKey_len r3 o.key
  have H4 := hide (fun (W : World) (hW : Below w.heap.size w W) (v : Value) (h : Own W w.heap.size v r3) => rw_base (putKeyS_any W v _ r3 o.key h.byt ((unhide HK).keep hW) (by omega) (by omega)) hW.size)
  rw [← e4] at L4 H4
  obtain ⟨r5, e5⟩ : ∃ r, r = putAll r4 o.elem := ⟨_, rfl⟩
  have L5 := putAll_len r4 o.elem
  have H5 := hide (fun (W : World) (hW : Below w.heap.size w W) (v : Value) (h : Own W w.heap.size v r4) => rw_base (putS_own W v r4 o.elem h.byt (by omega)) hW.size)
  rw [← e5] at L5 H5
  obtain ⟨r6, e6⟩ : ∃ r, r = putT r5 o.name := ⟨_, rfl⟩
  have L6 := putT_len r5 o.name
  have H6 := hide (fun (W : World) (hW : Below w.heap.size w W) (v : Value) (h : Own W w.heap.size v r5) => rw_base (putTS_own2 W v _ r5 o.name h.byt ((unhide HM).keep hW) (by omega)) hW.size)
  rw [← e6] at L6 H6
  obtain ⟨r7, e7⟩ : ∃ r, r = putT r6 o.text := ⟨_, rfl⟩
  have L7 := putT_len r6 o.text
  have H7 := hide (fun (W : World) (hW : Below w.heap.size w W) (v : Value) (h : Own W w.heap.size v r6) => rw_base (putTS_own2 W v _ r6 o.text h.byt ((unhide HX).keep hW) (by omega)) hW.size)
  rw [← e7] at L7 H7
  have HE := hide (show opBytes o = r7 by unfold opBytes opHd; rw [k0, if_pos rfl]; rw [e7, e6, e5, e4, e3, e2, e1])
  clear e7 L7 e6 L6 e5 L5 e4 L4 e3 L3 e2 L2 e1 L1
  have hA0 : Below w.heap.size w (w.alloc (.cells #[.int .i64 0, .int .i64 o.atN, .int .i64 o.atR, .int .i64 o.nodeN, .int .i64 o.nodeR, .int .i64 o.parN, .int .i64 o.parR, .slice a1 o.key.length c1, .int .i64 o.elem, .slice a2 o.name.length c2, .slice a3 o.text.length c3, .bool o.gone] 27)) := (Below.refl w.heap.size w).alloc (Nat.le_refl _) _
  have l0 := Loc.made w #[.int .i64 0, .int .i64 o.atN, .int .i64 o.atR, .int .i64 o.nodeN, .int .i64 o.nodeR, .int .i64 o.parN, .int .i64 o.parR, .slice a1 o.key.length c1, .int .i64 o.elem, .slice a2 o.name.length c2, .slice a3 o.text.length c3, .bool o.gone] 27
  rw [unhide HE]
  clear HE
  unfold opVal
  rw [k0]
  go_enter Try.func48, Try.ntmps48
  go_wp2_with fail
  generalize (w.alloc (.cells #[.int .i64 0, .int .i64 o.atN, .int .i64 o.atR, .int .i64 o.nodeN, .int .i64 o.nodeR, .int .i64 o.parN, .int .i64 o.parR, .slice a1 o.key.length c1, .int .i64 o.elem, .slice a2 o.name.length c2, .slice a3 o.text.length c3, .bool o.gone] 27)) = w0 at *
  obtain ⟨x0, x1, x2, x3, x4, x5, x6, x7, x8, x9, x10, x11⟩ := l0.twelve
  go_region_held3 (fun w' => w'.cell? ⟨w.heap.size, 0, none⟩ = some (.int .i64 0) ∧ w'.cell? ⟨w.heap.size, 1, none⟩ = some (.int .i64 o.atN) ∧ w'.cell? ⟨w.heap.size, 2, none⟩ = some (.int .i64 o.atR))
    (first | exact ⟨by assumption, by assumption, by assumption⟩ | go_keep)
    (first
      | (go_at_call 79; refine (unhide H1 _ (by repeat (first | exact hA0 | exact Below.refl _ _ | refine balloc2 ?_ | refine Below.drew ?_)) _ (own_nil2 _ _)).mono ?_; clear H1; rintro e w11 ⟨b1, d1, rfl, ho1, hB1⟩; have hA11 := bstep (a := w) (by repeat (first | exact hA0 | exact Below.refl _ _ | refine balloc2 ?_ | refine Below.drew ?_)) hB1; have hD11 := bstep (a := w0) (by repeat (first | exact Below.refl _ _ | exact Below.refl _ _ | refine balloc2 ?_ | refine Below.drew ?_)) hB1; have hY1 := fun p v h => cell_later hB1 (p := p) (v := v) h; obtain ⟨x0, x1, x2, x3, x4, x5, x6, x7, x8, x9, x10, x11⟩ := (l0.all hD11).twelve)
      | (go_at_call 78; refine (unhide H2 _ (by repeat (first | exact hA11 | exact Below.refl _ _ | refine balloc2 ?_ | refine Below.drew ?_)) _ (ho1.keep (by repeat (first | exact Below.refl _ _ | exact Below.refl _ _ | refine balloc2 ?_ | refine Below.drew ?_)))).mono ?_; clear H2; rintro e w12 ⟨b2, d2, rfl, ho2, hB2⟩; have hA12 := bstep (a := w) (by repeat (first | exact hA11 | exact Below.refl _ _ | refine balloc2 ?_ | refine Below.drew ?_)) hB2; have hD12 := bstep (a := w0) (by repeat (first | exact hD11 | exact Below.refl _ _ | refine balloc2 ?_ | refine Below.drew ?_)) hB2; have hY2 := fun p v h => cell_later hB2 (p := p) (v := v) h; obtain ⟨x0, x1, x2, x3, x4, x5, x6, x7, x8, x9, x10, x11⟩ := (l0.all hD12).twelve))
  all_goals
    have l12 := l0.all hD12
    clear x0 x1 x2 x3 x4 x5 x6 x7 x8 x9 x10 x11 hY1 hB1 hD11 hY2 hB2 hD12 ho1 hA11
    obtain ⟨x0, x1, x2, x3, x4, x5, x6, x7, x8, x9, x10, x11⟩ := l12.twelve
    go_wp2_with fail
    clear x0 x1 x2 x3 x4 x5 x6 x7 x8 x9 x10 x11
    obtain ⟨x0, x1, x2, x3, x4, x5, x6, x7, x8, x9, x10, x11⟩ := l12.twelve
    go_region_held3 (fun w' => w'.cell? ⟨w.heap.size, 5, none⟩ = some (.int .i64 o.parN) ∧ w'.cell? ⟨w.heap.size, 6, none⟩ = some (.int .i64 o.parR) ∧ w'.cell? ⟨w.heap.size, 7, none⟩ = some (.slice a1 o.key.length c1))
      (first | exact ⟨by assumption, by assumption, by assumption⟩ | go_keep)
      (first
        | (go_at_call 78; refine (unhide H3 _ (by repeat (first | exact hA12 | exact Below.refl _ _ | refine balloc2 ?_ | refine Below.drew ?_)) _ (ho2.keep (by repeat (first | exact Below.refl _ _ | exact Below.refl _ _ | refine balloc2 ?_ | refine Below.drew ?_)))).mono ?_; clear H3; rintro e w13 ⟨b3, d3, rfl, ho3, hB3⟩; have hA13 := bstep (a := w) (by repeat (first | exact hA12 | exact Below.refl _ _ | refine balloc2 ?_ | refine Below.drew ?_)) hB3; have hD13 := bstep (a := w12) (by repeat (first | exact Below.refl _ _ | exact Below.refl _ _ | refine balloc2 ?_ | refine Below.drew ?_)) hB3; have hY3 := fun p v h => cell_later hB3 (p := p) (v := v) h; obtain ⟨x0, x1, x2, x3, x4, x5, x6, x7, x8, x9, x10, x11⟩ := (l12.all hD13).twelve)
        | (go_at_call 80; refine (unhide H4 _ (by repeat (first | exact hA13 | exact Below.refl _ _ | refine balloc2 ?_ | refine Below.drew ?_)) _ (ho3.keep (by repeat (first | exact Below.refl _ _ | exact Below.refl _ _ | refine balloc2 ?_ | refine Below.drew ?_)))).mono ?_; clear H4; rintro e w14 ⟨b4, d4, rfl, ho4, hB4⟩; have hA14 := bstep (a := w) (by repeat (first | exact hA13 | exact Below.refl _ _ | refine balloc2 ?_ | refine Below.drew ?_)) hB4; have hD14 := bstep (a := w12) (by repeat (first | exact hD13 | exact Below.refl _ _ | refine balloc2 ?_ | refine Below.drew ?_)) hB4; have hY4 := fun p v h => cell_later hB4 (p := p) (v := v) h; obtain ⟨x0, x1, x2, x3, x4, x5, x6, x7, x8, x9, x10, x11⟩ := (l12.all hD14).twelve))
    all_goals
      have l14 := l12.all hD14
      clear x0 x1 x2 x3 x4 x5 x6 x7 x8 x9 x10 x11 hY3 hB3 hD13 hY4 hB4 hD14 ho3 hA13
      obtain ⟨x0, x1, x2, x3, x4, x5, x6, x7, x8, x9, x10, x11⟩ := l14.twelve
      go_wp2_with fail
      clear x0 x1 x2 x3 x4 x5 x6 x7 x8 x9 x10 x11
      obtain ⟨x0, x1, x2, x3, x4, x5, x6, x7, x8, x9, x10, x11⟩ := l14.twelve
      go_region_held3 (fun w' => w'.cell? ⟨w.heap.size, 8, none⟩ = some (.int .i64 o.elem) ∧ w'.cell? ⟨w.heap.size, 9, none⟩ = some (.slice a2 o.name.length c2) ∧ w'.cell? ⟨w.heap.size, 10, none⟩ = some (.slice a3 o.text.length c3))
        (first | exact ⟨by assumption, by assumption, by assumption⟩ | go_keep)
        (first
          | (go_at_call 79; refine (unhide H5 _ (by repeat (first | exact hA14 | exact Below.refl _ _ | refine balloc2 ?_ | refine Below.drew ?_)) _ (ho4.keep (by repeat (first | exact Below.refl _ _ | exact Below.refl _ _ | refine balloc2 ?_ | refine Below.drew ?_)))).mono ?_; clear H5; rintro e w15 ⟨b5, d5, rfl, ho5, hB5⟩; have hA15 := bstep (a := w) (by repeat (first | exact hA14 | exact Below.refl _ _ | refine balloc2 ?_ | refine Below.drew ?_)) hB5; have hD15 := bstep (a := w14) (by repeat (first | exact Below.refl _ _ | exact Below.refl _ _ | refine balloc2 ?_ | refine Below.drew ?_)) hB5; have hY5 := fun p v h => cell_later hB5 (p := p) (v := v) h; obtain ⟨x0, x1, x2, x3, x4, x5, x6, x7, x8, x9, x10, x11⟩ := (l14.all hD15).twelve)
          | (go_at_call 81; refine (unhide H6 _ (by repeat (first | exact hA15 | exact Below.refl _ _ | refine balloc2 ?_ | refine Below.drew ?_)) _ (ho5.keep (by repeat (first | exact Below.refl _ _ | exact Below.refl _ _ | refine balloc2 ?_ | refine Below.drew ?_)))).mono ?_; clear H6; rintro e w16 ⟨b6, d6, rfl, ho6, hB6⟩; have hA16 := bstep (a := w) (by repeat (first | exact hA15 | exact Below.refl _ _ | refine balloc2 ?_ | refine Below.drew ?_)) hB6; have hD16 := bstep (a := w14) (by repeat (first | exact hD15 | exact Below.refl _ _ | refine balloc2 ?_ | refine Below.drew ?_)) hB6; have hY6 := fun p v h => cell_later hB6 (p := p) (v := v) h; obtain ⟨x0, x1, x2, x3, x4, x5, x6, x7, x8, x9, x10, x11⟩ := (l14.all hD16).twelve)
          | (go_at_call 81; refine (unhide H7 _ (by repeat (first | exact hA16 | exact Below.refl _ _ | refine balloc2 ?_ | refine Below.drew ?_)) _ (ho6.keep (by repeat (first | exact Below.refl _ _ | exact Below.refl _ _ | refine balloc2 ?_ | refine Below.drew ?_)))).mono ?_; clear H7; rintro e w17 ⟨b7, d7, rfl, ho7, hB7⟩; have hA17 := bstep (a := w) (by repeat (first | exact hA16 | exact Below.refl _ _ | refine balloc2 ?_ | refine Below.drew ?_)) hB7; have hD17 := bstep (a := w14) (by repeat (first | exact hD16 | exact Below.refl _ _ | refine balloc2 ?_ | refine Below.drew ?_)) hB7; have hY7 := fun p v h => cell_later hB7 (p := p) (v := v) h; obtain ⟨x0, x1, x2, x3, x4, x5, x6, x7, x8, x9, x10, x11⟩ := (l14.all hD17).twelve))
      all_goals
        have l17 := l14.all hD17
        clear x0 x1 x2 x3 x4 x5 x6 x7 x8 x9 x10 x11 hY5 hB5 hD15 hY6 hB6 hD16 hY7 hB7 hD17 ho5 ho6 hA15 hA16
        obtain ⟨x0, x1, x2, x3, x4, x5, x6, x7, x8, x9, x10, x11⟩ := l17.twelve
        go_wp2_with fail
        clear x0 x1 x2 x3 x4 x5 x6 x7 x8 x9 x10 x11
        go_ret
        exact ⟨b7, d7, rfl, ho7, hA17⟩

set_option maxHeartbeats 12800000 in
theorem bytesS_1 (w : World) (o : OpV) (a1 a2 a3 : Option Addr) (c1 c2 c3 : Nat) (hk : Ints w (.slice a1 o.key.length c1) o.key) (hn : Byt w (.slice a2 o.name.length c2) o.name) (ht : Byt w (.slice a3 o.text.length c3) o.text) (hs : o.key.length ≤ 2097152) (k0 : o.kind = 1) :
    Calls Try.prog 48 #[opVal o (.slice a1 o.key.length c1) (.slice a2 o.name.length c2) (.slice a3 o.text.length c3)] w fun e w' => ∃ a c, e = .returned (.slice a (opBytes o).length c) ∧ Own w' w.heap.size (.slice a (opBytes o).length c) (opBytes o) ∧ Below w.heap.size w w' := by
  have HK := hide hk
  have HM := hide hn
  have HX := hide ht
  clear hk hn ht
  have Ln : ([] : List Int).length = 0 := rfl
  obtain ⟨r1, e1⟩ : ∃ r, r = putAll ([] : List Int) 1 := ⟨_, rfl⟩
  have L1 := putAll_len ([] : List Int) 1
  have H1 := hide (fun (W : World) (hW : Below w.heap.size w W) (v : Value) (h : Own W w.heap.size v ([] : List Int)) => rw_base (putS_own W v ([] : List Int) 1 h.byt (by omega)) hW.size)
  rw [← e1] at L1 H1
  obtain ⟨r2, e2⟩ : ∃ r, r = putId r1 o.atN o.atR := ⟨_, rfl⟩
  have L2 := putId_len r1 o.atN o.atR
  have H2 := hide (fun (W : World) (hW : Below w.heap.size w W) (v : Value) (h : Own W w.heap.size v r1) => rw_base (putIdS_any W v r1 o.atN o.atR h.byt (by omega)) hW.size)
  rw [← e2] at L2 H2
  obtain ⟨r3, e3⟩ : ∃ r, r = putId r2 o.nodeN o.nodeR := ⟨_, rfl⟩
  have L3 := putId_len r2 o.nodeN o.nodeR
  have H3 := hide (fun (W : World) (hW : Below w.heap.size w W) (v : Value) (h : Own W w.heap.size v r2) => rw_base (putIdS_any W v r2 o.nodeN o.nodeR h.byt (by omega)) hW.size)
  rw [← e3] at L3 H3
  obtain ⟨r4, e4⟩ : ∃ r, r = putId r3 o.parN o.parR := ⟨_, rfl⟩
  have L4 := putId_len r3 o.parN o.parR
  have H4 := hide (fun (W : World) (hW : Below w.heap.size w W) (v : Value) (h : Own W w.heap.size v r3) => rw_base (putIdS_any W v r3 o.parN o.parR h.byt (by omega)) hW.size)
  rw [← e4] at L4 H4
  obtain ⟨r5, e5⟩ : ∃ r, r = putKey r4 o.key := ⟨_, rfl⟩
  have L5 := putKey_len r4 o.key
  have H5 := hide (fun (W : World) (hW : Below w.heap.size w W) (v : Value) (h : Own W w.heap.size v r4) => rw_base (putKeyS_any W v _ r4 o.key h.byt ((unhide HK).keep hW) (by omega) (by omega)) hW.size)
  rw [← e5] at L5 H5
  have HE := hide (show opBytes o = r5 by unfold opBytes opHd; rw [k0, if_neg (by decide), if_pos rfl]; rw [e5, e4, e3, e2, e1])
  clear e5 L5 e4 L4 e3 L3 e2 L2 e1 L1
  have hA0 : Below w.heap.size w (w.alloc (.cells #[.int .i64 1, .int .i64 o.atN, .int .i64 o.atR, .int .i64 o.nodeN, .int .i64 o.nodeR, .int .i64 o.parN, .int .i64 o.parR, .slice a1 o.key.length c1, .int .i64 o.elem, .slice a2 o.name.length c2, .slice a3 o.text.length c3, .bool o.gone] 27)) := (Below.refl w.heap.size w).alloc (Nat.le_refl _) _
  have l0 := Loc.made w #[.int .i64 1, .int .i64 o.atN, .int .i64 o.atR, .int .i64 o.nodeN, .int .i64 o.nodeR, .int .i64 o.parN, .int .i64 o.parR, .slice a1 o.key.length c1, .int .i64 o.elem, .slice a2 o.name.length c2, .slice a3 o.text.length c3, .bool o.gone] 27
  rw [unhide HE]
  clear HE
  unfold opVal
  rw [k0]
  go_enter Try.func48, Try.ntmps48
  go_wp2_with fail
  generalize (w.alloc (.cells #[.int .i64 1, .int .i64 o.atN, .int .i64 o.atR, .int .i64 o.nodeN, .int .i64 o.nodeR, .int .i64 o.parN, .int .i64 o.parR, .slice a1 o.key.length c1, .int .i64 o.elem, .slice a2 o.name.length c2, .slice a3 o.text.length c3, .bool o.gone] 27)) = w0 at *
  obtain ⟨x0, x1, x2, x3, x4, x5, x6, x7, x8, x9, x10, x11⟩ := l0.twelve
  go_region_held3 (fun w' => w'.cell? ⟨w.heap.size, 0, none⟩ = some (.int .i64 1) ∧ w'.cell? ⟨w.heap.size, 1, none⟩ = some (.int .i64 o.atN) ∧ w'.cell? ⟨w.heap.size, 2, none⟩ = some (.int .i64 o.atR))
    (first | exact ⟨by assumption, by assumption, by assumption⟩ | go_keep)
    (first
      | (go_at_call 79; refine (unhide H1 _ (by repeat (first | exact hA0 | exact Below.refl _ _ | refine balloc2 ?_ | refine Below.drew ?_)) _ (own_nil2 _ _)).mono ?_; clear H1; rintro e w11 ⟨b1, d1, rfl, ho1, hB1⟩; have hA11 := bstep (a := w) (by repeat (first | exact hA0 | exact Below.refl _ _ | refine balloc2 ?_ | refine Below.drew ?_)) hB1; have hD11 := bstep (a := w0) (by repeat (first | exact Below.refl _ _ | exact Below.refl _ _ | refine balloc2 ?_ | refine Below.drew ?_)) hB1; have hY1 := fun p v h => cell_later hB1 (p := p) (v := v) h; obtain ⟨x0, x1, x2, x3, x4, x5, x6, x7, x8, x9, x10, x11⟩ := (l0.all hD11).twelve)
      | (go_at_call 78; refine (unhide H2 _ (by repeat (first | exact hA11 | exact Below.refl _ _ | refine balloc2 ?_ | refine Below.drew ?_)) _ (ho1.keep (by repeat (first | exact Below.refl _ _ | exact Below.refl _ _ | refine balloc2 ?_ | refine Below.drew ?_)))).mono ?_; clear H2; rintro e w12 ⟨b2, d2, rfl, ho2, hB2⟩; have hA12 := bstep (a := w) (by repeat (first | exact hA11 | exact Below.refl _ _ | refine balloc2 ?_ | refine Below.drew ?_)) hB2; have hD12 := bstep (a := w0) (by repeat (first | exact hD11 | exact Below.refl _ _ | refine balloc2 ?_ | refine Below.drew ?_)) hB2; have hY2 := fun p v h => cell_later hB2 (p := p) (v := v) h; obtain ⟨x0, x1, x2, x3, x4, x5, x6, x7, x8, x9, x10, x11⟩ := (l0.all hD12).twelve))
  all_goals
    have l12 := l0.all hD12
    clear x0 x1 x2 x3 x4 x5 x6 x7 x8 x9 x10 x11 hY1 hB1 hD11 hY2 hB2 hD12 ho1 hA11
    obtain ⟨x0, x1, x2, x3, x4, x5, x6, x7, x8, x9, x10, x11⟩ := l12.twelve
    go_wp2_with fail
    clear x0 x1 x2 x3 x4 x5 x6 x7 x8 x9 x10 x11
    obtain ⟨x0, x1, x2, x3, x4, x5, x6, x7, x8, x9, x10, x11⟩ := l12.twelve
    go_region_held3 (fun w' => w'.cell? ⟨w.heap.size, 3, none⟩ = some (.int .i64 o.nodeN) ∧ w'.cell? ⟨w.heap.size, 4, none⟩ = some (.int .i64 o.nodeR) ∧ w'.cell? ⟨w.heap.size, 5, none⟩ = some (.int .i64 o.parN) ∧ w'.cell? ⟨w.heap.size, 6, none⟩ = some (.int .i64 o.parR) ∧ w'.cell? ⟨w.heap.size, 7, none⟩ = some (.slice a1 o.key.length c1))
      (first | exact ⟨by assumption, by assumption, by assumption, by assumption, by assumption⟩ | go_keep)
      (first
        | (go_at_call 78; refine (unhide H3 _ (by repeat (first | exact hA12 | exact Below.refl _ _ | refine balloc2 ?_ | refine Below.drew ?_)) _ (ho2.keep (by repeat (first | exact Below.refl _ _ | exact Below.refl _ _ | refine balloc2 ?_ | refine Below.drew ?_)))).mono ?_; clear H3; rintro e w13 ⟨b3, d3, rfl, ho3, hB3⟩; have hA13 := bstep (a := w) (by repeat (first | exact hA12 | exact Below.refl _ _ | refine balloc2 ?_ | refine Below.drew ?_)) hB3; have hD13 := bstep (a := w12) (by repeat (first | exact Below.refl _ _ | exact Below.refl _ _ | refine balloc2 ?_ | refine Below.drew ?_)) hB3; have hY3 := fun p v h => cell_later hB3 (p := p) (v := v) h; obtain ⟨x0, x1, x2, x3, x4, x5, x6, x7, x8, x9, x10, x11⟩ := (l12.all hD13).twelve)
        | (go_at_call 78; refine (unhide H4 _ (by repeat (first | exact hA13 | exact Below.refl _ _ | refine balloc2 ?_ | refine Below.drew ?_)) _ (ho3.keep (by repeat (first | exact Below.refl _ _ | exact Below.refl _ _ | refine balloc2 ?_ | refine Below.drew ?_)))).mono ?_; clear H4; rintro e w14 ⟨b4, d4, rfl, ho4, hB4⟩; have hA14 := bstep (a := w) (by repeat (first | exact hA13 | exact Below.refl _ _ | refine balloc2 ?_ | refine Below.drew ?_)) hB4; have hD14 := bstep (a := w12) (by repeat (first | exact hD13 | exact Below.refl _ _ | refine balloc2 ?_ | refine Below.drew ?_)) hB4; have hY4 := fun p v h => cell_later hB4 (p := p) (v := v) h; obtain ⟨x0, x1, x2, x3, x4, x5, x6, x7, x8, x9, x10, x11⟩ := (l12.all hD14).twelve)
        | (go_at_call 80; refine (unhide H5 _ (by repeat (first | exact hA14 | exact Below.refl _ _ | refine balloc2 ?_ | refine Below.drew ?_)) _ (ho4.keep (by repeat (first | exact Below.refl _ _ | exact Below.refl _ _ | refine balloc2 ?_ | refine Below.drew ?_)))).mono ?_; clear H5; rintro e w15 ⟨b5, d5, rfl, ho5, hB5⟩; have hA15 := bstep (a := w) (by repeat (first | exact hA14 | exact Below.refl _ _ | refine balloc2 ?_ | refine Below.drew ?_)) hB5; have hD15 := bstep (a := w12) (by repeat (first | exact hD14 | exact Below.refl _ _ | refine balloc2 ?_ | refine Below.drew ?_)) hB5; have hY5 := fun p v h => cell_later hB5 (p := p) (v := v) h; obtain ⟨x0, x1, x2, x3, x4, x5, x6, x7, x8, x9, x10, x11⟩ := (l12.all hD15).twelve))
    all_goals
      have l15 := l12.all hD15
      clear x0 x1 x2 x3 x4 x5 x6 x7 x8 x9 x10 x11 hY3 hB3 hD13 hY4 hB4 hD14 hY5 hB5 hD15 ho3 ho4 hA13 hA14
      obtain ⟨x0, x1, x2, x3, x4, x5, x6, x7, x8, x9, x10, x11⟩ := l15.twelve
      go_wp2_with fail
      clear x0 x1 x2 x3 x4 x5 x6 x7 x8 x9 x10 x11
      go_ret
      exact ⟨b5, d5, rfl, ho5, hA15⟩

set_option maxHeartbeats 12800000 in
theorem bytesS_2 (w : World) (o : OpV) (a1 a2 a3 : Option Addr) (c1 c2 c3 : Nat) (hk : Ints w (.slice a1 o.key.length c1) o.key) (hn : Byt w (.slice a2 o.name.length c2) o.name) (ht : Byt w (.slice a3 o.text.length c3) o.text) (hs : o.key.length ≤ 2097152) (k0 : o.kind = 2) :
    Calls Try.prog 48 #[opVal o (.slice a1 o.key.length c1) (.slice a2 o.name.length c2) (.slice a3 o.text.length c3)] w fun e w' => ∃ a c, e = .returned (.slice a (opBytes o).length c) ∧ Own w' w.heap.size (.slice a (opBytes o).length c) (opBytes o) ∧ Below w.heap.size w w' := by
  have HK := hide hk
  have HM := hide hn
  have HX := hide ht
  clear hk hn ht
  have Ln : ([] : List Int).length = 0 := rfl
  obtain ⟨r1, e1⟩ : ∃ r, r = putAll ([] : List Int) 2 := ⟨_, rfl⟩
  have L1 := putAll_len ([] : List Int) 2
  have H1 := hide (fun (W : World) (hW : Below w.heap.size w W) (v : Value) (h : Own W w.heap.size v ([] : List Int)) => rw_base (putS_own W v ([] : List Int) 2 h.byt (by omega)) hW.size)
  rw [← e1] at L1 H1
  obtain ⟨r2, e2⟩ : ∃ r, r = putId r1 o.atN o.atR := ⟨_, rfl⟩
  have L2 := putId_len r1 o.atN o.atR
  have H2 := hide (fun (W : World) (hW : Below w.heap.size w W) (v : Value) (h : Own W w.heap.size v r1) => rw_base (putIdS_any W v r1 o.atN o.atR h.byt (by omega)) hW.size)
  rw [← e2] at L2 H2
  obtain ⟨r3, e3⟩ : ∃ r, r = putId r2 o.nodeN o.nodeR := ⟨_, rfl⟩
  have L3 := putId_len r2 o.nodeN o.nodeR
  have H3 := hide (fun (W : World) (hW : Below w.heap.size w W) (v : Value) (h : Own W w.heap.size v r2) => rw_base (putIdS_any W v r2 o.nodeN o.nodeR h.byt (by omega)) hW.size)
  rw [← e3] at L3 H3
  obtain ⟨r4, e4⟩ : ∃ r, r = putT r3 o.text := ⟨_, rfl⟩
  have L4 := putT_len r3 o.text
  have H4 := hide (fun (W : World) (hW : Below w.heap.size w W) (v : Value) (h : Own W w.heap.size v r3) => rw_base (putTS_own2 W v _ r3 o.text h.byt ((unhide HX).keep hW) (by omega)) hW.size)
  rw [← e4] at L4 H4
  have HE := hide (show opBytes o = r4 by unfold opBytes opHd; rw [k0, if_neg (by decide), if_neg (by decide), if_pos rfl]; rw [e4, e3, e2, e1])
  clear e4 L4 e3 L3 e2 L2 e1 L1
  have hA0 : Below w.heap.size w (w.alloc (.cells #[.int .i64 2, .int .i64 o.atN, .int .i64 o.atR, .int .i64 o.nodeN, .int .i64 o.nodeR, .int .i64 o.parN, .int .i64 o.parR, .slice a1 o.key.length c1, .int .i64 o.elem, .slice a2 o.name.length c2, .slice a3 o.text.length c3, .bool o.gone] 27)) := (Below.refl w.heap.size w).alloc (Nat.le_refl _) _
  have l0 := Loc.made w #[.int .i64 2, .int .i64 o.atN, .int .i64 o.atR, .int .i64 o.nodeN, .int .i64 o.nodeR, .int .i64 o.parN, .int .i64 o.parR, .slice a1 o.key.length c1, .int .i64 o.elem, .slice a2 o.name.length c2, .slice a3 o.text.length c3, .bool o.gone] 27
  rw [unhide HE]
  clear HE
  unfold opVal
  rw [k0]
  go_enter Try.func48, Try.ntmps48
  go_wp2_with fail
  generalize (w.alloc (.cells #[.int .i64 2, .int .i64 o.atN, .int .i64 o.atR, .int .i64 o.nodeN, .int .i64 o.nodeR, .int .i64 o.parN, .int .i64 o.parR, .slice a1 o.key.length c1, .int .i64 o.elem, .slice a2 o.name.length c2, .slice a3 o.text.length c3, .bool o.gone] 27)) = w0 at *
  obtain ⟨x0, x1, x2, x3, x4, x5, x6, x7, x8, x9, x10, x11⟩ := l0.twelve
  go_region_held3 (fun w' => w'.cell? ⟨w.heap.size, 0, none⟩ = some (.int .i64 2) ∧ w'.cell? ⟨w.heap.size, 1, none⟩ = some (.int .i64 o.atN) ∧ w'.cell? ⟨w.heap.size, 2, none⟩ = some (.int .i64 o.atR))
    (first | exact ⟨by assumption, by assumption, by assumption⟩ | go_keep)
    (first
      | (go_at_call 79; refine (unhide H1 _ (by repeat (first | exact hA0 | exact Below.refl _ _ | refine balloc2 ?_ | refine Below.drew ?_)) _ (own_nil2 _ _)).mono ?_; clear H1; rintro e w11 ⟨b1, d1, rfl, ho1, hB1⟩; have hA11 := bstep (a := w) (by repeat (first | exact hA0 | exact Below.refl _ _ | refine balloc2 ?_ | refine Below.drew ?_)) hB1; have hD11 := bstep (a := w0) (by repeat (first | exact Below.refl _ _ | exact Below.refl _ _ | refine balloc2 ?_ | refine Below.drew ?_)) hB1; have hY1 := fun p v h => cell_later hB1 (p := p) (v := v) h; obtain ⟨x0, x1, x2, x3, x4, x5, x6, x7, x8, x9, x10, x11⟩ := (l0.all hD11).twelve)
      | (go_at_call 78; refine (unhide H2 _ (by repeat (first | exact hA11 | exact Below.refl _ _ | refine balloc2 ?_ | refine Below.drew ?_)) _ (ho1.keep (by repeat (first | exact Below.refl _ _ | exact Below.refl _ _ | refine balloc2 ?_ | refine Below.drew ?_)))).mono ?_; clear H2; rintro e w12 ⟨b2, d2, rfl, ho2, hB2⟩; have hA12 := bstep (a := w) (by repeat (first | exact hA11 | exact Below.refl _ _ | refine balloc2 ?_ | refine Below.drew ?_)) hB2; have hD12 := bstep (a := w0) (by repeat (first | exact hD11 | exact Below.refl _ _ | refine balloc2 ?_ | refine Below.drew ?_)) hB2; have hY2 := fun p v h => cell_later hB2 (p := p) (v := v) h; obtain ⟨x0, x1, x2, x3, x4, x5, x6, x7, x8, x9, x10, x11⟩ := (l0.all hD12).twelve))
  all_goals
    have l12 := l0.all hD12
    clear x0 x1 x2 x3 x4 x5 x6 x7 x8 x9 x10 x11 hY1 hB1 hD11 hY2 hB2 hD12 ho1 hA11
    obtain ⟨x0, x1, x2, x3, x4, x5, x6, x7, x8, x9, x10, x11⟩ := l12.twelve
    go_wp2_with fail
    clear x0 x1 x2 x3 x4 x5 x6 x7 x8 x9 x10 x11
    obtain ⟨x0, x1, x2, x3, x4, x5, x6, x7, x8, x9, x10, x11⟩ := l12.twelve
    go_region_held3 (fun w' => w'.cell? ⟨w.heap.size, 3, none⟩ = some (.int .i64 o.nodeN) ∧ w'.cell? ⟨w.heap.size, 4, none⟩ = some (.int .i64 o.nodeR) ∧ w'.cell? ⟨w.heap.size, 10, none⟩ = some (.slice a3 o.text.length c3))
      (first | exact ⟨by assumption, by assumption, by assumption⟩ | go_keep)
      (first
        | (go_at_call 78; refine (unhide H3 _ (by repeat (first | exact hA12 | exact Below.refl _ _ | refine balloc2 ?_ | refine Below.drew ?_)) _ (ho2.keep (by repeat (first | exact Below.refl _ _ | exact Below.refl _ _ | refine balloc2 ?_ | refine Below.drew ?_)))).mono ?_; clear H3; rintro e w13 ⟨b3, d3, rfl, ho3, hB3⟩; have hA13 := bstep (a := w) (by repeat (first | exact hA12 | exact Below.refl _ _ | refine balloc2 ?_ | refine Below.drew ?_)) hB3; have hD13 := bstep (a := w12) (by repeat (first | exact Below.refl _ _ | exact Below.refl _ _ | refine balloc2 ?_ | refine Below.drew ?_)) hB3; have hY3 := fun p v h => cell_later hB3 (p := p) (v := v) h; obtain ⟨x0, x1, x2, x3, x4, x5, x6, x7, x8, x9, x10, x11⟩ := (l12.all hD13).twelve)
        | (go_at_call 81; refine (unhide H4 _ (by repeat (first | exact hA13 | exact Below.refl _ _ | refine balloc2 ?_ | refine Below.drew ?_)) _ (ho3.keep (by repeat (first | exact Below.refl _ _ | exact Below.refl _ _ | refine balloc2 ?_ | refine Below.drew ?_)))).mono ?_; clear H4; rintro e w14 ⟨b4, d4, rfl, ho4, hB4⟩; have hA14 := bstep (a := w) (by repeat (first | exact hA13 | exact Below.refl _ _ | refine balloc2 ?_ | refine Below.drew ?_)) hB4; have hD14 := bstep (a := w12) (by repeat (first | exact hD13 | exact Below.refl _ _ | refine balloc2 ?_ | refine Below.drew ?_)) hB4; have hY4 := fun p v h => cell_later hB4 (p := p) (v := v) h; obtain ⟨x0, x1, x2, x3, x4, x5, x6, x7, x8, x9, x10, x11⟩ := (l12.all hD14).twelve))
    all_goals
      have l14 := l12.all hD14
      clear x0 x1 x2 x3 x4 x5 x6 x7 x8 x9 x10 x11 hY3 hB3 hD13 hY4 hB4 hD14 ho3 hA13
      obtain ⟨x0, x1, x2, x3, x4, x5, x6, x7, x8, x9, x10, x11⟩ := l14.twelve
      go_wp2_with fail
      clear x0 x1 x2 x3 x4 x5 x6 x7 x8 x9 x10 x11
      go_ret
      exact ⟨b4, d4, rfl, ho4, hA14⟩

set_option maxHeartbeats 12800000 in
theorem bytesS_g (w : World) (o : OpV) (a1 a2 a3 : Option Addr) (c1 c2 c3 : Nat) (hk : Ints w (.slice a1 o.key.length c1) o.key) (hn : Byt w (.slice a2 o.name.length c2) o.name) (ht : Byt w (.slice a3 o.text.length c3) o.text) (hs : o.key.length ≤ 2097152) (k0 : o.kind ≠ 0) (k1 : o.kind ≠ 1) (k2 : o.kind ≠ 2) (hg : o.gone = true) :
    Calls Try.prog 48 #[opVal o (.slice a1 o.key.length c1) (.slice a2 o.name.length c2) (.slice a3 o.text.length c3)] w fun e w' => ∃ a c, e = .returned (.slice a (opBytes o).length c) ∧ Own w' w.heap.size (.slice a (opBytes o).length c) (opBytes o) ∧ Below w.heap.size w w' := by
  have HK := hide hk
  have HM := hide hn
  have HX := hide ht
  clear hk hn ht
  have Ln : ([] : List Int).length = 0 := rfl
  obtain ⟨r1, e1⟩ : ∃ r, r = putAll ([] : List Int) o.kind := ⟨_, rfl⟩
  have L1 := putAll_len ([] : List Int) o.kind
  have H1 := hide (fun (W : World) (hW : Below w.heap.size w W) (v : Value) (h : Own W w.heap.size v ([] : List Int)) => rw_base (putS_own W v ([] : List Int) o.kind h.byt (by omega)) hW.size)
  rw [← e1] at L1 H1
  obtain ⟨r2, e2⟩ : ∃ r, r = putId r1 o.atN o.atR := ⟨_, rfl⟩
  have L2 := putId_len r1 o.atN o.atR
  have H2 := hide (fun (W : World) (hW : Below w.heap.size w W) (v : Value) (h : Own W w.heap.size v r1) => rw_base (putIdS_any W v r1 o.atN o.atR h.byt (by omega)) hW.size)
  rw [← e2] at L2 H2
  obtain ⟨r3, e3⟩ : ∃ r, r = putId r2 o.nodeN o.nodeR := ⟨_, rfl⟩
  have L3 := putId_len r2 o.nodeN o.nodeR
  have H3 := hide (fun (W : World) (hW : Below w.heap.size w W) (v : Value) (h : Own W w.heap.size v r2) => rw_base (putIdS_any W v r2 o.nodeN o.nodeR h.byt (by omega)) hW.size)
  rw [← e3] at L3 H3
  obtain ⟨r4, e4⟩ : ∃ r, r = putT r3 o.name := ⟨_, rfl⟩
  have L4 := putT_len r3 o.name
  have H4 := hide (fun (W : World) (hW : Below w.heap.size w W) (v : Value) (h : Own W w.heap.size v r3) => rw_base (putTS_own2 W v _ r3 o.name h.byt ((unhide HM).keep hW) (by omega)) hW.size)
  rw [← e4] at L4 H4
  obtain ⟨r5, e5⟩ : ∃ r, r = putAll r4 1 := ⟨_, rfl⟩
  have L5 := putAll_len r4 1
  have H5 := hide (fun (W : World) (hW : Below w.heap.size w W) (v : Value) (h : Own W w.heap.size v r4) => rw_base (putS_own W v r4 1 h.byt (by omega)) hW.size)
  rw [← e5] at L5 H5
  have HE := hide (show opBytes o = r5 by unfold opBytes opHd; rw [if_neg k0, if_neg k1, if_neg k2, if_pos hg]; rw [e5, e4, e3, e2, e1])
  clear e5 L5 e4 L4 e3 L3 e2 L2 e1 L1
  have hA0 : Below w.heap.size w (w.alloc (.cells #[.int .i64 o.kind, .int .i64 o.atN, .int .i64 o.atR, .int .i64 o.nodeN, .int .i64 o.nodeR, .int .i64 o.parN, .int .i64 o.parR, .slice a1 o.key.length c1, .int .i64 o.elem, .slice a2 o.name.length c2, .slice a3 o.text.length c3, .bool o.gone] 27)) := (Below.refl w.heap.size w).alloc (Nat.le_refl _) _
  have l0 := Loc.made w #[.int .i64 o.kind, .int .i64 o.atN, .int .i64 o.atR, .int .i64 o.nodeN, .int .i64 o.nodeR, .int .i64 o.parN, .int .i64 o.parR, .slice a1 o.key.length c1, .int .i64 o.elem, .slice a2 o.name.length c2, .slice a3 o.text.length c3, .bool o.gone] 27
  rw [unhide HE]
  clear HE
  unfold opVal
  have q0 : (o.kind == 0) = false := by simpa using k0
  have q1 : (o.kind == 1) = false := by simpa using k1
  have q2 : (o.kind == 2) = false := by simpa using k2
  clear k0 k1 k2
  have HG := hide hg
  clear hg
  go_enter Try.func48, Try.ntmps48
  go_wp2_with fail
  generalize (w.alloc (.cells #[.int .i64 o.kind, .int .i64 o.atN, .int .i64 o.atR, .int .i64 o.nodeN, .int .i64 o.nodeR, .int .i64 o.parN, .int .i64 o.parR, .slice a1 o.key.length c1, .int .i64 o.elem, .slice a2 o.name.length c2, .slice a3 o.text.length c3, .bool o.gone] 27)) = w0 at *
  obtain ⟨x0, x1, x2, x3, x4, x5, x6, x7, x8, x9, x10, x11⟩ := l0.twelve
  go_region_held3 (fun w' => w'.cell? ⟨w.heap.size, 0, none⟩ = some (.int .i64 o.kind) ∧ w'.cell? ⟨w.heap.size, 1, none⟩ = some (.int .i64 o.atN) ∧ w'.cell? ⟨w.heap.size, 2, none⟩ = some (.int .i64 o.atR))
    (first | exact ⟨by assumption, by assumption, by assumption⟩ | go_keep)
    (first
      | (go_at_call 79; refine (unhide H1 _ (by repeat (first | exact hA0 | exact Below.refl _ _ | refine balloc2 ?_ | refine Below.drew ?_)) _ (own_nil2 _ _)).mono ?_; clear H1; rintro e w11 ⟨b1, d1, rfl, ho1, hB1⟩; have hA11 := bstep (a := w) (by repeat (first | exact hA0 | exact Below.refl _ _ | refine balloc2 ?_ | refine Below.drew ?_)) hB1; have hD11 := bstep (a := w0) (by repeat (first | exact Below.refl _ _ | exact Below.refl _ _ | refine balloc2 ?_ | refine Below.drew ?_)) hB1; have hY1 := fun p v h => cell_later hB1 (p := p) (v := v) h; obtain ⟨x0, x1, x2, x3, x4, x5, x6, x7, x8, x9, x10, x11⟩ := (l0.all hD11).twelve)
      | (go_at_call 78; refine (unhide H2 _ (by repeat (first | exact hA11 | exact Below.refl _ _ | refine balloc2 ?_ | refine Below.drew ?_)) _ (ho1.keep (by repeat (first | exact Below.refl _ _ | exact Below.refl _ _ | refine balloc2 ?_ | refine Below.drew ?_)))).mono ?_; clear H2; rintro e w12 ⟨b2, d2, rfl, ho2, hB2⟩; have hA12 := bstep (a := w) (by repeat (first | exact hA11 | exact Below.refl _ _ | refine balloc2 ?_ | refine Below.drew ?_)) hB2; have hD12 := bstep (a := w0) (by repeat (first | exact hD11 | exact Below.refl _ _ | refine balloc2 ?_ | refine Below.drew ?_)) hB2; have hY2 := fun p v h => cell_later hB2 (p := p) (v := v) h; obtain ⟨x0, x1, x2, x3, x4, x5, x6, x7, x8, x9, x10, x11⟩ := (l0.all hD12).twelve))
  all_goals
    have l12 := l0.all hD12
    clear x0 x1 x2 x3 x4 x5 x6 x7 x8 x9 x10 x11 hY1 hB1 hD11 hY2 hB2 hD12 ho1 hA11
    obtain ⟨x0, x1, x2, x3, x4, x5, x6, x7, x8, x9, x10, x11⟩ := l12.twelve
    go_wp2_with fail
    clear x0 x1 x2 x3 x4 x5 x6 x7 x8 x9 x10 x11
    obtain ⟨x0, x1, x2, x3, x4, x5, x6, x7, x8, x9, x10, x11⟩ := l12.twelve
    go_region_held3 (fun w' => w'.cell? ⟨w.heap.size, 3, none⟩ = some (.int .i64 o.nodeN) ∧ w'.cell? ⟨w.heap.size, 4, none⟩ = some (.int .i64 o.nodeR) ∧ w'.cell? ⟨w.heap.size, 9, none⟩ = some (.slice a2 o.name.length c2))
      (first | exact ⟨by assumption, by assumption, by assumption⟩ | go_keep)
      (first
        | (go_at_call 78; refine (unhide H3 _ (by repeat (first | exact hA12 | exact Below.refl _ _ | refine balloc2 ?_ | refine Below.drew ?_)) _ (ho2.keep (by repeat (first | exact Below.refl _ _ | exact Below.refl _ _ | refine balloc2 ?_ | refine Below.drew ?_)))).mono ?_; clear H3; rintro e w13 ⟨b3, d3, rfl, ho3, hB3⟩; have hA13 := bstep (a := w) (by repeat (first | exact hA12 | exact Below.refl _ _ | refine balloc2 ?_ | refine Below.drew ?_)) hB3; have hD13 := bstep (a := w12) (by repeat (first | exact Below.refl _ _ | exact Below.refl _ _ | refine balloc2 ?_ | refine Below.drew ?_)) hB3; have hY3 := fun p v h => cell_later hB3 (p := p) (v := v) h; obtain ⟨x0, x1, x2, x3, x4, x5, x6, x7, x8, x9, x10, x11⟩ := (l12.all hD13).twelve)
        | (go_at_call 81; refine (unhide H4 _ (by repeat (first | exact hA13 | exact Below.refl _ _ | refine balloc2 ?_ | refine Below.drew ?_)) _ (ho3.keep (by repeat (first | exact Below.refl _ _ | exact Below.refl _ _ | refine balloc2 ?_ | refine Below.drew ?_)))).mono ?_; clear H4; rintro e w14 ⟨b4, d4, rfl, ho4, hB4⟩; have hA14 := bstep (a := w) (by repeat (first | exact hA13 | exact Below.refl _ _ | refine balloc2 ?_ | refine Below.drew ?_)) hB4; have hD14 := bstep (a := w12) (by repeat (first | exact hD13 | exact Below.refl _ _ | refine balloc2 ?_ | refine Below.drew ?_)) hB4; have hY4 := fun p v h => cell_later hB4 (p := p) (v := v) h; obtain ⟨x0, x1, x2, x3, x4, x5, x6, x7, x8, x9, x10, x11⟩ := (l12.all hD14).twelve))
    all_goals
      have l14 := l12.all hD14
      clear x0 x1 x2 x3 x4 x5 x6 x7 x8 x9 x10 x11 hY3 hB3 hD13 hY4 hB4 hD14 ho3 hA13
      obtain ⟨x0, x1, x2, x3, x4, x5, x6, x7, x8, x9, x10, x11⟩ := l14.twelve
      rw [unhide HG] at x11
      go_wp2_with fail
      clear x0 x1 x2 x3 x4 x5 x6 x7 x8 x9
      clear x10 x11
      refine (unhide H5 _ hA14 _ ho4).mono ?_
      rintro e w15 ⟨b5, d5, rfl, ho5, hB5⟩
      have hA15 := bstep hA14 hB5
      go_wp2_with fail
      go_ret
      exact ⟨b5, d5, rfl, ho5, hA15⟩

set_option maxHeartbeats 12800000 in
theorem bytesS_n (w : World) (o : OpV) (a1 a2 a3 : Option Addr) (c1 c2 c3 : Nat) (hk : Ints w (.slice a1 o.key.length c1) o.key) (hn : Byt w (.slice a2 o.name.length c2) o.name) (ht : Byt w (.slice a3 o.text.length c3) o.text) (hs : o.key.length ≤ 2097152) (k0 : o.kind ≠ 0) (k1 : o.kind ≠ 1) (k2 : o.kind ≠ 2) (hg : o.gone = false) :
    Calls Try.prog 48 #[opVal o (.slice a1 o.key.length c1) (.slice a2 o.name.length c2) (.slice a3 o.text.length c3)] w fun e w' => ∃ a c, e = .returned (.slice a (opBytes o).length c) ∧ Own w' w.heap.size (.slice a (opBytes o).length c) (opBytes o) ∧ Below w.heap.size w w' := by
  have HK := hide hk
  have HM := hide hn
  have HX := hide ht
  clear hk hn ht
  have Ln : ([] : List Int).length = 0 := rfl
  obtain ⟨r1, e1⟩ : ∃ r, r = putAll ([] : List Int) o.kind := ⟨_, rfl⟩
  have L1 := putAll_len ([] : List Int) o.kind
  have H1 := hide (fun (W : World) (hW : Below w.heap.size w W) (v : Value) (h : Own W w.heap.size v ([] : List Int)) => rw_base (putS_own W v ([] : List Int) o.kind h.byt (by omega)) hW.size)
  rw [← e1] at L1 H1
  obtain ⟨r2, e2⟩ : ∃ r, r = putId r1 o.atN o.atR := ⟨_, rfl⟩
  have L2 := putId_len r1 o.atN o.atR
  have H2 := hide (fun (W : World) (hW : Below w.heap.size w W) (v : Value) (h : Own W w.heap.size v r1) => rw_base (putIdS_any W v r1 o.atN o.atR h.byt (by omega)) hW.size)
  rw [← e2] at L2 H2
  obtain ⟨r3, e3⟩ : ∃ r, r = putId r2 o.nodeN o.nodeR := ⟨_, rfl⟩
  have L3 := putId_len r2 o.nodeN o.nodeR
  have H3 := hide (fun (W : World) (hW : Below w.heap.size w W) (v : Value) (h : Own W w.heap.size v r2) => rw_base (putIdS_any W v r2 o.nodeN o.nodeR h.byt (by omega)) hW.size)
  rw [← e3] at L3 H3
  obtain ⟨r4, e4⟩ : ∃ r, r = putT r3 o.name := ⟨_, rfl⟩
  have L4 := putT_len r3 o.name
  have H4 := hide (fun (W : World) (hW : Below w.heap.size w W) (v : Value) (h : Own W w.heap.size v r3) => rw_base (putTS_own2 W v _ r3 o.name h.byt ((unhide HM).keep hW) (by omega)) hW.size)
  rw [← e4] at L4 H4
  obtain ⟨r5, e5⟩ : ∃ r, r = putAll r4 0 := ⟨_, rfl⟩
  have L5 := putAll_len r4 0
  have H5 := hide (fun (W : World) (hW : Below w.heap.size w W) (v : Value) (h : Own W w.heap.size v r4) => rw_base (putS_own W v r4 0 h.byt (by omega)) hW.size)
  rw [← e5] at L5 H5
  obtain ⟨r6, e6⟩ : ∃ r, r = putT r5 o.text := ⟨_, rfl⟩
  have L6 := putT_len r5 o.text
  have H6 := hide (fun (W : World) (hW : Below w.heap.size w W) (v : Value) (h : Own W w.heap.size v r5) => rw_base (putTS_own2 W v _ r5 o.text h.byt ((unhide HX).keep hW) (by omega)) hW.size)
  rw [← e6] at L6 H6
  have HE := hide (show opBytes o = r6 by unfold opBytes opHd; rw [if_neg k0, if_neg k1, if_neg k2, if_neg (by rw [hg]; decide)]; rw [e6, e5, e4, e3, e2, e1])
  clear e6 L6 e5 L5 e4 L4 e3 L3 e2 L2 e1 L1
  have hA0 : Below w.heap.size w (w.alloc (.cells #[.int .i64 o.kind, .int .i64 o.atN, .int .i64 o.atR, .int .i64 o.nodeN, .int .i64 o.nodeR, .int .i64 o.parN, .int .i64 o.parR, .slice a1 o.key.length c1, .int .i64 o.elem, .slice a2 o.name.length c2, .slice a3 o.text.length c3, .bool o.gone] 27)) := (Below.refl w.heap.size w).alloc (Nat.le_refl _) _
  have l0 := Loc.made w #[.int .i64 o.kind, .int .i64 o.atN, .int .i64 o.atR, .int .i64 o.nodeN, .int .i64 o.nodeR, .int .i64 o.parN, .int .i64 o.parR, .slice a1 o.key.length c1, .int .i64 o.elem, .slice a2 o.name.length c2, .slice a3 o.text.length c3, .bool o.gone] 27
  rw [unhide HE]
  clear HE
  unfold opVal
  have q0 : (o.kind == 0) = false := by simpa using k0
  have q1 : (o.kind == 1) = false := by simpa using k1
  have q2 : (o.kind == 2) = false := by simpa using k2
  clear k0 k1 k2
  have HG := hide hg
  clear hg
  go_enter Try.func48, Try.ntmps48
  go_wp2_with fail
  generalize (w.alloc (.cells #[.int .i64 o.kind, .int .i64 o.atN, .int .i64 o.atR, .int .i64 o.nodeN, .int .i64 o.nodeR, .int .i64 o.parN, .int .i64 o.parR, .slice a1 o.key.length c1, .int .i64 o.elem, .slice a2 o.name.length c2, .slice a3 o.text.length c3, .bool o.gone] 27)) = w0 at *
  obtain ⟨x0, x1, x2, x3, x4, x5, x6, x7, x8, x9, x10, x11⟩ := l0.twelve
  go_region_held3 (fun w' => w'.cell? ⟨w.heap.size, 0, none⟩ = some (.int .i64 o.kind) ∧ w'.cell? ⟨w.heap.size, 1, none⟩ = some (.int .i64 o.atN) ∧ w'.cell? ⟨w.heap.size, 2, none⟩ = some (.int .i64 o.atR))
    (first | exact ⟨by assumption, by assumption, by assumption⟩ | go_keep)
    (first
      | (go_at_call 79; refine (unhide H1 _ (by repeat (first | exact hA0 | exact Below.refl _ _ | refine balloc2 ?_ | refine Below.drew ?_)) _ (own_nil2 _ _)).mono ?_; clear H1; rintro e w11 ⟨b1, d1, rfl, ho1, hB1⟩; have hA11 := bstep (a := w) (by repeat (first | exact hA0 | exact Below.refl _ _ | refine balloc2 ?_ | refine Below.drew ?_)) hB1; have hD11 := bstep (a := w0) (by repeat (first | exact Below.refl _ _ | exact Below.refl _ _ | refine balloc2 ?_ | refine Below.drew ?_)) hB1; have hY1 := fun p v h => cell_later hB1 (p := p) (v := v) h; obtain ⟨x0, x1, x2, x3, x4, x5, x6, x7, x8, x9, x10, x11⟩ := (l0.all hD11).twelve)
      | (go_at_call 78; refine (unhide H2 _ (by repeat (first | exact hA11 | exact Below.refl _ _ | refine balloc2 ?_ | refine Below.drew ?_)) _ (ho1.keep (by repeat (first | exact Below.refl _ _ | exact Below.refl _ _ | refine balloc2 ?_ | refine Below.drew ?_)))).mono ?_; clear H2; rintro e w12 ⟨b2, d2, rfl, ho2, hB2⟩; have hA12 := bstep (a := w) (by repeat (first | exact hA11 | exact Below.refl _ _ | refine balloc2 ?_ | refine Below.drew ?_)) hB2; have hD12 := bstep (a := w0) (by repeat (first | exact hD11 | exact Below.refl _ _ | refine balloc2 ?_ | refine Below.drew ?_)) hB2; have hY2 := fun p v h => cell_later hB2 (p := p) (v := v) h; obtain ⟨x0, x1, x2, x3, x4, x5, x6, x7, x8, x9, x10, x11⟩ := (l0.all hD12).twelve))
  all_goals
    have l12 := l0.all hD12
    clear x0 x1 x2 x3 x4 x5 x6 x7 x8 x9 x10 x11 hY1 hB1 hD11 hY2 hB2 hD12 ho1 hA11
    obtain ⟨x0, x1, x2, x3, x4, x5, x6, x7, x8, x9, x10, x11⟩ := l12.twelve
    go_wp2_with fail
    clear x0 x1 x2 x3 x4 x5 x6 x7 x8 x9 x10 x11
    obtain ⟨x0, x1, x2, x3, x4, x5, x6, x7, x8, x9, x10, x11⟩ := l12.twelve
    go_region_held3 (fun w' => w'.cell? ⟨w.heap.size, 3, none⟩ = some (.int .i64 o.nodeN) ∧ w'.cell? ⟨w.heap.size, 4, none⟩ = some (.int .i64 o.nodeR) ∧ w'.cell? ⟨w.heap.size, 9, none⟩ = some (.slice a2 o.name.length c2))
      (first | exact ⟨by assumption, by assumption, by assumption⟩ | go_keep)
      (first
        | (go_at_call 78; refine (unhide H3 _ (by repeat (first | exact hA12 | exact Below.refl _ _ | refine balloc2 ?_ | refine Below.drew ?_)) _ (ho2.keep (by repeat (first | exact Below.refl _ _ | exact Below.refl _ _ | refine balloc2 ?_ | refine Below.drew ?_)))).mono ?_; clear H3; rintro e w13 ⟨b3, d3, rfl, ho3, hB3⟩; have hA13 := bstep (a := w) (by repeat (first | exact hA12 | exact Below.refl _ _ | refine balloc2 ?_ | refine Below.drew ?_)) hB3; have hD13 := bstep (a := w12) (by repeat (first | exact Below.refl _ _ | exact Below.refl _ _ | refine balloc2 ?_ | refine Below.drew ?_)) hB3; have hY3 := fun p v h => cell_later hB3 (p := p) (v := v) h; obtain ⟨x0, x1, x2, x3, x4, x5, x6, x7, x8, x9, x10, x11⟩ := (l12.all hD13).twelve)
        | (go_at_call 81; refine (unhide H4 _ (by repeat (first | exact hA13 | exact Below.refl _ _ | refine balloc2 ?_ | refine Below.drew ?_)) _ (ho3.keep (by repeat (first | exact Below.refl _ _ | exact Below.refl _ _ | refine balloc2 ?_ | refine Below.drew ?_)))).mono ?_; clear H4; rintro e w14 ⟨b4, d4, rfl, ho4, hB4⟩; have hA14 := bstep (a := w) (by repeat (first | exact hA13 | exact Below.refl _ _ | refine balloc2 ?_ | refine Below.drew ?_)) hB4; have hD14 := bstep (a := w12) (by repeat (first | exact hD13 | exact Below.refl _ _ | refine balloc2 ?_ | refine Below.drew ?_)) hB4; have hY4 := fun p v h => cell_later hB4 (p := p) (v := v) h; obtain ⟨x0, x1, x2, x3, x4, x5, x6, x7, x8, x9, x10, x11⟩ := (l12.all hD14).twelve))
    all_goals
      have l14 := l12.all hD14
      clear x0 x1 x2 x3 x4 x5 x6 x7 x8 x9 x10 x11 hY3 hB3 hD13 hY4 hB4 hD14 ho3 hA13
      obtain ⟨x0, x1, x2, x3, x4, x5, x6, x7, x8, x9, x10, x11⟩ := l14.twelve
      rw [unhide HG] at x11
      go_wp2_with fail
      clear x0 x1 x2 x3 x4 x5 x6 x7 x8 x9
      go_region_held3 (fun w' => w'.cell? ⟨w.heap.size, 10, none⟩ = some (.slice a3 o.text.length c3))
        (first | assumption | go_keep)
        (first
          | (go_at_call 79; refine (unhide H5 _ (by repeat (first | exact hA14 | exact Below.refl _ _ | refine balloc2 ?_ | refine Below.drew ?_)) _ (ho4.keep (by repeat (first | exact Below.refl _ _ | exact Below.refl _ _ | refine balloc2 ?_ | refine Below.drew ?_)))).mono ?_; clear H5; rintro e w15 ⟨b5, d5, rfl, ho5, hB5⟩; have hA15 := bstep (a := w) (by repeat (first | exact hA14 | exact Below.refl _ _ | refine balloc2 ?_ | refine Below.drew ?_)) hB5; have hD15 := bstep (a := w14) (by repeat (first | exact Below.refl _ _ | exact Below.refl _ _ | refine balloc2 ?_ | refine Below.drew ?_)) hB5; have x10 := (l14.all hD15).twelve.2.2.2.2.2.2.2.2.2.2.1)
          | (go_at_call 81; refine (unhide H6 _ hA15 _ ho5).mono ?_; clear H6; rintro e w16 ⟨b6, d6, rfl, ho6, hB6⟩; have hA16 := bstep (a := w) hA15 hB6; have hD16 := bstep (a := w14) hD15 hB6; have x10 := (l14.all hD16).twelve.2.2.2.2.2.2.2.2.2.2.1))
      all_goals
        go_wp2_with fail
        go_ret
        exact ⟨b6, d6, rfl, ho6, hA16⟩

/-- spec.l4bytes, whatever it is asked. -/
theorem bytesS_any (w : World) (v : Value) (o : OpV) (h : RdOp w v o) (hs : o.key.length ≤ 2097152) :
    Calls Try.prog 48 #[v] w fun e w' => ∃ a c, e = .returned (.slice a (opBytes o).length c) ∧ Own w' w.heap.size (.slice a (opBytes o).length c) (opBytes o) ∧ Below w.heap.size w w' := by
  obtain ⟨k, n, t, rfl, hk, hn, ht⟩ := h
  obtain ⟨a1, c1, rfl, _, _⟩ := hk.shape
  obtain ⟨a2, c2, rfl, _, _⟩ := hn.shape
  obtain ⟨a3, c3, rfl, _, _⟩ := ht.shape
  by_cases k0 : o.kind = 0
  · exact bytesS_0 w o a1 a2 a3 c1 c2 c3 hk hn ht hs k0
  by_cases k1 : o.kind = 1
  · exact bytesS_1 w o a1 a2 a3 c1 c2 c3 hk hn ht hs k1
  by_cases k2 : o.kind = 2
  · exact bytesS_2 w o a1 a2 a3 c1 c2 c3 hk hn ht hs k2
  rcases Bool.eq_false_or_eq_true o.gone with hg | hg
  · exact bytesS_g w o a1 a2 a3 c1 c2 c3 hk hn ht hs k0 k1 k2 hg
  · exact bytesS_n w o a1 a2 a3 c1 c2 c3 hk hn ht hs k0 k1 k2 hg
end Go.Proofs.Ytcabolcfoijglaa
