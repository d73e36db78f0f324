/- Own texts joined: CopyL, StepC, CopyN, AppAt. -/
import Derived.Test.YtfhekoipnlmhoaaJa
import Derived.Test.YtfhekoipnlmhoaaJb
import Derived.Test.YtfhekoipnlmhoaaJc
import Derived.Test.YtfhekoipnlmhoaaJd
import Derived.Deep.RegionLaw
import Derived.Shelf.Abstract
import Derived.Maps.AppendAt
import Derived.Laws.AppendOwnNone

/- impl.copyLone: a node without its kids, in memory of its own. -/
namespace Go.Proofs.Ytfhekoipnlmhoaa
open Go.RowKit
set_option linter.unusedVariables false
set_option maxRecDepth 100000

def Cl1 (w1 : World) (bn pr : Nat) (T0 nmv txv atv : Value) (kd : Int) (ln lt : List Int) (la : List (List Int × List Int)) (L : Array Bool) (a : Act) (w : World) : Prop :=
  ∃ b0 b1 b2 b3 b4 b5 b6 b7 b8 b9 b10 b11 b12 x3 x4 x5 x6 x7 x8 x9 x10 x11 x12 x13 x14, L = #[b0, b1, b2, b3, b4, b5, b6, b7, b8, b9, b10, b11, b12] ∧ a = { tmps := #[T0, .pointer (some ⟨bn, 0, none⟩), .pointer (some ⟨pr, 0, none⟩), x3, x4, x5, x6, x7, x8, x9, x10, x11, x12, x13, x14], defers := [] } ∧ Frm w1 w [pr] ∧ Loc w pr (if b12 = true then #[.int .i64 kd, x7, x10, x13, .slice none 0 0] else #[.int .i64 0, .slice none 0 0, .slice none 0 0, .slice none 0 0, .slice none 0 0]) 31 ∧ (b0 = true → x3 = .pointer (some ⟨bn, 0, none⟩)) ∧ (b1 = true → x4 = .int .i64 kd) ∧ (b2 = true → x5 = .pointer (some ⟨bn, 1, none⟩)) ∧ (b3 = true → x6 = nmv) ∧ (b4 = true → Own w w1.heap.size x7 ln) ∧ (b5 = true → x8 = .pointer (some ⟨bn, 2, none⟩)) ∧ (b6 = true → x9 = txv) ∧ (b7 = true → b4 = true ∧ Own w w1.heap.size x10 lt ∧ ∀ q ∈ FB x10, q ∉ FB x7) ∧ (b8 = true → x11 = .pointer (some ⟨bn, 3, none⟩)) ∧ (b9 = true → x12 = atv) ∧ (b10 = true → b7 = true ∧ ∃ Fa, OwAttrs w x13 la Fa ∧ Fa.Nodup ∧ Rng Fa w1.heap.size w.heap.size ∧ ∀ q ∈ Fa, q ∉ FB x7 ∧ q ∉ FB x10) ∧ (b11 = true → b10 = true ∧ x14 = .agg #[.int .i64 kd, x7, x10, x13, .slice none 0 0]) ∧ (b12 = true → b11 = true)
theorem Cl1_cases {i : Nat} (h : i < 13) : i = 0 ∨ i = 1 ∨ i = 2 ∨ i = 3 ∨ i = 4 ∨ i = 5 ∨ i = 6 ∨ i = 7 ∨ i = 8 ∨ i = 9 ∨ i = 10 ∨ i = 11 ∨ i = 12 := by omega

set_option maxHeartbeats 6400000 in
theorem copyLone_any (n : Nat) (w0 : World) (a b c d e : Value) (t : Tr (n + 1)) (hrd : RdNode (n + 1) w0 [a, b, c, d, e] t) (hsz : szT (n + 1) t ≤ 2097152) :
    Calls Try.prog 41 #[.agg #[a, b, c, d, e]] w0 fun e w' => ∃ p2 k2 p3 k3 p4 k4, e = .returned (.agg #[.int .i64 t.kind, .slice p2 t.name.length k2, .slice p3 t.text.length k3, .slice p4 t.attrs.length k4, .slice none 0 0]) ∧
      ∃ Fa, Own w' 0 (.slice p2 t.name.length k2) t.name ∧ Own w' 0 (.slice p3 t.text.length k3) t.text ∧ OwAttrs w' (.slice p4 t.attrs.length k4) t.attrs Fa ∧ (FB (.slice p2 t.name.length k2) ++ FB (.slice p3 t.text.length k3) ++ Fa).Nodup ∧ Rng (FB (.slice p2 t.name.length k2) ++ FB (.slice p3 t.text.length k3) ++ Fa) (w0.heap.size + 2) w'.heap.size ∧ Below w0.heap.size w0 w' := by
  have hszT : szT (n + 1) t = t.name.length + t.text.length + szA t.attrs + (t.kids.length + (t.kids.map (szT n)).sum) := rfl
  obtain ⟨_, _, _, _, e0, k1, k2, hb, hc, hd, he⟩ := hrd
  simp only [List.cons.injEq, and_true] at e0
  obtain ⟨rfl, rfl, rfl, rfl, rfl⟩ := e0
  obtain ⟨ab, cb, rfl, _, _⟩ := hb.shape
  obtain ⟨ac, cc, rfl, _, _⟩ := hc.shape
  obtain ⟨ad, cd, rfl, _, _⟩ := Elems.shape hd
  obtain ⟨ae, ce, rfl, _, _⟩ := Elems.shape he
  obtain ⟨l0, l1, hB1⟩ := two w0 #[.int .i64 t.kind, .slice ab t.name.length cb, .slice ac t.text.length cc, .slice ad t.attrs.length cd, .slice ae t.kids.length ce] #[.int .i64 0, .slice none 0 0, .slice none 0 0, .slice none 0 0, .slice none 0 0] 31 31
  have hal : t.attrs.length ≤ 4194304 := by unfold szA at hszT; omega
  have hnl : t.name.length ≤ 4194304 := by omega
  have htl : t.text.length ≤ 4194304 := by omega
  have hax : ∀ x ∈ t.attrs, x.1.length ≤ 4194304 ∧ x.2.length ≤ 4194304 := fun x hx => by have := attr_le hx; omega
  clear hszT
  go_enter Try.func41, Try.ntmps41
  go_wp2_with fail
  generalize hW1 : (w0.alloc (.cells #[.int .i64 t.kind, .slice ab t.name.length cb, .slice ac t.text.length cc, .slice ad t.attrs.length cd, .slice ae t.kids.length ce] 31)).alloc (.cells #[.int .i64 0, .slice none 0 0, .slice none 0 0, .slice none 0 0, .slice none 0 0] 31) = w1 at *
  have hs1 : w0.heap.size + 2 ≤ w1.heap.size := by rw [← hW1]; simp
  clear hW1
  have HAX := hide hax
  clear hax
  have hbp : w0.heap.size ∉ [w0.heap.size + 1] := by simp
  have hBw : ∀ {w : World}, Frm w1 w [w0.heap.size + 1] → Below w0.heap.size w0 w := fun f => hB1.trans (f.below hB1.size (fun q hq => by simp at hq; omega))
  refine region_inv (by kernel_rfl) (Cl1 w1 w0.heap.size (w0.heap.size + 1) (.agg #[.int .i64 t.kind, .slice ab t.name.length cb, .slice ac t.text.length cc, .slice ad t.attrs.length cd, .slice ae t.kids.length ce]) (.slice ab t.name.length cb) (.slice ac t.text.length cc) (.slice ad t.attrs.length cd) t.kind t.name t.text t.attrs) ?sz ?h0 ?step ?dn
  case sz =>
      rintro L a w ⟨b0, b1, b2, b3, b4, b5, b6, b7, b8, b9, b10, b11, b12, x3, x4, x5, x6, x7, x8, x9, x10, x11, x12, x13, x14, rfl, _⟩
      rfl
  case h0 =>
      refine ⟨false, false, false, false, false, false, false, false, false, false, false, false, false, undef, undef, undef, undef, undef, undef, undef, undef, undef, undef, undef, undef, rfl, rfl, Frm.ofBelow ((Below.refl _ _).drew) _, l1.all ((Below.refl _ _).drew), ?_⟩
      simp
  case step =>
      intro L a w i o hI hi ho
      obtain ⟨b0, b1, b2, b3, b4, b5, b6, b7, b8, b9, b10, b11, b12, x3, x4, x5, x6, x7, x8, x9, x10, x11, x12, x13, x14, rfl, rfl, h0, h1, f0, f1, f2, f3, f4, f5, f6, f7, f8, f9, f10, f11, f12⟩ := hI
      rcases Cl1_cases (ready_lt hi) with rfl | rfl | rfl | rfl | rfl | rfl | rfl | rfl | rfl | rfl | rfl | rfl | rfl
      · obtain rfl := Option.some.inj ho
        go_simp
        exact ⟨true, b1, b2, b3, b4, b5, b6, b7, b8, b9, b10, b11, b12, _, x4, x5, x6, x7, x8, x9, x10, x11, x12, x13, x14, rfl, rfl, h0, h1, (fun _ => rfl), f1, f2, f3, f4, f5, f6, f7, f8, f9, f10, f11, f12⟩
      · have g0 := ready_pred hi ho 0
        obtain rfl := Option.some.inj ho
        have e0 := f0 (g0 (by kernel_rfl))
        subst e0
        have c0 : w.cell? ⟨w0.heap.size, 0, none⟩ = some (.int .i64 t.kind) := (l0.frm h0 hbp).cell 0
        go_simp
        exact ⟨b0, true, b2, b3, b4, b5, b6, b7, b8, b9, b10, b11, b12, _, _, x5, x6, x7, x8, x9, x10, x11, x12, x13, x14, rfl, rfl, h0, h1, f0, (fun _ => rfl), f2, f3, f4, f5, f6, f7, f8, f9, f10, f11, f12⟩
      · obtain rfl := Option.some.inj ho
        go_simp
        exact ⟨b0, b1, true, b3, b4, b5, b6, b7, b8, b9, b10, b11, b12, x3, x4, _, x6, x7, x8, x9, x10, x11, x12, x13, x14, rfl, rfl, h0, h1, f0, f1, (fun _ => rfl), f3, f4, f5, f6, f7, f8, f9, f10, f11, f12⟩
      · have g2 := ready_pred hi ho 2
        obtain rfl := Option.some.inj ho
        have e2 := f2 (g2 (by kernel_rfl))
        subst e2
        have c0 : w.cell? ⟨w0.heap.size, 1, none⟩ = some (.slice ab t.name.length cb) := (l0.frm h0 hbp).cell 1
        go_simp
        exact ⟨b0, b1, b2, true, b4, b5, b6, b7, b8, b9, b10, b11, b12, x3, x4, _, _, x7, x8, x9, x10, x11, x12, x13, x14, rfl, rfl, h0, h1, f0, f1, f2, (fun _ => rfl), f4, f5, f6, f7, f8, f9, f10, f11, f12⟩
      · have g3 := ready_pred hi ho 3
        obtain rfl := Option.some.inj ho
        have e3 := f3 (g3 (by kernel_rfl))
        subst e3
        have hb4 : b4 = false := by simpa using ready_off rfl hi
        have hb12 : b12 = false := by
          cases b12 with
          | false => rfl
          | true => have := (f7 (f10 (f11 (f12 rfl)).1).1).1; rw [hb4] at this; cases this
        subst hb12
        go_simp
        refine (clone_any w _ t.name (hb.keep (hBw h0)) (by omega)).mono ?_
        rintro e w' ⟨v', rfl, ho', hb'⟩
        exact ⟨b0, b1, b2, b3, true, b5, b6, b7, b8, b9, b10, b11, false, x3, x4, x5, _, _, x8, x9, x10, x11, x12, x13, x14, rfl, rfl, h0.trans (Frm.ofBelow hb' _), h1.all hb', f0, f1, f2, f3, (fun _ => ho'.mono h0.size), f5, f6, (fun h => by rw [(f7 h).1] at hb4; cases hb4), f8, f9, (fun h => by have := (f7 (f10 h).1).1; rw [hb4] at this; cases this), (fun h => by have := (f7 (f10 (f11 h).1).1).1; rw [hb4] at this; cases this), f12⟩
      · obtain rfl := Option.some.inj ho
        go_simp
        exact ⟨b0, b1, b2, b3, b4, true, b6, b7, b8, b9, b10, b11, b12, x3, x4, x5, x6, x7, _, x9, x10, x11, x12, x13, x14, rfl, rfl, h0, h1, f0, f1, f2, f3, f4, (fun _ => rfl), f6, f7, f8, f9, f10, f11, f12⟩
      · have g5 := ready_pred hi ho 5
        obtain rfl := Option.some.inj ho
        have e5 := f5 (g5 (by kernel_rfl))
        subst e5
        have c0 : w.cell? ⟨w0.heap.size, 2, none⟩ = some (.slice ac t.text.length cc) := (l0.frm h0 hbp).cell 2
        go_simp
        exact ⟨b0, b1, b2, b3, b4, b5, true, b7, b8, b9, b10, b11, b12, x3, x4, x5, x6, x7, _, _, x10, x11, x12, x13, x14, rfl, rfl, h0, h1, f0, f1, f2, f3, f4, f5, (fun _ => rfl), f7, f8, f9, f10, f11, f12⟩
      · have g6 := ready_pred hi ho 6
        have g4 := ready_pred hi ho 4
        obtain rfl := Option.some.inj ho
        have e6 := f6 (g6 (by kernel_rfl))
        have e4 : b4 = true := g4 (by kernel_rfl)
        subst e6 e4
        have hb7 : b7 = false := by simpa using ready_off rfl hi
        have hb12 : b12 = false := by
          cases b12 with
          | false => rfl
          | true => have := (f10 (f11 (f12 rfl)).1).1; rw [hb7] at this; cases this
        subst hb12
        go_simp
        refine (clone_any w _ t.text (hc.keep (hBw h0)) (by omega)).mono ?_
        rintro e w' ⟨v', rfl, ho', hb'⟩
        exact ⟨b0, b1, b2, b3, true, b5, b6, true, b8, b9, b10, b11, false, x3, x4, x5, x6, x7, x8, _, _, x11, x12, x13, x14, rfl, rfl, h0.trans (Frm.ofBelow hb' _), h1.all hb', f0, f1, f2, f3, (fun h => (f4 h).keep hb'), f5, f6, (fun _ => ⟨rfl, ho'.mono h0.size, fun q hq hq' => by have := (ho'.lt q (by simpa [FB] using hq)).1; have := ((f4 rfl).lt q (by simpa [FB] using hq')).2; omega⟩), f8, f9, (fun h => by rw [(f10 h).1] at hb7; cases hb7), (fun h => by have := (f10 (f11 h).1).1; rw [hb7] at this; cases this), f12⟩
      · obtain rfl := Option.some.inj ho
        go_simp
        exact ⟨b0, b1, b2, b3, b4, b5, b6, b7, true, b9, b10, b11, b12, x3, x4, x5, x6, x7, x8, x9, x10, _, x12, x13, x14, rfl, rfl, h0, h1, f0, f1, f2, f3, f4, f5, f6, f7, (fun _ => rfl), f9, f10, f11, f12⟩
      · have g8 := ready_pred hi ho 8
        obtain rfl := Option.some.inj ho
        have e8 := f8 (g8 (by kernel_rfl))
        subst e8
        have c0 : w.cell? ⟨w0.heap.size, 3, none⟩ = some (.slice ad t.attrs.length cd) := (l0.frm h0 hbp).cell 3
        go_simp
        exact ⟨b0, b1, b2, b3, b4, b5, b6, b7, b8, true, b10, b11, b12, x3, x4, x5, x6, x7, x8, x9, x10, _, _, x13, x14, rfl, rfl, h0, h1, f0, f1, f2, f3, f4, f5, f6, f7, f8, (fun _ => rfl), f10, f11, f12⟩
      · have g9 := ready_pred hi ho 9
        have g7 := ready_pred hi ho 7
        obtain rfl := Option.some.inj ho
        have e9 := f9 (g9 (by kernel_rfl))
        have e7 : b7 = true := g7 (by kernel_rfl)
        have e4 := (f7 e7).1
        subst e9 e7 e4
        have hb10 : b10 = false := by simpa using ready_off rfl hi
        have hb12 : b12 = false := by
          cases b12 with
          | false => rfl
          | true => have := (f11 (f12 rfl)).1; rw [hb10] at this; cases this
        subst hb12
        go_simp
        refine (copyAttrs_any w _ t.attrs (RdAttrs.keep hd (hBw h0)) hal (unhide HAX)).mono ?_
        rintro e w' ⟨v', rfl, Fa, ho', nd', r', hb'⟩
        exact ⟨b0, b1, b2, b3, true, b5, b6, true, b8, b9, true, b11, false, x3, x4, x5, x6, x7, x8, x9, x10, x11, _, _, x14, rfl, rfl, h0.trans (Frm.ofBelow hb' _), h1.all hb', f0, f1, f2, f3, (fun h => (f4 h).keep hb'), f5, f6, (fun h => ⟨(f7 h).1, (f7 h).2.1.keep hb', (f7 h).2.2⟩), f8, f9, (fun _ => ⟨rfl, Fa, ho', nd', r'.mono h0.size (Nat.le_refl _), fun q hq => ⟨fun hq' => by have := (r' q hq).1; have := ((f4 rfl).lt q (by simpa [FB] using hq')).2; omega, fun hq' => by have := (r' q hq).1; have := ((f7 rfl).2.1.lt q (by simpa [FB] using hq')).2; omega⟩⟩), (fun h => by rw [(f11 h).1] at hb10; cases hb10), f12⟩
      · have g1 := ready_pred hi ho 1
        have g10 := ready_pred hi ho 10
        obtain rfl := Option.some.inj ho
        have e1 := f1 (g1 (by kernel_rfl))
        have e10 : b10 = true := g10 (by kernel_rfl)
        have e7 := (f10 e10).1
        have e4 := (f7 e7).1
        subst e1 e10 e7 e4
        obtain ⟨p2, k2', hv2, _, _⟩ := (f4 rfl).byt.shape
        obtain ⟨p3, k3', hv3, _, _⟩ := (f7 rfl).2.1.byt.shape
        obtain ⟨_, Fa, q1, q2, q3, q4⟩ := f10 rfl
        obtain ⟨p4, k4', hv4⟩ : ∃ p4 k4', x13 = .slice p4 t.attrs.length k4' := by
          obtain ⟨_, _, _, _, _, e4, _⟩ := q1
          exact own_nil_shape e4
        subst hv2 hv3 hv4
        go_simp
        exact ⟨b0, b1, b2, b3, true, b5, b6, true, b8, b9, true, true, b12, x3, _, x5, x6, _, x8, x9, _, x11, x12, _, _, rfl, rfl, h0, h1, f0, f1, f2, f3, f4, f5, f6, f7, f8, f9, f10, (fun _ => ⟨rfl, rfl⟩), (fun h => rfl)⟩
      · have g11 := ready_pred hi ho 11
        obtain rfl := Option.some.inj ho
        have e11 : b11 = true := g11 (by kernel_rfl)
        obtain ⟨e10, e14⟩ := f11 e11
        have e7 := (f10 e10).1
        have e4 := (f7 e7).1
        have hb12 : b12 = false := by simpa using ready_off rfl hi
        subst e4 e7 e10 e11 e14 hb12
        replace h1 : Loc w (w0.heap.size + 1) #[.int .i64 0, .slice none 0 0, .slice none 0 0, .slice none 0 0, .slice none 0 0] 31 := h1
        obtain ⟨p2, k2', hv2, _, _⟩ := (f4 rfl).byt.shape
        obtain ⟨p3, k3', hv3, _, _⟩ := (f7 rfl).2.1.byt.shape
        obtain ⟨_, Fa, r1, r2, r3, r4⟩ := f10 rfl
        obtain ⟨p4, k4', hv4⟩ : ∃ p4 k4', x13 = .slice p4 t.attrs.length k4' := by
          obtain ⟨_, _, _, _, _, e4, _⟩ := r1
          exact own_nil_shape e4
        subst hv2 hv3 hv4
        obtain ⟨y0, y1, y2, y3, y4⟩ := h1.five
        have u0 := h1.frozen 0
        have u1 := h1.frozen 1
        have u2 := h1.frozen 2
        have u3 := h1.frozen 3
        have u4 := h1.frozen 4
        obtain ⟨s1, s2⟩ := store5 h1 (.int .i64 t.kind) (.slice p2 t.name.length k2') (.slice p3 t.text.length k3') (.slice p4 t.attrs.length k4') (.slice none 0 0)
        have s3 := h0.trans s2
        have s4 := (f4 rfl).frm s2 (fun g hg hg' => by have := ((f4 rfl).lt g (by simpa [FB] using hg)).1; simp at hg'; omega)
        have s5 := (f7 rfl).2.1.frm s2 (fun g hg hg' => by have := ((f7 rfl).2.1.lt g (by simpa [FB] using hg)).1; simp at hg'; omega)
        have s6 := OwAttrs.frm r1 s2 (fun g hg hg' => by have := (r3 g hg).1; simp at hg'; omega)
        go_simp
        exact ⟨b0, b1, b2, b3, true, b5, b6, true, b8, b9, true, true, true, x3, x4, x5, x6, _, x8, x9, _, x11, x12, _, _, rfl, rfl, s3, s1, f0, f1, f2, f3, (fun _ => s4), f5, f6, (fun _ => ⟨rfl, s5, (f7 rfl).2.2⟩), f8, f9, (fun _ => ⟨rfl, Fa, s6, r2, r3.mono (Nat.le_refl _) s2.size, r4⟩), (fun _ => ⟨rfl, rfl⟩), (fun _ => rfl)⟩
  case dn =>
    intro L a w2 hI hre
    have hall := ready_all (L := L) (by obtain ⟨b0, b1, b2, b3, b4, b5, b6, b7, b8, b9, b10, b11, b12, x3, x4, x5, x6, x7, x8, x9, x10, x11, x12, x13, x14, rfl, _⟩ := hI; rfl) (by kernel_rfl) hre 13
    obtain ⟨b0, b1, b2, b3, b4, b5, b6, b7, b8, b9, b10, b11, b12, x3, x4, x5, x6, x7, x8, x9, x10, x11, x12, x13, x14, rfl, rfl, h0, h1, f0, f1, f2, f3, f4, f5, f6, f7, f8, f9, f10, f11, f12⟩ := hI
    have s12 : b12 = true := hall 12 (by omega) (by decide)
    have e11 := f12 s12
    obtain ⟨e10, e14⟩ := f11 e11
    have e7 := (f10 e10).1
    have e4 := (f7 e7).1
    subst s12 e11 e10 e7 e4
    replace h1 : Loc w2 (w0.heap.size + 1) #[.int .i64 t.kind, x7, x10, x13, .slice none 0 0] 31 := h1
    have r0 := f4 rfl
    obtain ⟨_, r1, r1d⟩ := f7 rfl
    obtain ⟨_, Fa, r2, r3, r4, r5⟩ := f10 rfl
    have hB2 := hBw h0
    clear hall f0 f1 f2 f3 f4 f5 f6 f7 f8 f9 f10 f11 f12 hre h0
    obtain ⟨p2, k2', hv2, _, _⟩ := r0.byt.shape
    obtain ⟨p3, k3', hv3, _, _⟩ := r1.byt.shape
    obtain ⟨p4, k4', hv4⟩ : ∃ p4 k4', x13 = .slice p4 t.attrs.length k4' := by
      obtain ⟨_, _, _, _, _, e4, _⟩ := r2
      exact own_nil_shape e4
    subst hv2 hv3 hv4
    obtain ⟨g0, g1, g2, g3, g4⟩ := h1.five
    have nd : (FB (.slice p2 t.name.length k2') ++ FB (.slice p3 t.text.length k3') ++ Fa).Nodup := by
      refine List.nodup_append.2 ⟨List.nodup_append.2 ⟨FB_nodup _, FB_nodup _, fun a ha b hb e => r1d b hb (e ▸ ha)⟩, r3, fun a ha b hb e => ?_⟩
      subst e
      rcases List.mem_append.1 ha with ha | ha
      · exact (r5 a hb).1 ha
      · exact (r5 a hb).2 ha
    have rg : Rng (FB (.slice p2 t.name.length k2') ++ FB (.slice p3 t.text.length k3') ++ Fa) (w0.heap.size + 2) w2.heap.size := ((r0.rng.mono hs1 (Nat.le_refl _)).app (r1.rng.mono hs1 (Nat.le_refl _))).app (r4.mono hs1 (Nat.le_refl _))
    have HF := hide (And.intro (r0.mono (base' := 0) (Nat.zero_le _)) (And.intro (r1.mono (base' := 0) (Nat.zero_le _)) (And.intro r2 (And.intro nd (And.intro rg hB2)))))
    clear r0 r1 r1d r2 r3 r4 r5 nd rg hB2
    go_wp2_with fail
    obtain ⟨q1, q2, q3, q4, q5, q6⟩ := unhide HF
    exact bodyPost_ret (v := .agg #[.int .i64 t.kind, .slice p2 t.name.length k2', .slice p3 t.text.length k3', .slice p4 t.attrs.length k4', .slice none 0 0]) (by simp [results, Try.results41, go_sem, g0, g1, g2, g3, g4]) rfl ⟨p2, k2', p3, k3', p4, k4', rfl, q1, q2, Fa, q3, by rw [← List.append_assoc]; exact q4, by rw [← List.append_assoc]; exact q5, q6⟩
end Go.Proofs.Ytfhekoipnlmhoaa

/- A call of a Go function as one step of a region that draws its order, by the callee's contract. No program. -/
namespace Go.Proofs.Ytfhekoipnlmhoaa
open Go.RowKit
set_option linter.unusedVariables false

theorem step_call {P : Program} {ops : Array Oper} {o : Oper} {a : Act} {w : World} {K : Act → World → Prop} {Q : Exit → Act → World → Prop} {E : Prop} (hgd : o.guard = none) (f : FuncId) (xs : List Operand) (tys : Array TypeId)
    (ho : o.op = .call { callee := .value (.func f), args := xs.toArray, argTypes := tys }) (he : ∀ args w, (callFunc f args).run P w = .ok (.enter f args) w) (args : List Value) (hx : xs.map a.eval = args) {R : Ending → World → Prop} (hc : Calls P f args.toArray w R)
    (h : ∀ e w', R e w' → ∃ v, e = .returned v ∧ K (a.put o.dst v) w') : if Region.wanted o (yielded ops a.tmps) = true then Oper.wp P o a w K Q else E := by
  have hw : Region.wanted o (yielded ops a.tmps) = true := by simp [Region.wanted, hgd]
  rw [if_pos hw]
  subst hx
  unfold Oper.wp execOp
  simp [ho, resolve, invoke, go_sem, he]
  refine hc.mono ?_
  intro e w' hR
  obtain ⟨v, rfl, hk⟩ := h e w' hR
  exact hk
end Go.Proofs.Ytfhekoipnlmhoaa

/- impl.copyNode tells the tree, in memory of its own. -/
namespace Go.Proofs.Ytfhekoipnlmhoaa
open Go.RowKit Go.Shelf
set_option linter.unusedVariables false
set_option maxRecDepth 100000

/-- What copyNode tells of a tree. -/
def CnAt (n : Nat) (t : Tr n) : Prop := ∀ (w : World) (a b c d e : Value), RdNode n w [a, b, c, d, e] t → szT n t ≤ 2097152 →
    Calls Try.prog 23 #[.agg #[a, b, c, d, e]] w fun e w' => ∃ (kd : Int) (a1 : Option Addr) (n1 c1 : Nat) (a2 : Option Addr) (n2 c2 : Nat) (a3 : Option Addr) (n3 c3 : Nat) (a4 : Option Addr) (n4 c4 : Nat), e = .returned (.agg #[.int .i64 kd, .slice a1 n1 c1, .slice a2 n2 c2, .slice a3 n3 c3, .slice a4 n4 c4]) ∧ ∃ F, OwNode n w' [.int .i64 kd, .slice a1 n1 c1, .slice a2 n2 c2, .slice a3 n3 c3, .slice a4 n4 c4] t F ∧ F.Nodup ∧ Rng F w.heap.size w'.heap.size ∧ Below w.heap.size w w'

set_option maxHeartbeats 12800000 in
theorem copyNode_core (n : Nat) (t : Tr (n + 2)) (H : ∀ k ∈ t.kids, CnAt (n + 1) k) : CnAt (n + 2) t := by
  intro w0 a b c d e hrd hsz
  have hszT : szT (n + 2) t = t.name.length + t.text.length + szA t.attrs + (t.kids.length + (t.kids.map (szT (n + 1))).sum) := rfl
  have HRD := hide hrd
  obtain ⟨_, _, _, _, e0, k1, k2, hb, hc, hd, he⟩ := hrd
  simp only [List.cons.injEq, and_true] at e0
  obtain ⟨rfl, rfl, rfl, rfl, rfl⟩ := e0
  obtain ⟨ab, cb, rfl, _, _⟩ := hb.shape
  obtain ⟨ac, cc, rfl, _, _⟩ := hc.shape
  obtain ⟨ad, cd, rfl, _, _⟩ := Elems.shape hd
  obtain ⟨ae, ce, rfl, _, _⟩ := Elems.shape he
  obtain ⟨l0, l1, hB1⟩ := two w0 #[.int .i64 t.kind, .slice ab t.name.length cb, .slice ac t.text.length cc, .slice ad t.attrs.length cd, .slice ae t.kids.length ce] #[.int .i64 0, .slice none 0 0, .slice none 0 0, .slice none 0 0, .slice none 0 0] 31 31
  have hs1 : ((w0.alloc (.cells #[.int .i64 t.kind, .slice ab t.name.length cb, .slice ac t.text.length cc, .slice ad t.attrs.length cd, .slice ae t.kids.length ce] 31)).alloc (.cells #[.int .i64 0, .slice none 0 0, .slice none 0 0, .slice none 0 0, .slice none 0 0] 31)).heap.size = w0.heap.size + 2 := by simp
  have hkl : t.kids.length ≤ 2097152 := by omega
  have hmK : (t.kids.length : Int) ≤ 9223372036854775807 := by omega
  have HL := hide (fun W (hW : Below w0.heap.size w0 W) => copyLone_any (n + 1) W _ _ _ _ _ t ((unhide HRD).keep hW) hsz)
  have HSZ := hide hszT
  clear hszT hb hc hd HRD
  go_enter Try.func23, Try.ntmps23
  go_wp2_with fail
  generalize ((w0.alloc (.cells #[.int .i64 t.kind, .slice ab t.name.length cb, .slice ac t.text.length cc, .slice ad t.attrs.length cd, .slice ae t.kids.length ce] 31)).alloc (.cells #[.int .i64 0, .slice none 0 0, .slice none 0 0, .slice none 0 0, .slice none 0 0] 31)) = wq at *
  refine (unhide HL wq hB1).mono ?_
  rintro e w1 ⟨p2, k2', p3, k3', p4, k4', rfl, hh⟩
  obtain ⟨Fa, o1, o2, o3, nd, rg, hB⟩ : ∃ Fa, Own w1 0 (.slice p2 t.name.length k2') t.name ∧ Own w1 0 (.slice p3 t.text.length k3') t.text ∧ OwAttrs w1 (.slice p4 t.attrs.length k4') t.attrs Fa ∧ (FB (.slice p2 t.name.length k2') ++ FB (.slice p3 t.text.length k3') ++ Fa).Nodup ∧ Rng (FB (.slice p2 t.name.length k2') ++ FB (.slice p3 t.text.length k3') ++ Fa) (wq.heap.size + 2) w1.heap.size ∧ Below wq.heap.size wq w1 := by
    first
    | exact hh
    | (obtain ⟨q1, q2, Fa, q3, q4, q5, q6⟩ := hh; exact ⟨Fa, q1, q2, q3, by rw [List.append_assoc]; exact q4, by rw [List.append_assoc]; exact q5, q6⟩)
  clear hh HL
  have hB2 := bstep hB1 hB
  have l02 := l0.all hB
  have l12 := l1.all hB
  have hsw := hB.size
  have hBo : Below w1.heap.size w1 (w1.alloc (.cells #[.int .i64 t.kind, .slice p2 t.name.length k2', .slice p3 t.text.length k3', .slice p4 t.attrs.length k4', .slice none 0 0] 31)) := (Below.refl _ _).alloc (Nat.le_refl _) _
  have lo := Loc.made w1 #[.int .i64 t.kind, .slice p2 t.name.length k2', .slice p3 t.text.length k3', .slice p4 t.attrs.length k4', .slice none 0 0] 31
  have hO : OutAt n (w0.heap.size + 2) (w1.alloc (.cells #[.int .i64 t.kind, .slice p2 t.name.length k2', .slice p3 t.text.length k3', .slice p4 t.attrs.length k4', .slice none 0 0] 31)) w1.heap.size t.kind (.slice p2 t.name.length k2') (.slice p3 t.text.length k3') (.slice p4 t.attrs.length k4') (.slice none 0 0) t.name t.text t.attrs (t.kids.take 0) Fa [] := by
    refine ⟨lo, o1.keep hBo, o2.keep hBo, OwAttrs.frm o3 (Frm.ofBelow hBo []) (fun _ _ => by simp), OwElems.naught _ _ _ _, by rw [List.append_nil]; exact nd, fun q hq => ?_⟩
    rw [List.append_nil] at hq
    have := rg q hq
    have := hBo.size
    exact ⟨by omega, by omega, by omega⟩
  have LL := hide (And.intro hO (And.intro (bstep hB2 hBo) (And.intro (l02.all hBo) (l12.all hBo))))
  have hpo0 : w0.heap.size + 2 ≤ w1.heap.size := by omega
  obtain ⟨x0, x1, x2, x3, x4⟩ := (l02.alloc (.cells #[.int .i64 t.kind, .slice p2 t.name.length k2', .slice p3 t.text.length k3', .slice p4 t.attrs.length k4', .slice none 0 0] 31)).five
  clear hO hB hB1 hB2 hBo lo l0 l1 l02 l12 o1 o2 o3 nd rg
  go_wp2_with fail
  clear x0 x1 x2 x3 x4
  obtain ⟨hO, hB2, lb2, lr2⟩ := unhide LL
  clear LL
  generalize (w1.alloc (.cells #[.int .i64 t.kind, .slice p2 t.name.length k2', .slice p3 t.text.length k3', .slice p4 t.attrs.length k4', .slice none 0 0] 31)) = w2 at *
  generalize w1.heap.size = po at *
  have hpb : ¬ w0.heap.size = po := by omega
  have hpr : ¬ w0.heap.size + 1 = po := by omega
  obtain ⟨i0, hi0, hz0, hz1, hz2⟩ := info_parts Try.info31
  go_loopw [5, 11] (fun _ i wr => ∃ j : Nat, j ≤ t.kids.length ∧ i = .int .i64 j ∧ ∃ ka km kc Fk, OutAt n (w0.heap.size + 2) wr po t.kind (.slice p2 t.name.length k2') (.slice p3 t.text.length k3') (.slice p4 t.attrs.length k4') (.slice ka km kc) t.name t.text t.attrs (t.kids.take j) Fa Fk ∧ Below w0.heap.size w0 wr ∧ Loc wr w0.heap.size #[.int .i64 t.kind, .slice ab t.name.length cb, .slice ac t.text.length cc, .slice ad t.attrs.length cd, .slice ae t.kids.length ce] 31 ∧ Loc wr (w0.heap.size + 1) #[.int .i64 0, .slice none 0 0, .slice none 0 0, .slice none 0 0, .slice none 0 0] 31) (fun _ i _ => t.kids.length - (intOf i).toNat)
  case atStart => exact ⟨0, Nat.zero_le _, rfl, none, 0, 0, [], hO, hB2, lb2, lr2⟩
  case round =>
    clear hO hB2 lb2 lr2
    obtain ⟨j, hj, rfl, ka, km, kc, Fk, hO, hBr, lb, lr⟩ := hrel
    have hndk : Fk.Nodup := (List.nodup_append.1 hO.nodup).2.1
    have hFlt : ∀ q ∈ Fk, q < wr.heap.size := fun q hq => (hO.rng q (List.mem_append_right _ hq)).2.1
    have hFlo : ∀ q ∈ Fk, w0.heap.size + 2 ≤ q := fun q hq => (hO.rng q (List.mem_append_right _ hq)).1
    have hpF : po ∉ Fk := fun h => (hO.rng po (List.mem_append_right _ h)).2.2 rfl
    have hdF : ∀ q ∈ FB (.slice p2 t.name.length k2') ++ FB (.slice p3 t.text.length k3') ++ Fa, q ∉ Fk := fun q hq hq' => (List.nodup_append.1 hO.nodup).2.2 q hq q hq' rfl
    have hkvF : ∀ q ∈ FB (.slice ka km kc), q ∈ Fk := fun q hq => by
      obtain ⟨_, _, _, _, _, _, rfl⟩ := hO.kids
      exact List.mem_append_left _ hq
    have hbF : w0.heap.size ∉ Fk := fun h => by have := hFlo _ h; omega
    have hrF : w0.heap.size + 1 ∉ Fk := fun h => by have := hFlo _ h; omega
    have hpo := hO.loc.lt
    by_cases hjl : j < t.kids.length
    · obtain ⟨pb, poff, hpa, hpl, hun, _, hC⟩ := he.at hjl
      clear hun
      subst hpa
      obtain ⟨kid, hkid⟩ : ∃ kid, kid = t.kids[j] := ⟨_, rfl⟩
      have hmem : kid ∈ t.kids := by rw [hkid]; exact List.getElem_mem hjl
      have HTK := hide (show t.kids.take (j + 1) = t.kids.take j ++ [kid] by rw [List.take_succ_eq_append_getElem hjl, ← hkid])
      have hlj : (t.kids.take j).length = j := by rw [List.length_take]; omega
      obtain ⟨d0, d1, d2, d3, d4, e0, e1, e2, e3, e4, hx⟩ := five_of hC
      rw [← hkid] at hx
      replace e0 := (hBr.cell (p := ⟨pb, poff + j * 5, none⟩) hpl).trans e0
      replace e1 := (hBr.cell (p := ⟨pb, poff + j * 5 + 1, none⟩) hpl).trans e1
      replace e2 := (hBr.cell (p := ⟨pb, poff + j * 5 + 2, none⟩) hpl).trans e2
      replace e3 := (hBr.cell (p := ⟨pb, poff + j * 5 + 3, none⟩) hpl).trans e3
      replace e4 := (hBr.cell (p := ⟨pb, poff + j * 5 + 4, none⟩) hpl).trans e4
      obtain ⟨_, _, _, _, ee, kk1, kk2, hkb, hkc, hkd, hke⟩ := id hx
      simp only [List.cons.injEq, and_true] at ee
      obtain ⟨rfl, rfl, rfl, rfl, rfl⟩ := ee
      obtain ⟨ab', cb', rfl, _, _⟩ := hkb.shape
      obtain ⟨ac', cc', rfl, _, _⟩ := hkc.shape
      obtain ⟨ad', cd', rfl, _, _⟩ := Elems.shape hkd
      obtain ⟨ae', ce', rfl, _, _⟩ := Elems.shape hke
      have hksz : szT (n + 1) kid ≤ 2097152 := by
        have h1 : szT (n + 1) kid ≤ (t.kids.map (szT (n + 1))).sum := sum_mem (List.mem_map.2 ⟨kid, hmem, rfl⟩)
        have h2 := unhide HSZ
        omega
      have hjl' : (j : Int) < (t.kids.length : Int) := by omega
      have hj0 : (0 : Int) ≤ (j : Int) := by omega
      have hBa : Below wr.heap.size wr (wr.alloc (.cells #[.int .i64 kid.kind, .slice ab' kid.name.length cb', .slice ac' kid.text.length cc', .slice ad' kid.attrs.length cd', .slice ae' kid.kids.length ce'] 31)) := (Below.refl _ _).alloc (Nat.le_refl _) _
      have lk := Loc.made wr #[.int .i64 kid.kind, .slice ab' kid.name.length cb', .slice ac' kid.text.length cc', .slice ad' kid.attrs.length cd', .slice ae' kid.kids.length ce'] 31
      have hOa := hO.keep hBa
      have hBw := bstep hBr hBa
      have lra := lr.all hBa
      have lba := lb.all hBa
      have HX := hide hx
      have HK := hide (H kid hmem)
      have HS6 := hide hksz
      have hloa : w0.heap.size + 2 ≤ (wr.alloc (.cells #[.int .i64 kid.kind, .slice ab' kid.name.length cb', .slice ac' kid.text.length cc', .slice ad' kid.attrs.length cd', .slice ae' kid.kids.length ce'] 31)).heap.size := by have := hBa.size; omega
      clear hC hx hmem hkid he H hkb hkc hkd hke hO lr lb
      go_wp2_with fail
      generalize (wr.alloc (.cells #[.int .i64 kid.kind, .slice ab' kid.name.length cb', .slice ac' kid.text.length cc', .slice ad' kid.attrs.length cd', .slice ae' kid.kids.length ce'] 31)) = wa at *
      have hdr : Below wa.heap.size wa wa.drew := (Below.refl _ _).drew
      have hOd := hOa.keep hdr
      have lkd := lk.all hdr
      have hBd := hBw.drew
      have c4d : wa.drew.cell? ⟨po, 4, none⟩ = some (.slice ka km kc) := hOd.loc.cell 4
      have k0 : wa.drew.cell? ⟨wr.heap.size, 0, none⟩ = some (.int .i64 kid.kind) := lkd.cell 0
      have k1' : wa.drew.cell? ⟨wr.heap.size, 1, none⟩ = some (.slice ab' kid.name.length cb') := lkd.cell 1
      have k2q : wa.drew.cell? ⟨wr.heap.size, 2, none⟩ = some (.slice ac' kid.text.length cc') := lkd.cell 2
      have k3q : wa.drew.cell? ⟨wr.heap.size, 3, none⟩ = some (.slice ad' kid.attrs.length cd') := lkd.cell 3
      have k4q : wa.drew.cell? ⟨wr.heap.size, 4, none⟩ = some (.slice ae' kid.kids.length ce') := lkd.cell 4
      have he2 : ∀ args w, (callFunc 23 args).run Try.prog w = .ok (.enter 23 args) w := enters_of Try.func23 (by kernel_rfl) rfl
      clear e0 e1 e2 e3 e4
      go_region_law
        (first
          | (refine step_call (by rfl) 23 [.tmp 17] #[31] (by rfl) he2 [.agg #[.int .i64 kid.kind, .slice ab' kid.name.length cb', .slice ac' kid.text.length cc', .slice ad' kid.attrs.length cd', .slice ae' kid.kids.length ce']] (by rfl) (unhide HK wa.drew _ _ _ _ _ ((unhide HX).keep hBd) (unhide HS6)) ?_; clear HK; rintro e w7 ⟨kd, a1, n1, c1, a2, n2, c2, a3, n3, c3, a4, n4, cz, rfl, G, hG, ndG, rG, hB7⟩; have c47 : w7.cell? ⟨po, 4, none⟩ = some (.slice ka km kc) := (hOd.loc.all hB7).cell 4; have hb8 : Below w7.heap.size w7 (w7.alloc (.cells #[.int .i64 kd, .slice a1 n1 c1, .slice a2 n2 c2, .slice a3 n3 c3, .slice a4 n4 cz] 31)) := (Below.refl _ _).alloc (Nat.le_refl _) _; have c48 : (w7.alloc (.cells #[.int .i64 kd, .slice a1 n1 c1, .slice a2 n2 c2, .slice a3 n3 c3, .slice a4 n4 cz] 31)).cell? ⟨po, 4, none⟩ = some (.slice ka km kc) := ((hOd.loc.all hB7).all hb8).cell 4; refine ⟨_, rfl, ?_⟩)
          | (refine step_push (R := OwNode (n + 1)) (fun h f d => OwNode.frm h f d) (by rfl) (.tmp 16) (.tmp 19) 29 (by rfl) 31 i0 (.agg #[.int .i64 0, .slice none 0 0, .slice none 0 0, .slice none 0 0, .slice none 0 0]) 5 104 Try.underlying29 hi0 hz0 hz1 hz2 rfl (by decide) _ (t.kids.take j) Fk (by rfl) (((hOd.keep hB7).keep hb8).kids) hndk ⟨w7.heap.size, 0, none⟩ 1 [.int .i64 kd, .slice a1 n1 c1, .slice a2 n2 c2, .slice a3 n3 c3, .slice a4 n4 cz] kid G (by rfl) rfl (five_lies w7 _ _ _ _ _ _) (by intro y hy; simp at hy; rcases hy with rfl | rfl | rfl | rfl | rfl <;> rfl) (hG.keep hb8) ndG (fun g hg hg' => by have h1 := (hOd.rng g (List.mem_append_right _ hg)).2.1; have := (rG g hg').1; omega) (fun q hq => by have h1 := hB7.size; have h2 := hb8.size; rcases hq with hq | hq; (have := (hOd.rng q (List.mem_append_right _ hq)).2.1; omega); (have := (rG q hq).2; omega)) (by rw [hlj]; unfold maxLen; omega) (by rw [hlj]; omega) ?_; intro g9 cap9 w9 F9 hF9 hN9 hM9 hf9 hg9; generalize ((t.kids.take j).length + 1) = n9 at hF9 ⊢; have hf9' : Frm wa.drew w9 Fk := ((Frm.ofBelow (bstep hB7 hb8) Fk)).more hf9 (fun q hq => .inl (hkvF q hq)); have c49 : w9.cell? ⟨po, 4, none⟩ = some (.slice ka km kc) := (hOd.loc.frm hf9' hpF).cell 4; have z49 := (hOd.loc.frm hf9' hpF).frozen 4))
      all_goals
        have hfq : ∀ q ∈ F9, (q ∈ Fk ∨ wa.drew.heap.size ≤ q) ∧ q < w9.heap.size := fun q hq => by
          refine ⟨?_, OwElems.lt hF9 (fun C x G h => OwNode.lt h) q hq⟩
          have s7 := hB7.size
          rcases hM9 q hq with h | h | h
          · exact .inl h
          · have := (rG q h).1; right; omega
          · right; simp only [World.size_alloc] at h; omega
        have hO9 := hOd.setKids hf9' hpF hdF hF9 hN9 hfq hloa
        have hB9 : Below w0.heap.size w0 w9 := hBd.trans (hf9'.below hBd.size (fun q hq => by have := hFlo q hq; omega))
        have hBX := hB9.setCell (p := ⟨po, 4, none⟩) (by show w0.heap.size ≤ po; omega) (.slice (some ⟨g9, 0, none⟩) n9 cap9)
        have lb9 := ((lba.all hdr).frm hf9' hbF).other po 4 (.slice (some ⟨g9, 0, none⟩) n9 cap9) hpb
        have lr9 := ((lra.all hdr).frm hf9' hrF).other po 4 (.slice (some ⟨g9, 0, none⟩) n9 cap9) hpr
        have HO9 := hide (show OutAt n (w0.heap.size + 2) (w9.setCell ⟨po, 4, none⟩ (.slice (some ⟨g9, 0, none⟩) n9 cap9)) po t.kind (.slice p2 t.name.length k2') (.slice p3 t.text.length k3') (.slice p4 t.attrs.length k4') (.slice (some ⟨g9, 0, none⟩) n9 cap9) t.name t.text t.attrs (t.kids.take (j + 1)) Fa F9 by
          rw [unhide HTK]
          exact hO9)
        clear hO9 hOd hOa
        go_wp2_with fail
        go_roundw
        case rel => exact ⟨j + 1, by omega, by go_num, _, _, _, F9, unhide HO9, hBX, lb9, lr9⟩
        case measure => simp [intOf]; omega
    · have hke : t.kids.take j = t.kids := List.take_of_length_le (by omega)
      rw [hke] at hO
      have hjl' : ¬ (j : Int) < (t.kids.length : Int) := by omega
      obtain ⟨y0', y1', y2', y3', y4'⟩ := hO.loc.five
      obtain ⟨g0, g1, g2, g3, g4⟩ := lr.five
      have i0' := lr.frozen 0
      have i1' := lr.frozen 1
      have i2' := lr.frozen 2
      have i3' := lr.frozen 3
      have i4' := lr.frozen 4
      obtain ⟨lX, fX⟩ := store5 lr (.int .i64 t.kind) (.slice p2 t.name.length k2') (.slice p3 t.text.length k3') (.slice p4 t.attrs.length k4') (.slice ka km kc)
      have hOX := hO.frm fX (by simpa using fun e => hpr e.symm) (fun q hq hq' => by
        have := (hO.rng q hq).1
        have e : q = w0.heap.size + 1 := by simpa using hq'
        omega)
      have hBX := hBr.trans (fX.below hBr.size (fun q hq => by have e : q = w0.heap.size + 1 := (by simpa using hq); omega))
      have fin := hOX.node k1 k2
      have HF := hide (And.intro fin (And.intro hOX.nodup (And.intro hOX.rng hBX)))
      clear fin hOX hBX fX hO he H
      go_wp2_with fail
      obtain ⟨fin, nd, rg, bel⟩ := unhide HF
      exact bodyPost_ret (v := .agg #[.int .i64 t.kind, .slice p2 t.name.length k2', .slice p3 t.text.length k3', .slice p4 t.attrs.length k4', .slice ka km kc]) (by simp [results, Try.results23, go_sem, g0, g1, g2, g3, g4]) rfl ⟨t.kind, p2, _, k2', p3, _, k3', p4, _, k4', ka, km, kc, rfl, _, fin, nd, fun q hq => ⟨by have := (rg q hq).1; omega, (rg q hq).2.1⟩, bel⟩

theorem cn_all : ∀ (n : Nat) (t : Tr n), CnAt n t
  | 0, t => t.elim
  | 1, t => by
    intro w a b c d e hrd hsz
    have hk := no_kids (t := t)
    have hrd2 : RdNode 2 w [a, b, c, d, e] (up1 t) := by
      obtain ⟨a1, b1, c1, d1, e0, k1, k2, hb, hc, hd, he⟩ := hrd
      rw [hk] at he
      exact ⟨a1, b1, c1, d1, e0, k1, k2, hb, hc, hd, elems_nil he⟩
    have hsz2 : szT 2 (up1 t) ≤ 2097152 := by
      have h1 : szT 2 (up1 t) = t.name.length + t.text.length + szA t.attrs + (([] : List (Tr 1)).length + (([] : List (Tr 1)).map (szT 1)).sum) := rfl
      have h2 : szT 1 t = t.name.length + t.text.length + szA t.attrs + (t.kids.length + (t.kids.map (szT 0)).sum) := rfl
      rw [h1]
      simp only [List.length_nil, List.map_nil, List.sum_nil]
      omega
    refine (copyNode_core 0 (up1 t) (fun k hm => by cases hm) w a b c d e hrd2 hsz2).mono ?_
    rintro e' w' ⟨kd, a1, n1, c1, a2, n2, c2, a3, n3, c3, a4, n4, c4, rfl, F, hO, nd, rg, hB⟩
    refine ⟨kd, a1, n1, c1, a2, n2, c2, a3, n3, c3, a4, n4, c4, rfl, F, ?_, nd, rg, hB⟩
    obtain ⟨a', b', c', d', Fc, Fd, e1, k1, k2, o1, o2, o3, o4, o5⟩ := hO
    refine ⟨a', b', c', d', Fc, Fd, e1, k1, k2, o1, o2, o3, ?_, o5⟩
    show OwElems w' 31 5 d' t.kids (OwNode 0 w') Fd
    rw [hk]
    exact owElems_nil (show OwElems w' 31 5 d' ([] : List (Tr 1)) (OwNode 1 w') Fd from o4)
  | n + 2, t => copyNode_core n t (fun k hm => cn_all (n + 1) k)
end Go.Proofs.Ytfhekoipnlmhoaa

/- An append of a readable row of bytes to an owned one: what comes lies where the row lay, or in a new block. -/
namespace Go.Proofs.Ytfhekoipnlmhoaa
open Go.RowKit
set_option linter.unusedVariables false

theorem run_appAt {w : World} (ty : TypeId) (base : Nat) (v : Value) (l : List Int) (hown : Own w base v l) (u : Value) (m : List Int) (hu : Byt w u m) (hlen : l.length + m.length ≤ 134217728) (hbase : base ≤ w.heap.size) :
    ∃ v' w', (Builtin.append_ #[22, 22] ty #[v, u]).run Try.prog w = .ok v' w' ∧ Own w' base v' (l ++ m) ∧ w.grownBy w' v.ownBlock ∧ (v'.ownBlock = v.ownBlock ∨ v'.ownBlock = some w.heap.size) := by
  obtain ⟨i0, hi, hz0, hz1, hz2⟩ := info_parts Try.info5
  have hfull : ∀ (ad : Addr) (c : Nat), u = .slice (some ad) m.length c → (∀ j, j < m.length → w.cell? (ad.add j) = some (.int .u8 (m.getD j 0))) → ∃ v' w', (Builtin.append_ #[22, 22] ty #[v, u]).run Try.prog w = .ok v' w' ∧ Own w' base v' (l ++ m) ∧ w.grownBy w' v.ownBlock ∧ (v'.ownBlock = v.ownBlock ∨ v'.ownBlock = some w.heap.size) := by
    intro ad c hx' hc
    obtain ⟨v', w', hr, h2, h3, _, h5⟩ := run_append_own_at (P := Try.prog) w base 22 ty 5 i0 (.int .u8 0) 1 1 Try.underlying22 hi hz0 hz1 hz2 rfl (by decide) v l.length (vals l) hown.2 ad m.length c (vals m) (by rw [vals_len]; omega) (by
      intro j y hj
      have hlt : j < m.length := by
        by_cases hlt : j < m.length
        · exact hlt
        · rw [List.getElem?_eq_none (by rw [vals_len]; omega)] at hj; cases hj
      rw [vals_at hlt] at hj
      rw [hc j hlt]; exact hj) (vals_one m) (by unfold maxLen; omega) (by omega) hbase
    subst hx'
    refine ⟨v', w', hr, ⟨hown.1.app hu.1, ?_⟩, h3, h5⟩
    rw [vals_app, List.length_append]; exact h2
  obtain ⟨hok, hm, ⟨rfl, rfl⟩ | ⟨y, cap, rfl, hc, rfl⟩ | ⟨b, off, cap, rfl, h1, h2, h3, h4, h5⟩⟩ := id hu
  · exact ⟨v, w, run_append_owned_none (P := Try.prog) (w := w) base 22 ty 5 i0 1 Try.underlying22 hi v l.length (vals l) hown.2, by rw [List.append_nil]; exact hown, World.grownBy.refl _ _, .inl rfl⟩
  · exact hfull y cap rfl (fun j hj => by simp at hj)
  · exact hfull ⟨b, off, none⟩ cap rfl (fun j hj => by rw [add_plain]; exact h5 j hj)

theorem step_appAt {w : World} {ops : Array Oper} {o : Oper} {a : Act} {K : Act → World → Prop} {Q : Exit → Act → World → Prop} {E : Prop} (hgd : o.guard = none) (s x : Operand)
    (ho : o.op = .call { callee := .builtin .append, args := #[s, x], argTypes := #[22, 22] })
    (base : Nat) (v : Value) (l : List Int) (hs : a.eval s = v) (hown : Own w base v l) (u : Value) (m : List Int) (hx : a.eval x = u) (hu : Byt w u m)
    (hlen : l.length + m.length ≤ 134217728) (hbase : base ≤ w.heap.size)
    (h : ∀ v' w', Own w' base v' (l ++ m) → w.grownBy w' v.ownBlock → (v'.ownBlock = v.ownBlock ∨ v'.ownBlock = some w.heap.size) → K (a.put o.dst v') w') : if Region.wanted o (yielded ops a.tmps) = true then Oper.wp Try.prog o a w K Q else E := by
  have hw : Region.wanted o (yielded ops a.tmps) = true := by simp [Region.wanted, hgd]
  rw [if_pos hw]
  obtain ⟨v', w', hr, h1, h2, h3⟩ := run_appAt o.type base v l hown u m hu hlen hbase
  unfold Oper.wp execOp
  simp only [ho, resolve, invoke, builtin, Sem.run_bind, Sem.run_pure, Result.andThen_ok, List.map_toArray, List.map_cons, List.map_nil, hs, hx, hr]
  exact h v' w' h1 h2 h3

theorem wpList_appAt {w : World} {ops : Array Oper} {rest : List Oper} {o : Oper} {a : Act} {Q : Exit → Act → World → Prop} (hgd : o.guard = none) (s x : Operand)
    (ho : o.op = .call { callee := .builtin .append, args := #[s, x], argTypes := #[22, 22] })
    (base : Nat) (v : Value) (l : List Int) (hs : a.eval s = v) (hown : Own w base v l) (u : Value) (m : List Int) (hx : a.eval x = u) (hu : Byt w u m)
    (hlen : l.length + m.length ≤ 134217728) (hbase : base ≤ w.heap.size)
    (h : ∀ v' w', Own w' base v' (l ++ m) → w.grownBy w' v.ownBlock → (v'.ownBlock = v.ownBlock ∨ v'.ownBlock = some w.heap.size) → wpList Try.prog ops Q rest (a.put o.dst v') w') : wpList Try.prog ops Q (o :: rest) a w := by
  refine wpList_plain hgd fun K hK' => ?_
  have := step_appAt (ops := ops) (K := K) (Q := Q) (E := True) hgd s x ho base v l hs hown u m hx hu hlen hbase (fun v' w' h1 h2 h3 => hK' _ _ (h v' w' h1 h2 h3))
  rw [if_pos (by simp [Region.wanted, hgd])] at this
  exact this
end Go.Proofs.Ytfhekoipnlmhoaa
