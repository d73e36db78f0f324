/- Own texts joined: CopyL, StepC, CopyN, AppZ, CopyO, OwnO, OwnOs, CopyOs, AppAt, AppIs. -/
import Derived.Test.YtkmmhlimihkgfaaGreatJa
import Derived.Test.YtkmmhlimihkgfaaGreatJb
import Derived.Test.YtkmmhlimihkgfaaGreatJc
import Derived.Test.YtkmmhlimihkgfaaGreatJd
import Derived.Test.YtkmmhlimihkgfaaGreatJe
import Derived.Test.YtkmmhlimihkgfaaGreatJf
import Derived.Test.YtkmmhlimihkgfaaGreatJg
import Derived.Test.YtkmmhlimihkgfaaGreatJh
import Derived.Deep.RegionLaw
import Derived.Shelf.Abstract
import Derived.Deep.RegionHeld3
import Derived.Deep.CutBlock
import Derived.Maps.AppendAt
import Derived.Laws.AppendOwnNone

/- impl.copyLone: a node without its kids, in memory of its own. -/
namespace Go.Proofs.YtkmmhlimihkgfaaGreat
open Go.RowKit
set_option linter.unusedVariables false
set_option maxRecDepth 100000

def Cl1 (w1 : World) (bn pr : Nat) (T0 nmv txv atv : Value) (kd : Int) (ln lt : List Int) (la : List (List Int × List Int)) (L : Array Bool) (a : Act) (w : World) : Prop :=
  ∃ b0 b1 b2 b3 b4 b5 b6 b7 b8 b9 b10 b11 b12 x3 x4 x5 x6 x7 x8 x9 x10 x11 x12 x13 x14, L = #[b0, b1, b2, b3, b4, b5, b6, b7, b8, b9, b10, b11, b12] ∧ a = { tmps := #[T0, .pointer (some ⟨bn, 0, none⟩), .pointer (some ⟨pr, 0, none⟩), x3, x4, x5, x6, x7, x8, x9, x10, x11, x12, x13, x14], defers := [] } ∧ Frm w1 w [pr] ∧ Loc w pr (if b12 = true then #[.int .i64 kd, x7, x10, x13, .slice none 0 0] else #[.int .i64 0, .slice none 0 0, .slice none 0 0, .slice none 0 0, .slice none 0 0]) 61 ∧ (b0 = true → x3 = .pointer (some ⟨bn, 0, none⟩)) ∧ (b1 = true → x4 = .int .i64 kd) ∧ (b2 = true → x5 = .pointer (some ⟨bn, 1, none⟩)) ∧ (b3 = true → x6 = nmv) ∧ (b4 = true → Own w w1.heap.size x7 ln) ∧ (b5 = true → x8 = .pointer (some ⟨bn, 2, none⟩)) ∧ (b6 = true → x9 = txv) ∧ (b7 = true → b4 = true ∧ Own w w1.heap.size x10 lt ∧ ∀ q ∈ FB x10, q ∉ FB x7) ∧ (b8 = true → x11 = .pointer (some ⟨bn, 3, none⟩)) ∧ (b9 = true → x12 = atv) ∧ (b10 = true → b7 = true ∧ ∃ Fa, OwAttrs w x13 la Fa ∧ Fa.Nodup ∧ Rng Fa w1.heap.size w.heap.size ∧ ∀ q ∈ Fa, q ∉ FB x7 ∧ q ∉ FB x10) ∧ (b11 = true → b10 = true ∧ x14 = .agg #[.int .i64 kd, x7, x10, x13, .slice none 0 0]) ∧ (b12 = true → b11 = true)
theorem Cl1_cases {i : Nat} (h : i < 13) : i = 0 ∨ i = 1 ∨ i = 2 ∨ i = 3 ∨ i = 4 ∨ i = 5 ∨ i = 6 ∨ i = 7 ∨ i = 8 ∨ i = 9 ∨ i = 10 ∨ i = 11 ∨ i = 12 := by omega

set_option maxHeartbeats 6400000 in
theorem copyLone_any (n : Nat) (w0 : World) (a b c d e : Value) (t : Tr (n + 1)) (hrd : RdNode (n + 1) w0 [a, b, c, d, e] t) (hsz : szT (n + 1) t ≤ 2097152) :
    Calls Tryz.prog 136 #[.agg #[a, b, c, d, e]] w0 fun e w' => ∃ p2 k2 p3 k3 p4 k4, e = .returned (.agg #[.int .i64 t.kind, .slice p2 t.name.length k2, .slice p3 t.text.length k3, .slice p4 t.attrs.length k4, .slice none 0 0]) ∧
      ∃ Fa, Own w' 0 (.slice p2 t.name.length k2) t.name ∧ Own w' 0 (.slice p3 t.text.length k3) t.text ∧ OwAttrs w' (.slice p4 t.attrs.length k4) t.attrs Fa ∧ (FB (.slice p2 t.name.length k2) ++ FB (.slice p3 t.text.length k3) ++ Fa).Nodup ∧ Rng (FB (.slice p2 t.name.length k2) ++ FB (.slice p3 t.text.length k3) ++ Fa) (w0.heap.size + 2) w'.heap.size ∧ Below w0.heap.size w0 w' := by
  have hszT : szT (n + 1) t = t.name.length + t.text.length + szA t.attrs + (t.kids.length + (t.kids.map (szT n)).sum) := rfl
  obtain ⟨_, _, _, _, e0, k1, k2, hb, hc, hd, he⟩ := hrd
  simp only [List.cons.injEq, and_true] at e0
  obtain ⟨rfl, rfl, rfl, rfl, rfl⟩ := e0
  obtain ⟨ab, cb, rfl, _, _⟩ := hb.shape
  obtain ⟨ac, cc, rfl, _, _⟩ := hc.shape
  obtain ⟨ad, cd, rfl, _, _⟩ := Elems.shape hd
  obtain ⟨ae, ce, rfl, _, _⟩ := Elems.shape he
  obtain ⟨l0, l1, hB1⟩ := two w0 #[.int .i64 t.kind, .slice ab t.name.length cb, .slice ac t.text.length cc, .slice ad t.attrs.length cd, .slice ae t.kids.length ce] #[.int .i64 0, .slice none 0 0, .slice none 0 0, .slice none 0 0, .slice none 0 0] 61 61
  have hal : t.attrs.length ≤ 4194304 := by unfold szA at hszT; omega
  have hnl : t.name.length ≤ 4194304 := by omega
  have htl : t.text.length ≤ 4194304 := by omega
  have hax : ∀ x ∈ t.attrs, x.1.length ≤ 4194304 ∧ x.2.length ≤ 4194304 := fun x hx => by have := attr_le hx; omega
  clear hszT
  go_enter Tryz.func136, Tryz.ntmps136
  go_wp2_with fail
  generalize hW1 : (w0.alloc (.cells #[.int .i64 t.kind, .slice ab t.name.length cb, .slice ac t.text.length cc, .slice ad t.attrs.length cd, .slice ae t.kids.length ce] 61)).alloc (.cells #[.int .i64 0, .slice none 0 0, .slice none 0 0, .slice none 0 0, .slice none 0 0] 61) = w1 at *
  have hs1 : w0.heap.size + 2 ≤ w1.heap.size := by rw [← hW1]; simp
  clear hW1
  have HAX := hide hax
  clear hax
  have hbp : w0.heap.size ∉ [w0.heap.size + 1] := by simp
  have hBw : ∀ {w : World}, Frm w1 w [w0.heap.size + 1] → Below w0.heap.size w0 w := fun f => hB1.trans (f.below hB1.size (fun q hq => by simp at hq; omega))
  refine region_inv (by kernel_rfl) (Cl1 w1 w0.heap.size (w0.heap.size + 1) (.agg #[.int .i64 t.kind, .slice ab t.name.length cb, .slice ac t.text.length cc, .slice ad t.attrs.length cd, .slice ae t.kids.length ce]) (.slice ab t.name.length cb) (.slice ac t.text.length cc) (.slice ad t.attrs.length cd) t.kind t.name t.text t.attrs) ?sz ?h0 ?step ?dn
  case sz =>
      rintro L a w ⟨b0, b1, b2, b3, b4, b5, b6, b7, b8, b9, b10, b11, b12, x3, x4, x5, x6, x7, x8, x9, x10, x11, x12, x13, x14, rfl, _⟩
      rfl
  case h0 =>
      refine ⟨false, false, false, false, false, false, false, false, false, false, false, false, false, undef, undef, undef, undef, undef, undef, undef, undef, undef, undef, undef, undef, rfl, rfl, Frm.ofBelow ((Below.refl _ _).drew) _, l1.all ((Below.refl _ _).drew), ?_⟩
      simp
  case step =>
      intro L a w i o hI hi ho
      obtain ⟨b0, b1, b2, b3, b4, b5, b6, b7, b8, b9, b10, b11, b12, x3, x4, x5, x6, x7, x8, x9, x10, x11, x12, x13, x14, rfl, rfl, h0, h1, f0, f1, f2, f3, f4, f5, f6, f7, f8, f9, f10, f11, f12⟩ := hI
      rcases Cl1_cases (ready_lt hi) with rfl | rfl | rfl | rfl | rfl | rfl | rfl | rfl | rfl | rfl | rfl | rfl | rfl
      · obtain rfl := Option.some.inj ho
        go_simp
        exact ⟨true, b1, b2, b3, b4, b5, b6, b7, b8, b9, b10, b11, b12, _, x4, x5, x6, x7, x8, x9, x10, x11, x12, x13, x14, rfl, rfl, h0, h1, (fun _ => rfl), f1, f2, f3, f4, f5, f6, f7, f8, f9, f10, f11, f12⟩
      · have g0 := ready_pred hi ho 0
        obtain rfl := Option.some.inj ho
        have e0 := f0 (g0 (by kernel_rfl))
        subst e0
        have c0 : w.cell? ⟨w0.heap.size, 0, none⟩ = some (.int .i64 t.kind) := (l0.frm h0 hbp).cell 0
        go_simp
        exact ⟨b0, true, b2, b3, b4, b5, b6, b7, b8, b9, b10, b11, b12, _, _, x5, x6, x7, x8, x9, x10, x11, x12, x13, x14, rfl, rfl, h0, h1, f0, (fun _ => rfl), f2, f3, f4, f5, f6, f7, f8, f9, f10, f11, f12⟩
      · obtain rfl := Option.some.inj ho
        go_simp
        exact ⟨b0, b1, true, b3, b4, b5, b6, b7, b8, b9, b10, b11, b12, x3, x4, _, x6, x7, x8, x9, x10, x11, x12, x13, x14, rfl, rfl, h0, h1, f0, f1, (fun _ => rfl), f3, f4, f5, f6, f7, f8, f9, f10, f11, f12⟩
      · have g2 := ready_pred hi ho 2
        obtain rfl := Option.some.inj ho
        have e2 := f2 (g2 (by kernel_rfl))
        subst e2
        have c0 : w.cell? ⟨w0.heap.size, 1, none⟩ = some (.slice ab t.name.length cb) := (l0.frm h0 hbp).cell 1
        go_simp
        exact ⟨b0, b1, b2, true, b4, b5, b6, b7, b8, b9, b10, b11, b12, x3, x4, _, _, x7, x8, x9, x10, x11, x12, x13, x14, rfl, rfl, h0, h1, f0, f1, f2, (fun _ => rfl), f4, f5, f6, f7, f8, f9, f10, f11, f12⟩
      · have g3 := ready_pred hi ho 3
        obtain rfl := Option.some.inj ho
        have e3 := f3 (g3 (by kernel_rfl))
        subst e3
        have hb4 : b4 = false := by simpa using ready_off rfl hi
        have hb12 : b12 = false := by
          cases b12 with
          | false => rfl
          | true => have := (f7 (f10 (f11 (f12 rfl)).1).1).1; rw [hb4] at this; cases this
        subst hb12
        go_simp
        refine (clone_any w _ t.name (hb.keep (hBw h0)) (by omega)).mono ?_
        rintro e w' ⟨v', rfl, ho', hb'⟩
        exact ⟨b0, b1, b2, b3, true, b5, b6, b7, b8, b9, b10, b11, false, x3, x4, x5, _, _, x8, x9, x10, x11, x12, x13, x14, rfl, rfl, h0.trans (Frm.ofBelow hb' _), h1.all hb', f0, f1, f2, f3, (fun _ => ho'.mono h0.size), f5, f6, (fun h => by rw [(f7 h).1] at hb4; cases hb4), f8, f9, (fun h => by have := (f7 (f10 h).1).1; rw [hb4] at this; cases this), (fun h => by have := (f7 (f10 (f11 h).1).1).1; rw [hb4] at this; cases this), f12⟩
      · obtain rfl := Option.some.inj ho
        go_simp
        exact ⟨b0, b1, b2, b3, b4, true, b6, b7, b8, b9, b10, b11, b12, x3, x4, x5, x6, x7, _, x9, x10, x11, x12, x13, x14, rfl, rfl, h0, h1, f0, f1, f2, f3, f4, (fun _ => rfl), f6, f7, f8, f9, f10, f11, f12⟩
      · have g5 := ready_pred hi ho 5
        obtain rfl := Option.some.inj ho
        have e5 := f5 (g5 (by kernel_rfl))
        subst e5
        have c0 : w.cell? ⟨w0.heap.size, 2, none⟩ = some (.slice ac t.text.length cc) := (l0.frm h0 hbp).cell 2
        go_simp
        exact ⟨b0, b1, b2, b3, b4, b5, true, b7, b8, b9, b10, b11, b12, x3, x4, x5, x6, x7, _, _, x10, x11, x12, x13, x14, rfl, rfl, h0, h1, f0, f1, f2, f3, f4, f5, (fun _ => rfl), f7, f8, f9, f10, f11, f12⟩
      · have g6 := ready_pred hi ho 6
        have g4 := ready_pred hi ho 4
        obtain rfl := Option.some.inj ho
        have e6 := f6 (g6 (by kernel_rfl))
        have e4 : b4 = true := g4 (by kernel_rfl)
        subst e6 e4
        have hb7 : b7 = false := by simpa using ready_off rfl hi
        have hb12 : b12 = false := by
          cases b12 with
          | false => rfl
          | true => have := (f10 (f11 (f12 rfl)).1).1; rw [hb7] at this; cases this
        subst hb12
        go_simp
        refine (clone_any w _ t.text (hc.keep (hBw h0)) (by omega)).mono ?_
        rintro e w' ⟨v', rfl, ho', hb'⟩
        exact ⟨b0, b1, b2, b3, true, b5, b6, true, b8, b9, b10, b11, false, x3, x4, x5, x6, x7, x8, _, _, x11, x12, x13, x14, rfl, rfl, h0.trans (Frm.ofBelow hb' _), h1.all hb', f0, f1, f2, f3, (fun h => (f4 h).keep hb'), f5, f6, (fun _ => ⟨rfl, ho'.mono h0.size, fun q hq hq' => by have := (ho'.lt q (by simpa [FB] using hq)).1; have := ((f4 rfl).lt q (by simpa [FB] using hq')).2; omega⟩), f8, f9, (fun h => by rw [(f10 h).1] at hb7; cases hb7), (fun h => by have := (f10 (f11 h).1).1; rw [hb7] at this; cases this), f12⟩
      · obtain rfl := Option.some.inj ho
        go_simp
        exact ⟨b0, b1, b2, b3, b4, b5, b6, b7, true, b9, b10, b11, b12, x3, x4, x5, x6, x7, x8, x9, x10, _, x12, x13, x14, rfl, rfl, h0, h1, f0, f1, f2, f3, f4, f5, f6, f7, (fun _ => rfl), f9, f10, f11, f12⟩
      · have g8 := ready_pred hi ho 8
        obtain rfl := Option.some.inj ho
        have e8 := f8 (g8 (by kernel_rfl))
        subst e8
        have c0 : w.cell? ⟨w0.heap.size, 3, none⟩ = some (.slice ad t.attrs.length cd) := (l0.frm h0 hbp).cell 3
        go_simp
        exact ⟨b0, b1, b2, b3, b4, b5, b6, b7, b8, true, b10, b11, b12, x3, x4, x5, x6, x7, x8, x9, x10, _, _, x13, x14, rfl, rfl, h0, h1, f0, f1, f2, f3, f4, f5, f6, f7, f8, (fun _ => rfl), f10, f11, f12⟩
      · have g9 := ready_pred hi ho 9
        have g7 := ready_pred hi ho 7
        obtain rfl := Option.some.inj ho
        have e9 := f9 (g9 (by kernel_rfl))
        have e7 : b7 = true := g7 (by kernel_rfl)
        have e4 := (f7 e7).1
        subst e9 e7 e4
        have hb10 : b10 = false := by simpa using ready_off rfl hi
        have hb12 : b12 = false := by
          cases b12 with
          | false => rfl
          | true => have := (f11 (f12 rfl)).1; rw [hb10] at this; cases this
        subst hb12
        go_simp
        refine (copyAttrs_any w _ t.attrs (RdAttrs.keep hd (hBw h0)) hal (unhide HAX)).mono ?_
        rintro e w' ⟨v', rfl, Fa, ho', nd', r', hb'⟩
        exact ⟨b0, b1, b2, b3, true, b5, b6, true, b8, b9, true, b11, false, x3, x4, x5, x6, x7, x8, x9, x10, x11, _, _, x14, rfl, rfl, h0.trans (Frm.ofBelow hb' _), h1.all hb', f0, f1, f2, f3, (fun h => (f4 h).keep hb'), f5, f6, (fun h => ⟨(f7 h).1, (f7 h).2.1.keep hb', (f7 h).2.2⟩), f8, f9, (fun _ => ⟨rfl, Fa, ho', nd', r'.mono h0.size (Nat.le_refl _), fun q hq => ⟨fun hq' => by have := (r' q hq).1; have := ((f4 rfl).lt q (by simpa [FB] using hq')).2; omega, fun hq' => by have := (r' q hq).1; have := ((f7 rfl).2.1.lt q (by simpa [FB] using hq')).2; omega⟩⟩), (fun h => by rw [(f11 h).1] at hb10; cases hb10), f12⟩
      · have g1 := ready_pred hi ho 1
        have g10 := ready_pred hi ho 10
        obtain rfl := Option.some.inj ho
        have e1 := f1 (g1 (by kernel_rfl))
        have e10 : b10 = true := g10 (by kernel_rfl)
        have e7 := (f10 e10).1
        have e4 := (f7 e7).1
        subst e1 e10 e7 e4
        obtain ⟨p2, k2', hv2, _, _⟩ := (f4 rfl).byt.shape
        obtain ⟨p3, k3', hv3, _, _⟩ := (f7 rfl).2.1.byt.shape
        obtain ⟨_, Fa, q1, q2, q3, q4⟩ := f10 rfl
        obtain ⟨p4, k4', hv4⟩ : ∃ p4 k4', x13 = .slice p4 t.attrs.length k4' := by
          obtain ⟨_, _, _, _, _, e4, _⟩ := q1
          exact own_nil_shape e4
        subst hv2 hv3 hv4
        go_simp
        exact ⟨b0, b1, b2, b3, true, b5, b6, true, b8, b9, true, true, b12, x3, _, x5, x6, _, x8, x9, _, x11, x12, _, _, rfl, rfl, h0, h1, f0, f1, f2, f3, f4, f5, f6, f7, f8, f9, f10, (fun _ => ⟨rfl, rfl⟩), (fun h => rfl)⟩
      · have g11 := ready_pred hi ho 11
        obtain rfl := Option.some.inj ho
        have e11 : b11 = true := g11 (by kernel_rfl)
        obtain ⟨e10, e14⟩ := f11 e11
        have e7 := (f10 e10).1
        have e4 := (f7 e7).1
        have hb12 : b12 = false := by simpa using ready_off rfl hi
        subst e4 e7 e10 e11 e14 hb12
        replace h1 : Loc w (w0.heap.size + 1) #[.int .i64 0, .slice none 0 0, .slice none 0 0, .slice none 0 0, .slice none 0 0] 61 := h1
        obtain ⟨p2, k2', hv2, _, _⟩ := (f4 rfl).byt.shape
        obtain ⟨p3, k3', hv3, _, _⟩ := (f7 rfl).2.1.byt.shape
        obtain ⟨_, Fa, r1, r2, r3, r4⟩ := f10 rfl
        obtain ⟨p4, k4', hv4⟩ : ∃ p4 k4', x13 = .slice p4 t.attrs.length k4' := by
          obtain ⟨_, _, _, _, _, e4, _⟩ := r1
          exact own_nil_shape e4
        subst hv2 hv3 hv4
        obtain ⟨y0, y1, y2, y3, y4⟩ := h1.five
        have u0 := h1.frozen 0
        have u1 := h1.frozen 1
        have u2 := h1.frozen 2
        have u3 := h1.frozen 3
        have u4 := h1.frozen 4
        obtain ⟨s1, s2⟩ := store5 h1 (.int .i64 t.kind) (.slice p2 t.name.length k2') (.slice p3 t.text.length k3') (.slice p4 t.attrs.length k4') (.slice none 0 0)
        have s3 := h0.trans s2
        have s4 := (f4 rfl).frm s2 (fun g hg hg' => by have := ((f4 rfl).lt g (by simpa [FB] using hg)).1; simp at hg'; omega)
        have s5 := (f7 rfl).2.1.frm s2 (fun g hg hg' => by have := ((f7 rfl).2.1.lt g (by simpa [FB] using hg)).1; simp at hg'; omega)
        have s6 := OwAttrs.frm r1 s2 (fun g hg hg' => by have := (r3 g hg).1; simp at hg'; omega)
        go_simp
        exact ⟨b0, b1, b2, b3, true, b5, b6, true, b8, b9, true, true, true, x3, x4, x5, x6, _, x8, x9, _, x11, x12, _, _, rfl, rfl, s3, s1, f0, f1, f2, f3, (fun _ => s4), f5, f6, (fun _ => ⟨rfl, s5, (f7 rfl).2.2⟩), f8, f9, (fun _ => ⟨rfl, Fa, s6, r2, r3.mono (Nat.le_refl _) s2.size, r4⟩), (fun _ => ⟨rfl, rfl⟩), (fun _ => rfl)⟩
  case dn =>
    intro L a w2 hI hre
    have hall := ready_all (L := L) (by obtain ⟨b0, b1, b2, b3, b4, b5, b6, b7, b8, b9, b10, b11, b12, x3, x4, x5, x6, x7, x8, x9, x10, x11, x12, x13, x14, rfl, _⟩ := hI; rfl) (by kernel_rfl) hre 13
    obtain ⟨b0, b1, b2, b3, b4, b5, b6, b7, b8, b9, b10, b11, b12, x3, x4, x5, x6, x7, x8, x9, x10, x11, x12, x13, x14, rfl, rfl, h0, h1, f0, f1, f2, f3, f4, f5, f6, f7, f8, f9, f10, f11, f12⟩ := hI
    have s12 : b12 = true := hall 12 (by omega) (by decide)
    have e11 := f12 s12
    obtain ⟨e10, e14⟩ := f11 e11
    have e7 := (f10 e10).1
    have e4 := (f7 e7).1
    subst s12 e11 e10 e7 e4
    replace h1 : Loc w2 (w0.heap.size + 1) #[.int .i64 t.kind, x7, x10, x13, .slice none 0 0] 61 := h1
    have r0 := f4 rfl
    obtain ⟨_, r1, r1d⟩ := f7 rfl
    obtain ⟨_, Fa, r2, r3, r4, r5⟩ := f10 rfl
    have hB2 := hBw h0
    clear hall f0 f1 f2 f3 f4 f5 f6 f7 f8 f9 f10 f11 f12 hre h0
    obtain ⟨p2, k2', hv2, _, _⟩ := r0.byt.shape
    obtain ⟨p3, k3', hv3, _, _⟩ := r1.byt.shape
    obtain ⟨p4, k4', hv4⟩ : ∃ p4 k4', x13 = .slice p4 t.attrs.length k4' := by
      obtain ⟨_, _, _, _, _, e4, _⟩ := r2
      exact own_nil_shape e4
    subst hv2 hv3 hv4
    obtain ⟨g0, g1, g2, g3, g4⟩ := h1.five
    have nd : (FB (.slice p2 t.name.length k2') ++ FB (.slice p3 t.text.length k3') ++ Fa).Nodup := by
      refine List.nodup_append.2 ⟨List.nodup_append.2 ⟨FB_nodup _, FB_nodup _, fun a ha b hb e => r1d b hb (e ▸ ha)⟩, r3, fun a ha b hb e => ?_⟩
      subst e
      rcases List.mem_append.1 ha with ha | ha
      · exact (r5 a hb).1 ha
      · exact (r5 a hb).2 ha
    have rg : Rng (FB (.slice p2 t.name.length k2') ++ FB (.slice p3 t.text.length k3') ++ Fa) (w0.heap.size + 2) w2.heap.size := ((r0.rng.mono hs1 (Nat.le_refl _)).app (r1.rng.mono hs1 (Nat.le_refl _))).app (r4.mono hs1 (Nat.le_refl _))
    have HF := hide (And.intro (r0.mono (base' := 0) (Nat.zero_le _)) (And.intro (r1.mono (base' := 0) (Nat.zero_le _)) (And.intro r2 (And.intro nd (And.intro rg hB2)))))
    clear r0 r1 r1d r2 r3 r4 r5 nd rg hB2
    go_wp2_with fail
    obtain ⟨q1, q2, q3, q4, q5, q6⟩ := unhide HF
    exact bodyPost_ret (v := .agg #[.int .i64 t.kind, .slice p2 t.name.length k2', .slice p3 t.text.length k3', .slice p4 t.attrs.length k4', .slice none 0 0]) (by simp [results, Tryz.results136, go_sem, g0, g1, g2, g3, g4]) rfl ⟨p2, k2', p3, k3', p4, k4', rfl, q1, q2, Fa, q3, by rw [← List.append_assoc]; exact q4, by rw [← List.append_assoc]; exact q5, q6⟩
end Go.Proofs.YtkmmhlimihkgfaaGreat

/- A call of a Go function as one step of a region that draws its order, by the callee's contract. No program. -/
namespace Go.Proofs.YtkmmhlimihkgfaaGreat
open Go.RowKit
set_option linter.unusedVariables false

theorem step_call {P : Program} {ops : Array Oper} {o : Oper} {a : Act} {w : World} {K : Act → World → Prop} {Q : Exit → Act → World → Prop} {E : Prop} (hgd : o.guard = none) (f : FuncId) (xs : List Operand) (tys : Array TypeId)
    (ho : o.op = .call { callee := .value (.func f), args := xs.toArray, argTypes := tys }) (he : ∀ args w, (callFunc f args).run P w = .ok (.enter f args) w) (args : List Value) (hx : xs.map a.eval = args) {R : Ending → World → Prop} (hc : Calls P f args.toArray w R)
    (h : ∀ e w', R e w' → ∃ v, e = .returned v ∧ K (a.put o.dst v) w') : if Region.wanted o (yielded ops a.tmps) = true then Oper.wp P o a w K Q else E := by
  have hw : Region.wanted o (yielded ops a.tmps) = true := by simp [Region.wanted, hgd]
  rw [if_pos hw]
  subst hx
  unfold Oper.wp execOp
  simp [ho, resolve, invoke, go_sem, he]
  refine hc.mono ?_
  intro e w' hR
  obtain ⟨v, rfl, hk⟩ := h e w' hR
  exact hk
end Go.Proofs.YtkmmhlimihkgfaaGreat

/- impl.copyNode tells the tree, in memory of its own. -/
namespace Go.Proofs.YtkmmhlimihkgfaaGreat
open Go.RowKit Go.Shelf
set_option linter.unusedVariables false
set_option maxRecDepth 100000

/-- What copyNode tells of a tree. -/
def CnAt (n : Nat) (t : Tr n) : Prop := ∀ (w : World) (a b c d e : Value), RdNode n w [a, b, c, d, e] t → szT n t ≤ 2097152 →
    Calls Tryz.prog 105 #[.agg #[a, b, c, d, e]] w fun e w' => ∃ (kd : Int) (a1 : Option Addr) (n1 c1 : Nat) (a2 : Option Addr) (n2 c2 : Nat) (a3 : Option Addr) (n3 c3 : Nat) (a4 : Option Addr) (n4 c4 : Nat), e = .returned (.agg #[.int .i64 kd, .slice a1 n1 c1, .slice a2 n2 c2, .slice a3 n3 c3, .slice a4 n4 c4]) ∧ ∃ F, OwNode n w' [.int .i64 kd, .slice a1 n1 c1, .slice a2 n2 c2, .slice a3 n3 c3, .slice a4 n4 c4] t F ∧ F.Nodup ∧ Rng F w.heap.size w'.heap.size ∧ Below w.heap.size w w'

set_option maxHeartbeats 12800000 in
theorem copyNode_core (n : Nat) (t : Tr (n + 2)) (H : ∀ k ∈ t.kids, CnAt (n + 1) k) : CnAt (n + 2) t := by
  intro w0 a b c d e hrd hsz
  have hszT : szT (n + 2) t = t.name.length + t.text.length + szA t.attrs + (t.kids.length + (t.kids.map (szT (n + 1))).sum) := rfl
  have HRD := hide hrd
  obtain ⟨_, _, _, _, e0, k1, k2, hb, hc, hd, he⟩ := hrd
  simp only [List.cons.injEq, and_true] at e0
  obtain ⟨rfl, rfl, rfl, rfl, rfl⟩ := e0
  obtain ⟨ab, cb, rfl, _, _⟩ := hb.shape
  obtain ⟨ac, cc, rfl, _, _⟩ := hc.shape
  obtain ⟨ad, cd, rfl, _, _⟩ := Elems.shape hd
  obtain ⟨ae, ce, rfl, _, _⟩ := Elems.shape he
  obtain ⟨l0, l1, hB1⟩ := two w0 #[.int .i64 t.kind, .slice ab t.name.length cb, .slice ac t.text.length cc, .slice ad t.attrs.length cd, .slice ae t.kids.length ce] #[.int .i64 0, .slice none 0 0, .slice none 0 0, .slice none 0 0, .slice none 0 0] 61 61
  have hs1 : ((w0.alloc (.cells #[.int .i64 t.kind, .slice ab t.name.length cb, .slice ac t.text.length cc, .slice ad t.attrs.length cd, .slice ae t.kids.length ce] 61)).alloc (.cells #[.int .i64 0, .slice none 0 0, .slice none 0 0, .slice none 0 0, .slice none 0 0] 61)).heap.size = w0.heap.size + 2 := by simp
  have hkl : t.kids.length ≤ 2097152 := by omega
  have hmK : (t.kids.length : Int) ≤ 9223372036854775807 := by omega
  have HL := hide (fun W (hW : Below w0.heap.size w0 W) => copyLone_any (n + 1) W _ _ _ _ _ t ((unhide HRD).keep hW) hsz)
  have HSZ := hide hszT
  clear hszT hb hc hd HRD
  go_enter Tryz.func105, Tryz.ntmps105
  go_wp2_with fail
  generalize ((w0.alloc (.cells #[.int .i64 t.kind, .slice ab t.name.length cb, .slice ac t.text.length cc, .slice ad t.attrs.length cd, .slice ae t.kids.length ce] 61)).alloc (.cells #[.int .i64 0, .slice none 0 0, .slice none 0 0, .slice none 0 0, .slice none 0 0] 61)) = wq at *
  refine (unhide HL wq hB1).mono ?_
  rintro e w1 ⟨p2, k2', p3, k3', p4, k4', rfl, hh⟩
  obtain ⟨Fa, o1, o2, o3, nd, rg, hB⟩ : ∃ Fa, Own w1 0 (.slice p2 t.name.length k2') t.name ∧ Own w1 0 (.slice p3 t.text.length k3') t.text ∧ OwAttrs w1 (.slice p4 t.attrs.length k4') t.attrs Fa ∧ (FB (.slice p2 t.name.length k2') ++ FB (.slice p3 t.text.length k3') ++ Fa).Nodup ∧ Rng (FB (.slice p2 t.name.length k2') ++ FB (.slice p3 t.text.length k3') ++ Fa) (wq.heap.size + 2) w1.heap.size ∧ Below wq.heap.size wq w1 := by
    first
    | exact hh
    | (obtain ⟨q1, q2, Fa, q3, q4, q5, q6⟩ := hh; exact ⟨Fa, q1, q2, q3, by rw [List.append_assoc]; exact q4, by rw [List.append_assoc]; exact q5, q6⟩)
  clear hh HL
  have hB2 := bstep hB1 hB
  have l02 := l0.all hB
  have l12 := l1.all hB
  have hsw := hB.size
  have hBo : Below w1.heap.size w1 (w1.alloc (.cells #[.int .i64 t.kind, .slice p2 t.name.length k2', .slice p3 t.text.length k3', .slice p4 t.attrs.length k4', .slice none 0 0] 61)) := (Below.refl _ _).alloc (Nat.le_refl _) _
  have lo := Loc.made w1 #[.int .i64 t.kind, .slice p2 t.name.length k2', .slice p3 t.text.length k3', .slice p4 t.attrs.length k4', .slice none 0 0] 61
  have hO : OutAt n (w0.heap.size + 2) (w1.alloc (.cells #[.int .i64 t.kind, .slice p2 t.name.length k2', .slice p3 t.text.length k3', .slice p4 t.attrs.length k4', .slice none 0 0] 61)) w1.heap.size t.kind (.slice p2 t.name.length k2') (.slice p3 t.text.length k3') (.slice p4 t.attrs.length k4') (.slice none 0 0) t.name t.text t.attrs (t.kids.take 0) Fa [] := by
    refine ⟨lo, o1.keep hBo, o2.keep hBo, OwAttrs.frm o3 (Frm.ofBelow hBo []) (fun _ _ => by simp), OwElems.naught _ _ _ _, by rw [List.append_nil]; exact nd, fun q hq => ?_⟩
    rw [List.append_nil] at hq
    have := rg q hq
    have := hBo.size
    exact ⟨by omega, by omega, by omega⟩
  have LL := hide (And.intro hO (And.intro (bstep hB2 hBo) (And.intro (l02.all hBo) (l12.all hBo))))
  have hpo0 : w0.heap.size + 2 ≤ w1.heap.size := by omega
  obtain ⟨x0, x1, x2, x3, x4⟩ := (l02.alloc (.cells #[.int .i64 t.kind, .slice p2 t.name.length k2', .slice p3 t.text.length k3', .slice p4 t.attrs.length k4', .slice none 0 0] 61)).five
  clear hO hB hB1 hB2 hBo lo l0 l1 l02 l12 o1 o2 o3 nd rg
  go_wp2_with fail
  clear x0 x1 x2 x3 x4
  obtain ⟨hO, hB2, lb2, lr2⟩ := unhide LL
  clear LL
  generalize (w1.alloc (.cells #[.int .i64 t.kind, .slice p2 t.name.length k2', .slice p3 t.text.length k3', .slice p4 t.attrs.length k4', .slice none 0 0] 61)) = w2 at *
  generalize w1.heap.size = po at *
  have hpb : ¬ w0.heap.size = po := by omega
  have hpr : ¬ w0.heap.size + 1 = po := by omega
  obtain ⟨i0, hi0, hz0, hz1, hz2⟩ := info_parts Tryz.info61
  go_loopw [5, 11] (fun _ i wr => ∃ j : Nat, j ≤ t.kids.length ∧ i = .int .i64 j ∧ ∃ ka km kc Fk, OutAt n (w0.heap.size + 2) wr po t.kind (.slice p2 t.name.length k2') (.slice p3 t.text.length k3') (.slice p4 t.attrs.length k4') (.slice ka km kc) t.name t.text t.attrs (t.kids.take j) Fa Fk ∧ Below w0.heap.size w0 wr ∧ Loc wr w0.heap.size #[.int .i64 t.kind, .slice ab t.name.length cb, .slice ac t.text.length cc, .slice ad t.attrs.length cd, .slice ae t.kids.length ce] 61 ∧ Loc wr (w0.heap.size + 1) #[.int .i64 0, .slice none 0 0, .slice none 0 0, .slice none 0 0, .slice none 0 0] 61) (fun _ i _ => t.kids.length - (intOf i).toNat)
  case atStart => exact ⟨0, Nat.zero_le _, rfl, none, 0, 0, [], hO, hB2, lb2, lr2⟩
  case round =>
    clear hO hB2 lb2 lr2
    obtain ⟨j, hj, rfl, ka, km, kc, Fk, hO, hBr, lb, lr⟩ := hrel
    have hndk : Fk.Nodup := (List.nodup_append.1 hO.nodup).2.1
    have hFlt : ∀ q ∈ Fk, q < wr.heap.size := fun q hq => (hO.rng q (List.mem_append_right _ hq)).2.1
    have hFlo : ∀ q ∈ Fk, w0.heap.size + 2 ≤ q := fun q hq => (hO.rng q (List.mem_append_right _ hq)).1
    have hpF : po ∉ Fk := fun h => (hO.rng po (List.mem_append_right _ h)).2.2 rfl
    have hdF : ∀ q ∈ FB (.slice p2 t.name.length k2') ++ FB (.slice p3 t.text.length k3') ++ Fa, q ∉ Fk := fun q hq hq' => (List.nodup_append.1 hO.nodup).2.2 q hq q hq' rfl
    have hkvF : ∀ q ∈ FB (.slice ka km kc), q ∈ Fk := fun q hq => by
      obtain ⟨_, _, _, _, _, _, rfl⟩ := hO.kids
      exact List.mem_append_left _ hq
    have hbF : w0.heap.size ∉ Fk := fun h => by have := hFlo _ h; omega
    have hrF : w0.heap.size + 1 ∉ Fk := fun h => by have := hFlo _ h; omega
    have hpo := hO.loc.lt
    by_cases hjl : j < t.kids.length
    · obtain ⟨pb, poff, hpa, hpl, hun, _, hC⟩ := he.at hjl
      clear hun
      subst hpa
      obtain ⟨kid, hkid⟩ : ∃ kid, kid = t.kids[j] := ⟨_, rfl⟩
      have hmem : kid ∈ t.kids := by rw [hkid]; exact List.getElem_mem hjl
      have HTK := hide (show t.kids.take (j + 1) = t.kids.take j ++ [kid] by rw [List.take_succ_eq_append_getElem hjl, ← hkid])
      have hlj : (t.kids.take j).length = j := by rw [List.length_take]; omega
      obtain ⟨d0, d1, d2, d3, d4, e0, e1, e2, e3, e4, hx⟩ := five_of hC
      rw [← hkid] at hx
      replace e0 := (hBr.cell (p := ⟨pb, poff + j * 5, none⟩) hpl).trans e0
      replace e1 := (hBr.cell (p := ⟨pb, poff + j * 5 + 1, none⟩) hpl).trans e1
      replace e2 := (hBr.cell (p := ⟨pb, poff + j * 5 + 2, none⟩) hpl).trans e2
      replace e3 := (hBr.cell (p := ⟨pb, poff + j * 5 + 3, none⟩) hpl).trans e3
      replace e4 := (hBr.cell (p := ⟨pb, poff + j * 5 + 4, none⟩) hpl).trans e4
      obtain ⟨_, _, _, _, ee, kk1, kk2, hkb, hkc, hkd, hke⟩ := id hx
      simp only [List.cons.injEq, and_true] at ee
      obtain ⟨rfl, rfl, rfl, rfl, rfl⟩ := ee
      obtain ⟨ab', cb', rfl, _, _⟩ := hkb.shape
      obtain ⟨ac', cc', rfl, _, _⟩ := hkc.shape
      obtain ⟨ad', cd', rfl, _, _⟩ := Elems.shape hkd
      obtain ⟨ae', ce', rfl, _, _⟩ := Elems.shape hke
      have hksz : szT (n + 1) kid ≤ 2097152 := by
        have h1 : szT (n + 1) kid ≤ (t.kids.map (szT (n + 1))).sum := sum_mem (List.mem_map.2 ⟨kid, hmem, rfl⟩)
        have h2 := unhide HSZ
        omega
      have hjl' : (j : Int) < (t.kids.length : Int) := by omega
      have hj0 : (0 : Int) ≤ (j : Int) := by omega
      have hBa : Below wr.heap.size wr (wr.alloc (.cells #[.int .i64 kid.kind, .slice ab' kid.name.length cb', .slice ac' kid.text.length cc', .slice ad' kid.attrs.length cd', .slice ae' kid.kids.length ce'] 61)) := (Below.refl _ _).alloc (Nat.le_refl _) _
      have lk := Loc.made wr #[.int .i64 kid.kind, .slice ab' kid.name.length cb', .slice ac' kid.text.length cc', .slice ad' kid.attrs.length cd', .slice ae' kid.kids.length ce'] 61
      have hOa := hO.keep hBa
      have hBw := bstep hBr hBa
      have lra := lr.all hBa
      have lba := lb.all hBa
      have HX := hide hx
      have HK := hide (H kid hmem)
      have HS6 := hide hksz
      have hloa : w0.heap.size + 2 ≤ (wr.alloc (.cells #[.int .i64 kid.kind, .slice ab' kid.name.length cb', .slice ac' kid.text.length cc', .slice ad' kid.attrs.length cd', .slice ae' kid.kids.length ce'] 61)).heap.size := by have := hBa.size; omega
      clear hC hx hmem hkid he H hkb hkc hkd hke hO lr lb
      go_wp2_with fail
      generalize (wr.alloc (.cells #[.int .i64 kid.kind, .slice ab' kid.name.length cb', .slice ac' kid.text.length cc', .slice ad' kid.attrs.length cd', .slice ae' kid.kids.length ce'] 61)) = wa at *
      have hdr : Below wa.heap.size wa wa.drew := (Below.refl _ _).drew
      have hOd := hOa.keep hdr
      have lkd := lk.all hdr
      have hBd := hBw.drew
      have c4d : wa.drew.cell? ⟨po, 4, none⟩ = some (.slice ka km kc) := hOd.loc.cell 4
      have k0 : wa.drew.cell? ⟨wr.heap.size, 0, none⟩ = some (.int .i64 kid.kind) := lkd.cell 0
      have k1' : wa.drew.cell? ⟨wr.heap.size, 1, none⟩ = some (.slice ab' kid.name.length cb') := lkd.cell 1
      have k2q : wa.drew.cell? ⟨wr.heap.size, 2, none⟩ = some (.slice ac' kid.text.length cc') := lkd.cell 2
      have k3q : wa.drew.cell? ⟨wr.heap.size, 3, none⟩ = some (.slice ad' kid.attrs.length cd') := lkd.cell 3
      have k4q : wa.drew.cell? ⟨wr.heap.size, 4, none⟩ = some (.slice ae' kid.kids.length ce') := lkd.cell 4
      have he2 : ∀ args w, (callFunc 105 args).run Tryz.prog w = .ok (.enter 105 args) w := enters_of Tryz.func105 (by kernel_rfl) rfl
      clear e0 e1 e2 e3 e4
      go_region_law
        (first
          | (refine step_call (by rfl) 105 [.tmp 17] #[61] (by rfl) he2 [.agg #[.int .i64 kid.kind, .slice ab' kid.name.length cb', .slice ac' kid.text.length cc', .slice ad' kid.attrs.length cd', .slice ae' kid.kids.length ce']] (by rfl) (unhide HK wa.drew _ _ _ _ _ ((unhide HX).keep hBd) (unhide HS6)) ?_; clear HK; rintro e w7 ⟨kd, a1, n1, c1, a2, n2, c2, a3, n3, c3, a4, n4, cz, rfl, G, hG, ndG, rG, hB7⟩; have c47 : w7.cell? ⟨po, 4, none⟩ = some (.slice ka km kc) := (hOd.loc.all hB7).cell 4; have hb8 : Below w7.heap.size w7 (w7.alloc (.cells #[.int .i64 kd, .slice a1 n1 c1, .slice a2 n2 c2, .slice a3 n3 c3, .slice a4 n4 cz] 61)) := (Below.refl _ _).alloc (Nat.le_refl _) _; have c48 : (w7.alloc (.cells #[.int .i64 kd, .slice a1 n1 c1, .slice a2 n2 c2, .slice a3 n3 c3, .slice a4 n4 cz] 61)).cell? ⟨po, 4, none⟩ = some (.slice ka km kc) := ((hOd.loc.all hB7).all hb8).cell 4; refine ⟨_, rfl, ?_⟩)
          | (refine step_push (R := OwNode (n + 1)) (fun h f d => OwNode.frm h f d) (by rfl) (.tmp 16) (.tmp 19) 59 (by rfl) 61 i0 (.agg #[.int .i64 0, .slice none 0 0, .slice none 0 0, .slice none 0 0, .slice none 0 0]) 5 104 Tryz.underlying59 hi0 hz0 hz1 hz2 rfl (by decide) _ (t.kids.take j) Fk (by rfl) (((hOd.keep hB7).keep hb8).kids) hndk ⟨w7.heap.size, 0, none⟩ 1 [.int .i64 kd, .slice a1 n1 c1, .slice a2 n2 c2, .slice a3 n3 c3, .slice a4 n4 cz] kid G (by rfl) rfl (five_lies w7 _ _ _ _ _ _) (by intro y hy; simp at hy; rcases hy with rfl | rfl | rfl | rfl | rfl <;> rfl) (hG.keep hb8) ndG (fun g hg hg' => by have h1 := (hOd.rng g (List.mem_append_right _ hg)).2.1; have := (rG g hg').1; omega) (fun q hq => by have h1 := hB7.size; have h2 := hb8.size; rcases hq with hq | hq; (have := (hOd.rng q (List.mem_append_right _ hq)).2.1; omega); (have := (rG q hq).2; omega)) (by rw [hlj]; unfold maxLen; omega) (by rw [hlj]; omega) ?_; intro g9 cap9 w9 F9 hF9 hN9 hM9 hf9 hg9; generalize ((t.kids.take j).length + 1) = n9 at hF9 ⊢; have hf9' : Frm wa.drew w9 Fk := ((Frm.ofBelow (bstep hB7 hb8) Fk)).more hf9 (fun q hq => .inl (hkvF q hq)); have c49 : w9.cell? ⟨po, 4, none⟩ = some (.slice ka km kc) := (hOd.loc.frm hf9' hpF).cell 4; have z49 := (hOd.loc.frm hf9' hpF).frozen 4))
      all_goals
        have hfq : ∀ q ∈ F9, (q ∈ Fk ∨ wa.drew.heap.size ≤ q) ∧ q < w9.heap.size := fun q hq => by
          refine ⟨?_, OwElems.lt hF9 (fun C x G h => OwNode.lt h) q hq⟩
          have s7 := hB7.size
          rcases hM9 q hq with h | h | h
          · exact .inl h
          · have := (rG q h).1; right; omega
          · right; simp only [World.size_alloc] at h; omega
        have hO9 := hOd.setKids hf9' hpF hdF hF9 hN9 hfq hloa
        have hB9 : Below w0.heap.size w0 w9 := hBd.trans (hf9'.below hBd.size (fun q hq => by have := hFlo q hq; omega))
        have hBX := hB9.setCell (p := ⟨po, 4, none⟩) (by show w0.heap.size ≤ po; omega) (.slice (some ⟨g9, 0, none⟩) n9 cap9)
        have lb9 := ((lba.all hdr).frm hf9' hbF).other po 4 (.slice (some ⟨g9, 0, none⟩) n9 cap9) hpb
        have lr9 := ((lra.all hdr).frm hf9' hrF).other po 4 (.slice (some ⟨g9, 0, none⟩) n9 cap9) hpr
        have HO9 := hide (show OutAt n (w0.heap.size + 2) (w9.setCell ⟨po, 4, none⟩ (.slice (some ⟨g9, 0, none⟩) n9 cap9)) po t.kind (.slice p2 t.name.length k2') (.slice p3 t.text.length k3') (.slice p4 t.attrs.length k4') (.slice (some ⟨g9, 0, none⟩) n9 cap9) t.name t.text t.attrs (t.kids.take (j + 1)) Fa F9 by
          rw [unhide HTK]
          exact hO9)
        clear hO9 hOd hOa
        go_wp2_with fail
        go_roundw
        case rel => exact ⟨j + 1, by omega, by go_num, _, _, _, F9, unhide HO9, hBX, lb9, lr9⟩
        case measure => simp [intOf]; omega
    · have hke : t.kids.take j = t.kids := List.take_of_length_le (by omega)
      rw [hke] at hO
      have hjl' : ¬ (j : Int) < (t.kids.length : Int) := by omega
      obtain ⟨y0', y1', y2', y3', y4'⟩ := hO.loc.five
      obtain ⟨g0, g1, g2, g3, g4⟩ := lr.five
      have i0' := lr.frozen 0
      have i1' := lr.frozen 1
      have i2' := lr.frozen 2
      have i3' := lr.frozen 3
      have i4' := lr.frozen 4
      obtain ⟨lX, fX⟩ := store5 lr (.int .i64 t.kind) (.slice p2 t.name.length k2') (.slice p3 t.text.length k3') (.slice p4 t.attrs.length k4') (.slice ka km kc)
      have hOX := hO.frm fX (by simpa using fun e => hpr e.symm) (fun q hq hq' => by
        have := (hO.rng q hq).1
        have e : q = w0.heap.size + 1 := by simpa using hq'
        omega)
      have hBX := hBr.trans (fX.below hBr.size (fun q hq => by have e : q = w0.heap.size + 1 := (by simpa using hq); omega))
      have fin := hOX.node k1 k2
      have HF := hide (And.intro fin (And.intro hOX.nodup (And.intro hOX.rng hBX)))
      clear fin hOX hBX fX hO he H
      go_wp2_with fail
      obtain ⟨fin, nd, rg, bel⟩ := unhide HF
      exact bodyPost_ret (v := .agg #[.int .i64 t.kind, .slice p2 t.name.length k2', .slice p3 t.text.length k3', .slice p4 t.attrs.length k4', .slice ka km kc]) (by simp [results, Tryz.results105, go_sem, g0, g1, g2, g3, g4]) rfl ⟨t.kind, p2, _, k2', p3, _, k3', p4, _, k4', ka, km, kc, rfl, _, fin, nd, fun q hq => ⟨by have := (rg q hq).1; omega, (rg q hq).2.1⟩, bel⟩

theorem cn_all : ∀ (n : Nat) (t : Tr n), CnAt n t
  | 0, t => t.elim
  | 1, t => by
    intro w a b c d e hrd hsz
    have hk := no_kids (t := t)
    have hrd2 : RdNode 2 w [a, b, c, d, e] (up1 t) := by
      obtain ⟨a1, b1, c1, d1, e0, k1, k2, hb, hc, hd, he⟩ := hrd
      rw [hk] at he
      exact ⟨a1, b1, c1, d1, e0, k1, k2, hb, hc, hd, elems_nil he⟩
    have hsz2 : szT 2 (up1 t) ≤ 2097152 := by
      have h1 : szT 2 (up1 t) = t.name.length + t.text.length + szA t.attrs + (([] : List (Tr 1)).length + (([] : List (Tr 1)).map (szT 1)).sum) := rfl
      have h2 : szT 1 t = t.name.length + t.text.length + szA t.attrs + (t.kids.length + (t.kids.map (szT 0)).sum) := rfl
      rw [h1]
      simp only [List.length_nil, List.map_nil, List.sum_nil]
      omega
    refine (copyNode_core 0 (up1 t) (fun k hm => by cases hm) w a b c d e hrd2 hsz2).mono ?_
    rintro e' w' ⟨kd, a1, n1, c1, a2, n2, c2, a3, n3, c3, a4, n4, c4, rfl, F, hO, nd, rg, hB⟩
    refine ⟨kd, a1, n1, c1, a2, n2, c2, a3, n3, c3, a4, n4, c4, rfl, F, ?_, nd, rg, hB⟩
    obtain ⟨a', b', c', d', Fc, Fd, e1, k1, k2, o1, o2, o3, o4, o5⟩ := hO
    refine ⟨a', b', c', d', Fc, Fd, e1, k1, k2, o1, o2, o3, ?_, o5⟩
    show OwElems w' 61 5 d' t.kids (OwNode 0 w') Fd
    rw [hk]
    exact owElems_nil (show OwElems w' 61 5 d' ([] : List (Tr 1)) (OwNode 1 w') Fd from o4)
  | n + 2, t => copyNode_core n t (fun k hm => cn_all (n + 1) k)
end Go.Proofs.YtkmmhlimihkgfaaGreat

/- An append of a readable row of ints to an owned one, as one law for the walk. -/
namespace Go.Proofs.YtkmmhlimihkgfaaGreat
open Go.RowKit
set_option linter.unusedVariables false

/-- 'append(out, src...)': out owned, src readable: what comes is owned, and no block but out's own has been written. -/
theorem wpList_appZ {w : World} {ops : Array Oper} {rest : List Oper} {o : Oper} {a : Act} {Q : Exit → Act → World → Prop} (hgd : o.guard = none) (s x : Operand)
    (ho : o.op = .call { callee := .builtin .append, args := #[s, x], argTypes := #[26, 26] })
    (base : Nat) (v : Value) (l : List Int) (hs : a.eval s = v) (hown : OwnZ w base v l) (u : Value) (m : List Int) (hx : a.eval x = u) (hu : Ints w u m)
    (hlen : l.length + m.length ≤ 134217728) (hbase : base ≤ w.heap.size)
    (h : ∀ v' w', OwnZ w' base v' (l ++ m) → w.grownBy w' v.ownBlock → wpList Tryz.prog ops Q rest (a.put o.dst v') w') : wpList Tryz.prog ops Q (o :: rest) a w := by
  obtain ⟨i0, hi, hz0, hz1, hz2⟩ := info_parts Tryz.info3
  have hfull : ∀ (ad : Addr) (c : Nat), a.eval x = .slice (some ad) m.length c → (∀ j, j < m.length → w.cell? (ad.add j) = some (.int .i64 (m.getD j 0))) → wpList Tryz.prog ops Q (o :: rest) a w := by
    intro ad c hx' hc
    refine wpList_append_own _ hgd s x 26 ho base 3 i0 (.int .i64 0) 1 8 Tryz.underlying26 hi hz0 hz1 hz2 rfl (by decide) v l.length (valz l) hs hown.2 ad m.length c (valz m) hx' (by rw [valz_len]; omega) ?_ (valz_one m) (by unfold maxLen; omega) (by omega) hbase ?_
    · intro j y hj
      have hlt : j < m.length := by
        by_cases hlt : j < m.length
        · exact hlt
        · rw [List.getElem?_eq_none (by rw [valz_len]; omega)] at hj; cases hj
      rw [valz_at hlt] at hj
      rw [hc j hlt]; exact hj
    · intro v' w' h1 h2 _
      refine h v' w' ⟨hown.1.app hu.1, ?_⟩ h2
      rw [valz_app, List.length_append]; exact h1
  obtain ⟨hok, hm, ⟨rfl, rfl⟩ | ⟨y, cap, rfl, hc, rfl⟩ | ⟨b, off, cap, rfl, h1, h2, h3, h4, h5⟩⟩ := hu
  · refine wpList_append_own_none hgd s x 26 ho base 3 i0 1 Tryz.underlying26 hi v l.length (valz l) hs hown.2 hx ?_
    exact h v w (by rw [List.append_nil]; exact hown) (World.grownBy.refl _ _)
  · exact hfull y cap hx (fun j hj => by simp at hj)
  · exact hfull ⟨b, off, none⟩ cap hx (fun j hj => by rw [add_plain]; exact h5 j hj)

/-- A new block of one int. -/
theorem int_one (w : World) (x : Int) (h0 : -9223372036854775808 ≤ x) (h1 : x ≤ 9223372036854775807) : Ints (w.alloc (.cells #[.int .i64 x] 3)) (.slice (some ⟨w.heap.size, 0, none⟩) 1 1) [x] := by
  refine ⟨okZ.one h0 h1, by simp [maxLen], .inr (.inr ⟨w.heap.size, 0, 1, rfl, by simp, by simp [maxLen], by simp, by simp, fun i hi => ?_⟩)⟩
  have e : i = 0 := by simpa using hi
  subst e
  simp
/-- No row at all. -/
theorem ownz_nil (w : World) (base : Nat) : OwnZ w base (.slice none 0 0) [] := ⟨okZ_nil, rfl, .inl ⟨rfl, rfl⟩⟩
theorem OwnZ.alloc {w : World} {base : Nat} {v : Value} {l : List Int} (h : OwnZ w base v l) (o : Obj) : OwnZ (w.alloc o) base v l := ⟨h.1, h.2.alloc o⟩
theorem Ints.alloc {w : World} {v : Value} {l : List Int} (h : Ints w v l) (o : Obj) : Ints (w.alloc o) v l := h.keep ((Below.refl _ _).alloc (Nat.le_refl _) o)
/-- A block of the call's own that was there when the row was made is no older than 'base'. -/
theorem OwnZ.base_le {w : World} {base : Nat} {v : Value} {l : List Int} (h : OwnZ w base v l) : ∀ g, v.ownBlock = some g → base ≤ g := fun g hg => (h.lt g hg).1

end Go.Proofs.YtkmmhlimihkgfaaGreat

/- impl.copyKey, impl.copyOp. -/
namespace Go.Proofs.YtkmmhlimihkgfaaGreat
open Go.RowKit
set_option linter.unusedVariables false
set_option maxRecDepth 100000

theorem copyKey_any (w : World) (v : Value) (l : List Int) (h : Ints w v l) (hl : l.length ≤ 67108864) :
    Calls Tryz.prog 124 #[v] w fun e w' => ∃ a c, e = .returned (.slice a l.length c) ∧ OwnZ w' w.heap.size (.slice a l.length c) l ∧ Below w.heap.size w w' := by
  have HH := hide h
  obtain ⟨a, c, rfl, _, _⟩ := h.shape
  clear h
  go_enter Tryz.func124, Tryz.ntmps124
  go_wp2_with (at_builtin; refine wpList_appZ rfl _ _ rfl w.heap.size _ [] rfl (ownz_nil _ _) _ l rfl (unhide HH) ?c1 ?c2 ?_)
  case c1 => simp; omega
  case c2 => exact Nat.le_refl _
  intro v1 w1 ho hg
  try rw [List.nil_append] at ho
  obtain ⟨a1, c1, rfl, _, _⟩ := ho.ints.shape
  have hB := Below.ofGrown hg
  go_wp2_with fail
  go_ret
  exact ⟨_, _, rfl, ho, hB⟩
theorem clone_own (w : World) (v : Value) (l : List Int) (h : Byt w v l) (hl : l.length ≤ 67108864) :
    Calls Tryz.prog 125 #[v] w fun e w' => ∃ a c, e = .returned (.slice a l.length c) ∧ Own w' w.heap.size (.slice a l.length c) l ∧ Below w.heap.size w w' := by
  refine (clone_any w v l h hl).mono ?_
  rintro e w' ⟨v', rfl, ho, hB⟩
  obtain ⟨a, c, rfl, _, _⟩ := ho.byt.shape
  exact ⟨a, c, rfl, ho, hB⟩
theorem copy_fin {w x0 w1 w2 w3 : World} {o : OpV} {ak an tt a1 a2 a3 : Option Addr} {ck cn ct c1 c2 c3 : Nat} (hx0 : w.heap.size + 2 ≤ x0.heap.size) (hB0 : Below w.heap.size w x0) (lo : Loc x0 w.heap.size #[.int .i64 o.kind, .int .i64 o.atN, .int .i64 o.atR, .int .i64 o.nodeN, .int .i64 o.nodeR, .int .i64 o.parN, .int .i64 o.parR, .slice ak o.key.length ck, .int .i64 o.elem, .slice an o.name.length cn, .slice tt o.text.length ct, .bool o.gone] 28) (lr : Loc x0 (w.heap.size + 1) #[.int .i64 0, .int .i64 0, .int .i64 0, .int .i64 0, .int .i64 0, .int .i64 0, .int .i64 0, .slice none 0 0, .int .i64 0, .slice none 0 0, .slice none 0 0, .bool false] 28)
    (ho1 : OwnZ w1 x0.heap.size (.slice a1 o.key.length c1) o.key) (hB1 : Below x0.heap.size x0 w1) (ho2 : Own w2 w1.heap.size (.slice a2 o.name.length c2) o.name) (hB2 : Below w1.heap.size w1 w2) (ho3 : Own w3 w2.heap.size (.slice a3 o.text.length c3) o.text) (hB3 : Below w2.heap.size w2 w3) :
    Loc (((w3.setCell ⟨w.heap.size, 7, none⟩ (.slice a1 o.key.length c1)).setCell ⟨w.heap.size, 9, none⟩ (.slice a2 o.name.length c2)).setCell ⟨w.heap.size, 10, none⟩ (.slice a3 o.text.length c3)) w.heap.size #[.int .i64 o.kind, .int .i64 o.atN, .int .i64 o.atR, .int .i64 o.nodeN, .int .i64 o.nodeR, .int .i64 o.parN, .int .i64 o.parR, .slice a1 o.key.length c1, .int .i64 o.elem, .slice a2 o.name.length c2, .slice a3 o.text.length c3, .bool o.gone] 28 ∧ Loc (((w3.setCell ⟨w.heap.size, 7, none⟩ (.slice a1 o.key.length c1)).setCell ⟨w.heap.size, 9, none⟩ (.slice a2 o.name.length c2)).setCell ⟨w.heap.size, 10, none⟩ (.slice a3 o.text.length c3)) (w.heap.size + 1) #[.int .i64 0, .int .i64 0, .int .i64 0, .int .i64 0, .int .i64 0, .int .i64 0, .int .i64 0, .slice none 0 0, .int .i64 0, .slice none 0 0, .slice none 0 0, .bool false] 28 ∧ OwOp (((w3.setCell ⟨w.heap.size, 7, none⟩ (.slice a1 o.key.length c1)).setCell ⟨w.heap.size, 9, none⟩ (.slice a2 o.name.length c2)).setCell ⟨w.heap.size, 10, none⟩ (.slice a3 o.text.length c3)) (w.heap.size + 2) o (.slice a1 o.key.length c1) (.slice a2 o.name.length c2) (.slice a3 o.text.length c3) ∧ Below w.heap.size w (((w3.setCell ⟨w.heap.size, 7, none⟩ (.slice a1 o.key.length c1)).setCell ⟨w.heap.size, 9, none⟩ (.slice a2 o.name.length c2)).setCell ⟨w.heap.size, 10, none⟩ (.slice a3 o.text.length c3)) := by
  have hB13 := bstep (bstep hB1 hB2) hB3
  have hsS : w3.grownBy (((w3.setCell ⟨w.heap.size, 7, none⟩ (.slice a1 o.key.length c1)).setCell ⟨w.heap.size, 9, none⟩ (.slice a2 o.name.length c2)).setCell ⟨w.heap.size, 10, none⟩ (.slice a3 o.text.length c3)) (some w.heap.size) := grown_trans (grown_trans (setGO w3 w.heap.size 7 (.slice a1 o.key.length c1)) (setGO _ w.heap.size 9 (.slice a2 o.name.length c2))) (setGO _ w.heap.size 10 (.slice a3 o.text.length c3))
  have z1 := hB1.size
  have z2 := hB2.size
  have z3 := hB3.size
  have k1 := (ho1.keep hB2).keep hB3
  have k2 := ho2.keep hB3
  refine ⟨(((lo.all hB13).set 7 _).set 9 _).set 10 _, (lr.all hB13).frm (Frm.ofGrown hsS) (by simp), ⟨(k1.mono (by omega)).keepBy hsS (.inr (fun e => by have := (k1.lt w.heap.size e).1; omega)), (k2.mono (by omega)).keepBy hsS (.inr (fun e => by have := (k2.lt w.heap.size e).1; omega)), (ho3.mono (by omega)).keepBy hsS (.inr (fun e => by have := (ho3.lt w.heap.size e).1; omega)), ?_⟩, bstepBy (bstep hB0 hB13) hsS (fun q hq => by cases hq; exact Nat.le_refl _)⟩
  have d1 : Rng (FB (.slice a1 o.key.length c1)) x0.heap.size w1.heap.size := fun q hq => ho1.lt q (by simpa [FB] using hq)
  exact nodup_app (lo := 0) (nodup_app (FB_nodup _) (FB_nodup _) d1 ho2.rng) (FB_nodup _) ((d1.mono (Nat.zero_le _) (by omega)).app (ho2.rng.mono (Nat.zero_le _) (Nat.le_refl _))) ho3.rng

set_option maxHeartbeats 12800000 in
theorem copyOp_any (w : World) (v : Value) (o : OpV) (h : RdOp w v o) (hs : szO o ≤ 4000000) :
    Calls Tryz.prog 91 #[v] w fun e w' => ∃ a1 c1 a2 c2 a3 c3, e = .returned (opVal o (.slice a1 o.key.length c1) (.slice a2 o.name.length c2) (.slice a3 o.text.length c3)) ∧ OwOp w' w.heap.size o (.slice a1 o.key.length c1) (.slice a2 o.name.length c2) (.slice a3 o.text.length c3) ∧ Below w.heap.size w w' := by
  unfold szO at hs
  obtain ⟨k, n, t, rfl, hk0, hn0, ht0⟩ := h
  obtain ⟨ak, ck, rfl, _, _⟩ := hk0.shape
  obtain ⟨an, cn, rfl, _, _⟩ := hn0.shape
  obtain ⟨tt, ct, rfl, _, _⟩ := ht0.shape
  have HK := hide (fun W (hW : Below w.heap.size w W) => hk0.keep hW)
  have HN := hide (fun W (hW : Below w.heap.size w W) => hn0.keep hW)
  have HX := hide (fun W (hW : Below w.heap.size w W) => ht0.keep hW)
  clear hk0 hn0 ht0
  have l0 := Loc.made w #[.int .i64 o.kind, .int .i64 o.atN, .int .i64 o.atR, .int .i64 o.nodeN, .int .i64 o.nodeR, .int .i64 o.parN, .int .i64 o.parR, .slice ak o.key.length ck, .int .i64 o.elem, .slice an o.name.length cn, .slice tt o.text.length ct, .bool o.gone] 28
  have hA := (Below.refl w.heap.size w).alloc (Nat.le_refl _) (.cells #[.int .i64 o.kind, .int .i64 o.atN, .int .i64 o.atR, .int .i64 o.nodeN, .int .i64 o.nodeR, .int .i64 o.parN, .int .i64 o.parR, .slice ak o.key.length ck, .int .i64 o.elem, .slice an o.name.length cn, .slice tt o.text.length ct, .bool o.gone] 28)
  have hsz : (w.alloc (.cells #[.int .i64 o.kind, .int .i64 o.atN, .int .i64 o.atR, .int .i64 o.nodeN, .int .i64 o.nodeR, .int .i64 o.parN, .int .i64 o.parR, .slice ak o.key.length ck, .int .i64 o.elem, .slice an o.name.length cn, .slice tt o.text.length ct, .bool o.gone] 28)).heap.size = w.heap.size + 1 := by simp
  have lr := Loc.made (w.alloc (.cells #[.int .i64 o.kind, .int .i64 o.atN, .int .i64 o.atR, .int .i64 o.nodeN, .int .i64 o.nodeR, .int .i64 o.parN, .int .i64 o.parR, .slice ak o.key.length ck, .int .i64 o.elem, .slice an o.name.length cn, .slice tt o.text.length ct, .bool o.gone] 28)) #[.int .i64 0, .int .i64 0, .int .i64 0, .int .i64 0, .int .i64 0, .int .i64 0, .int .i64 0, .slice none 0 0, .int .i64 0, .slice none 0 0, .slice none 0 0, .bool false] 28
  rw [hsz] at lr
  have lo := l0.alloc (.cells #[.int .i64 0, .int .i64 0, .int .i64 0, .int .i64 0, .int .i64 0, .int .i64 0, .int .i64 0, .slice none 0 0, .int .i64 0, .slice none 0 0, .slice none 0 0, .bool false] 28)
  have hB := hA.alloc (by simp) (.cells #[.int .i64 0, .int .i64 0, .int .i64 0, .int .i64 0, .int .i64 0, .int .i64 0, .int .i64 0, .slice none 0 0, .int .i64 0, .slice none 0 0, .slice none 0 0, .bool false] 28)
  clear l0 hA hsz
  unfold opVal
  refine calls_via ?_
  intro Q HQ
  have H1 := hide (fun W hW => copyKey_any W _ o.key (unhide HK W hW) (by omega))
  have H2 := hide (fun W hW => clone_own W _ o.name (unhide HN W hW) (by omega))
  have H3 := hide (fun W hW => clone_own W _ o.text (unhide HX W hW) (by omega))
  clear HK HN HX
  have LL := hide (And.intro lo (And.intro lr hB))
  clear lo lr hB
  go_enter Tryz.func91, Tryz.ntmps91
  go_upto_region 1 with fail
  obtain ⟨lo, lr, hB⟩ := unhide LL
  clear LL
  generalize ((w.alloc (.cells #[.int .i64 o.kind, .int .i64 o.atN, .int .i64 o.atR, .int .i64 o.nodeN, .int .i64 o.nodeR, .int .i64 o.parN, .int .i64 o.parR, .slice ak o.key.length ck, .int .i64 o.elem, .slice an o.name.length cn, .slice tt o.text.length ct, .bool o.gone] 28)).alloc (.cells #[.int .i64 0, .int .i64 0, .int .i64 0, .int .i64 0, .int .i64 0, .int .i64 0, .int .i64 0, .slice none 0 0, .int .i64 0, .slice none 0 0, .slice none 0 0, .bool false] 28)) = x0 at *
  have hlo := lo.lt
  have hlr := lr.lt
  go_cut [] from 3 to 14 (fun wx => ∃ a1 c1 a2 c2 a3 c3, Loc wx w.heap.size #[.int .i64 o.kind, .int .i64 o.atN, .int .i64 o.atR, .int .i64 o.nodeN, .int .i64 o.nodeR, .int .i64 o.parN, .int .i64 o.parR, .slice a1 o.key.length c1, .int .i64 o.elem, .slice a2 o.name.length c2, .slice a3 o.text.length c3, .bool o.gone] 28 ∧ Loc wx (w.heap.size + 1) #[.int .i64 0, .int .i64 0, .int .i64 0, .int .i64 0, .int .i64 0, .int .i64 0, .int .i64 0, .slice none 0 0, .int .i64 0, .slice none 0 0, .slice none 0 0, .bool false] 28 ∧ OwOp wx (w.heap.size + 2) o (.slice a1 o.key.length c1) (.slice a2 o.name.length c2) (.slice a3 o.text.length c3) ∧ Below w.heap.size w wx)
  case first =>
    have HB0 := hide hB
    have HLR := hide lr
    have hx0 : w.heap.size + 2 ≤ x0.heap.size := by omega
    clear hB lr
    have q7 := lo.cell 7
    have q9 := lo.cell 9
    have q10 := lo.cell 10
    simp only [List.getElem?_toArray, List.getElem?_cons_succ, List.getElem?_cons_zero] at q7 q9 q10
    have f7 := lo.frozen 7
    have f9 := lo.frozen 9
    have f10 := lo.frozen 10
    have HLO := hide lo
    clear lo
    go_region_with (first
      | (go_at_call 124; refine (unhide H1 _ (bstep (unhide HB0) ((Below.refl _ _).drew))).mono ?_; clear H1; rintro e w1 ⟨a1, c1, rfl, ho1, hB1⟩; have hK1 := bstep ((Below.refl x0.heap.size x0).drew) hB1; have q7 := ((unhide HLO).all hK1).cell 7; have q9 := ((unhide HLO).all hK1).cell 9; have q10 := ((unhide HLO).all hK1).cell 10; simp only [List.getElem?_toArray, List.getElem?_cons_succ, List.getElem?_cons_zero] at q7 q9 q10; have f7 := ((unhide HLO).all hK1).frozen 7; have f9 := ((unhide HLO).all hK1).frozen 9; have f10 := ((unhide HLO).all hK1).frozen 10)
      | (go_at_call 125; refine (unhide H2 _ (bstep (unhide HB0) hK1)).mono ?_; clear H2; rintro e w2 ⟨a2, c2, rfl, ho2, hB2⟩; have hK2 := bstep hK1 hB2; have q7 := ((unhide HLO).all hK2).cell 7; have q9 := ((unhide HLO).all hK2).cell 9; have q10 := ((unhide HLO).all hK2).cell 10; simp only [List.getElem?_toArray, List.getElem?_cons_succ, List.getElem?_cons_zero] at q7 q9 q10; have f7 := ((unhide HLO).all hK2).frozen 7; have f9 := ((unhide HLO).all hK2).frozen 9; have f10 := ((unhide HLO).all hK2).frozen 10)
      | (go_at_call 125; refine (unhide H3 _ (bstep (unhide HB0) hK2)).mono ?_; clear H3; rintro e w3 ⟨a3, c3, rfl, ho3, hB3⟩; have hK3 := bstep hK2 hB3; have q7 := ((unhide HLO).all hK3).cell 7; have q9 := ((unhide HLO).all hK3).cell 9; have q10 := ((unhide HLO).all hK3).cell 10; simp only [List.getElem?_toArray, List.getElem?_cons_succ, List.getElem?_cons_zero] at q7 q9 q10; have f7 := ((unhide HLO).all hK3).frozen 7; have f9 := ((unhide HLO).all hK3).frozen 9; have f10 := ((unhide HLO).all hK3).frozen 10))
    all_goals
      go_wp2_with fail
      go_meet
      exact ⟨_, _, _, _, _, _, copy_fin hx0 (unhide HB0) (unhide HLO) (unhide HLR) ho1 hK1 ho2 hB2 ho3 hB3⟩
  case rest =>
  obtain ⟨a1, c1, a2, c2, a3, c3, lo, lr, hOw, hB⟩ := hcut
  obtain ⟨hk, hn, ht, hnd⟩ := hOw
  clear H1 H2 H3
  have lrz : Loc ((((((((((((wc.setCell ⟨(w.heap.size + 1), 0, none⟩ (.int .i64 o.kind)).setCell ⟨(w.heap.size + 1), 1, none⟩ (.int .i64 o.atN)).setCell ⟨(w.heap.size + 1), 2, none⟩ (.int .i64 o.atR)).setCell ⟨(w.heap.size + 1), 3, none⟩ (.int .i64 o.nodeN)).setCell ⟨(w.heap.size + 1), 4, none⟩ (.int .i64 o.nodeR)).setCell ⟨(w.heap.size + 1), 5, none⟩ (.int .i64 o.parN)).setCell ⟨(w.heap.size + 1), 6, none⟩ (.int .i64 o.parR)).setCell ⟨(w.heap.size + 1), 7, none⟩ (.slice a1 o.key.length c1)).setCell ⟨(w.heap.size + 1), 8, none⟩ (.int .i64 o.elem)).setCell ⟨(w.heap.size + 1), 9, none⟩ (.slice a2 o.name.length c2)).setCell ⟨(w.heap.size + 1), 10, none⟩ (.slice a3 o.text.length c3)).setCell ⟨(w.heap.size + 1), 11, none⟩ (.bool o.gone)) (w.heap.size + 1) #[.int .i64 o.kind, .int .i64 o.atN, .int .i64 o.atR, .int .i64 o.nodeN, .int .i64 o.nodeR, .int .i64 o.parN, .int .i64 o.parR, .slice a1 o.key.length c1, .int .i64 o.elem, .slice a2 o.name.length c2, .slice a3 o.text.length c3, .bool o.gone] 28 := set_twelve lr (.int .i64 o.kind) (.int .i64 o.atN) (.int .i64 o.atR) (.int .i64 o.nodeN) (.int .i64 o.nodeR) (.int .i64 o.parN) (.int .i64 o.parR) (.slice a1 o.key.length c1) (.int .i64 o.elem) (.slice a2 o.name.length c2) (.slice a3 o.text.length c3) (.bool o.gone)
  have hsR : wc.grownBy ((((((((((((wc.setCell ⟨(w.heap.size + 1), 0, none⟩ (.int .i64 o.kind)).setCell ⟨(w.heap.size + 1), 1, none⟩ (.int .i64 o.atN)).setCell ⟨(w.heap.size + 1), 2, none⟩ (.int .i64 o.atR)).setCell ⟨(w.heap.size + 1), 3, none⟩ (.int .i64 o.nodeN)).setCell ⟨(w.heap.size + 1), 4, none⟩ (.int .i64 o.nodeR)).setCell ⟨(w.heap.size + 1), 5, none⟩ (.int .i64 o.parN)).setCell ⟨(w.heap.size + 1), 6, none⟩ (.int .i64 o.parR)).setCell ⟨(w.heap.size + 1), 7, none⟩ (.slice a1 o.key.length c1)).setCell ⟨(w.heap.size + 1), 8, none⟩ (.int .i64 o.elem)).setCell ⟨(w.heap.size + 1), 9, none⟩ (.slice a2 o.name.length c2)).setCell ⟨(w.heap.size + 1), 10, none⟩ (.slice a3 o.text.length c3)).setCell ⟨(w.heap.size + 1), 11, none⟩ (.bool o.gone)) (some (w.heap.size + 1)) := grow_twelve _ _ (.int .i64 o.kind) (.int .i64 o.atN) (.int .i64 o.atR) (.int .i64 o.nodeN) (.int .i64 o.nodeR) (.int .i64 o.parN) (.int .i64 o.parR) (.slice a1 o.key.length c1) (.int .i64 o.elem) (.slice a2 o.name.length c2) (.slice a3 o.text.length c3) (.bool o.gone)
  have hO9 : OwOp _ (w.heap.size + 2) o _ _ _ := ⟨hk.keepBy hsR (.inr (fun e => by have := (hk.lt _ e).1; omega)), hn.keepBy hsR (.inr (fun e => by have := (hn.lt _ e).1; omega)), ht.keepBy hsR (.inr (fun e => by have := (ht.lt _ e).1; omega)), hnd⟩
  have hB9 := bstepBy hB hsR (fun q hq => by cases hq; omega)
  obtain ⟨y0, y1, y2, y3, y4, y5, y6, y7, y8, y9, y10, y11⟩ := lo.twelve
  obtain ⟨z0, z1, z2, z3, z4, z5, z6, z7, z8, z9, z10, z11⟩ := lr.twelve
  have g0 := lr.frozen 0
  have g1 := lr.frozen 1
  have g2 := lr.frozen 2
  have g3 := lr.frozen 3
  have g4 := lr.frozen 4
  have g5 := lr.frozen 5
  have g6 := lr.frozen 6
  have g7 := lr.frozen 7
  have g8 := lr.frozen 8
  have g9 := lr.frozen 9
  have g10 := lr.frozen 10
  have g11 := lr.frozen 11
  have KK := hide (And.intro lrz (And.intro hO9 hB9))
  clear lrz hsR hO9 hB9 lr lo hk hn ht hnd hB
  go_upto_region 2 with fail
  go_cut [] from 15 to 15 (fun wx => ∃ (k n t : Value), Loc wx (w.heap.size + 1) #[.int .i64 o.kind, .int .i64 o.atN, .int .i64 o.atR, .int .i64 o.nodeN, .int .i64 o.nodeR, .int .i64 o.parN, .int .i64 o.parR, k, .int .i64 o.elem, n, t, .bool o.gone] 28 ∧ OwOp wx (w.heap.size + 2) o k n t ∧ Below w.heap.size w wx)
  case first =>
    go_wp2_with fail
    go_meet
    exact ⟨_, _, _, unhide KK⟩
  case rest =>
    obtain ⟨k9, n9, t9, hL, hO9, hB9⟩ := hcut
    obtain ⟨e0, e1, e2, e3, e4, e5, e6, e7, e8, e9, e10, e11⟩ := hL.twelve
    clear KK hL z0 z1 z2 z3 z4 z5 z6 z7 z8 z9 z10 z11 y0 y1 y2 y3 y4 y5 y6 y7 y8 y9 y10 y11 g0 g1 g2 g3 g4 g5 g6 g7 g8 g9 g10 g11
    obtain ⟨a7, c7, rfl, _, _⟩ := hO9.1.ints.shape
    obtain ⟨a8, c8, rfl, _, _⟩ := hO9.2.1.byt.shape
    obtain ⟨a9, c9, rfl, _, _⟩ := hO9.2.2.1.byt.shape
    have K9 := hide (And.intro (show OwOp _ (w.heap.size) o _ _ _ from ⟨hO9.1.mono (by omega), hO9.2.1.mono (by omega), hO9.2.2.1.mono (by omega), hO9.2.2.2⟩) hB9)
    clear hO9 hB9
    go_wp2_with fail
    exact bodyPost_ret (v := .agg #[.int .i64 o.kind, .int .i64 o.atN, .int .i64 o.atR, .int .i64 o.nodeN, .int .i64 o.nodeR, .int .i64 o.parN, .int .i64 o.parR, .slice a7 o.key.length c7, .int .i64 o.elem, .slice a8 o.name.length c8, .slice a9 o.text.length c9, .bool o.gone]) (by simp [results, Tryz.results91, go_sem, e0, e1, e2, e3, e4, e5, e6, e7, e8, e9, e10, e11]) rfl (unhide HQ _ _ ⟨_, _, _, _, _, _, rfl, unhide K9⟩)
end Go.Proofs.YtkmmhlimihkgfaaGreat

/- spec.l4own: an operation all of whose memory is its own. -/
namespace Go.Proofs.YtkmmhlimihkgfaaGreat
open Go.RowKit
set_option linter.unusedVariables false
set_option maxRecDepth 100000

theorem ownz_none (w : World) : OwnZ (w.alloc (.cells #[] 3)) w.heap.size (.slice (some ⟨w.heap.size, 0, none⟩) 0 0) [] :=
  ⟨okZ_nil, rfl, .inr ⟨w.heap.size, 0, #[], rfl, Nat.le_refl _, heap_alloc_new w _, Nat.le_refl _, Nat.zero_le _, rfl, rfl⟩⟩

set_option maxHeartbeats 12800000 in
theorem l4own_any (w : World) (v : Value) (o : OpV) (h : RdOp w v o) (hs : szO o ≤ 4000000) :
    Calls Tryz.prog 94 #[v] w fun e w' => ∃ a1 c1 a2 c2 a3 c3, e = .returned (opVal o (.slice a1 o.key.length c1) (.slice a2 o.name.length c2) (.slice a3 o.text.length c3)) ∧ OwOp w' w.heap.size o (.slice a1 o.key.length c1) (.slice a2 o.name.length c2) (.slice a3 o.text.length c3) ∧ Below w.heap.size w w' := by
  unfold szO at hs
  obtain ⟨k, n, t, rfl, hk0, hn0, ht0⟩ := h
  obtain ⟨ak, ck, rfl, _, _⟩ := hk0.shape
  obtain ⟨an, cn, rfl, _, _⟩ := hn0.shape
  obtain ⟨tt, ct, rfl, _, _⟩ := ht0.shape
  have HK := hide (fun W (hW : Below w.heap.size w W) => hk0.keep hW)
  have HN := hide (fun W (hW : Below w.heap.size w W) => hn0.keep hW)
  have HX := hide (fun W (hW : Below w.heap.size w W) => ht0.keep hW)
  clear hk0 hn0 ht0
  have l0 := Loc.made w #[.int .i64 o.kind, .int .i64 o.atN, .int .i64 o.atR, .int .i64 o.nodeN, .int .i64 o.nodeR, .int .i64 o.parN, .int .i64 o.parR, .slice ak o.key.length ck, .int .i64 o.elem, .slice an o.name.length cn, .slice tt o.text.length ct, .bool o.gone] 28
  have hA := (Below.refl w.heap.size w).alloc (Nat.le_refl _) (.cells #[.int .i64 o.kind, .int .i64 o.atN, .int .i64 o.atR, .int .i64 o.nodeN, .int .i64 o.nodeR, .int .i64 o.parN, .int .i64 o.parR, .slice ak o.key.length ck, .int .i64 o.elem, .slice an o.name.length cn, .slice tt o.text.length ct, .bool o.gone] 28)
  have hsz : (w.alloc (.cells #[.int .i64 o.kind, .int .i64 o.atN, .int .i64 o.atR, .int .i64 o.nodeN, .int .i64 o.nodeR, .int .i64 o.parN, .int .i64 o.parR, .slice ak o.key.length ck, .int .i64 o.elem, .slice an o.name.length cn, .slice tt o.text.length ct, .bool o.gone] 28)).heap.size = w.heap.size + 1 := by simp
  have lr := Loc.made (w.alloc (.cells #[.int .i64 o.kind, .int .i64 o.atN, .int .i64 o.atR, .int .i64 o.nodeN, .int .i64 o.nodeR, .int .i64 o.parN, .int .i64 o.parR, .slice ak o.key.length ck, .int .i64 o.elem, .slice an o.name.length cn, .slice tt o.text.length ct, .bool o.gone] 28)) #[.int .i64 0, .int .i64 0, .int .i64 0, .int .i64 0, .int .i64 0, .int .i64 0, .int .i64 0, .slice none 0 0, .int .i64 0, .slice none 0 0, .slice none 0 0, .bool false] 28
  rw [hsz] at lr
  have lo := l0.alloc (.cells #[.int .i64 0, .int .i64 0, .int .i64 0, .int .i64 0, .int .i64 0, .int .i64 0, .int .i64 0, .slice none 0 0, .int .i64 0, .slice none 0 0, .slice none 0 0, .bool false] 28)
  have hB := hA.alloc (by simp) (.cells #[.int .i64 0, .int .i64 0, .int .i64 0, .int .i64 0, .int .i64 0, .int .i64 0, .int .i64 0, .slice none 0 0, .int .i64 0, .slice none 0 0, .slice none 0 0, .bool false] 28)
  clear l0 hA hsz
  unfold opVal
  refine calls_via ?_
  intro Q HQ
  go_enter Tryz.func94, Tryz.ntmps94
  have LL := hide (And.intro lo (And.intro lr hB))
  clear lo lr hB
  go_upto_region 1 with fail
  obtain ⟨lo, lr, hB⟩ := unhide LL
  clear LL
  generalize ((w.alloc (.cells #[.int .i64 o.kind, .int .i64 o.atN, .int .i64 o.atR, .int .i64 o.nodeN, .int .i64 o.nodeR, .int .i64 o.parN, .int .i64 o.parR, .slice ak o.key.length ck, .int .i64 o.elem, .slice an o.name.length cn, .slice tt o.text.length ct, .bool o.gone] 28)).alloc (.cells #[.int .i64 0, .int .i64 0, .int .i64 0, .int .i64 0, .int .i64 0, .int .i64 0, .int .i64 0, .slice none 0 0, .int .i64 0, .slice none 0 0, .slice none 0 0, .bool false] 28)) = x0 at *
  have hAe := (Below.refl x0.heap.size x0).alloc (Nat.le_refl _) (.cells #[] 3)
  have cS : (x0.alloc (.cells #[] 3)).cell? ⟨w.heap.size, 7, none⟩ = some (.slice ak o.key.length ck) := (lo.all hAe).cell 7
  have cS0 : x0.cell? ⟨w.heap.size, 7, none⟩ = some (.slice ak o.key.length ck) := lo.cell 7
  have hE := ownz_none x0
  have hSrc := unhide HK _ (bstep hB hAe)
  have hlo := lo.lt
  have hlr := lr.lt
  have hwz : (x0.alloc (.cells #[] 3)).heap.size = x0.heap.size + 1 := by simp
  have HE := hide (And.intro hE (And.intro hSrc (And.intro hAe hwz)))
  have LL := hide (And.intro lo (And.intro lr (And.intro hB trivial)))
  clear hE hSrc hAe hwz lo lr hB
  go_wp2_with (at_builtin; refine wpList_appZ rfl _ _ rfl x0.heap.size _ [] rfl (unhide HE).1 _ o.key rfl (unhide HE).2.1 ?c1 ?c2 ?_)
  case c1 => simp; omega
  case c2 => rw [(unhide HE).2.2.2]; omega
  intro u1 v1 ho hg
  obtain ⟨_, _, hAe, hwz⟩ := unhide HE
  obtain ⟨lo, lr, hB, _⟩ := unhide LL
  clear LL HE cS cS0
  try rw [List.nil_append] at ho
  obtain ⟨a1, c1, rfl, _, _⟩ := ho.ints.shape
  replace lo := (lo.all hAe).frm (Frm.ofGrown hg) (by simp [Value.ownBlock]; omega)
  replace lr := (lr.all hAe).frm (Frm.ofGrown hg) (by simp [Value.ownBlock]; omega)
  replace hB := bstepBy (bstep hB hAe) hg (fun q hq => by simp [Value.ownBlock] at hq; omega)
  have hk := ho
  have rr1 := hk.lt
  have szq1 : x0.heap.size ≤ v1.heap.size := by have := hg.size; omega
  clear ho hg hAe hwz
  have hsS := setGO v1 w.heap.size 7 (.slice a1 o.key.length c1)
  obtain ⟨q0, q1, q2, q3, q4, q5, q6, q7, q8, q9, q10, q11⟩ := lo.twelve
  have fz := lo.frozen 7
  replace lo : Loc (v1.setCell ⟨w.heap.size, 7, none⟩ (.slice a1 o.key.length c1)) w.heap.size #[.int .i64 o.kind, .int .i64 o.atN, .int .i64 o.atR, .int .i64 o.nodeN, .int .i64 o.nodeR, .int .i64 o.parN, .int .i64 o.parR, .slice a1 o.key.length c1, .int .i64 o.elem, .slice an o.name.length cn, .slice tt o.text.length ct, .bool o.gone] 28 := lo.set 7 (.slice a1 o.key.length c1)
  replace lr := lr.frm (Frm.ofGrown hsS) (by simp)
  replace hB := bstepBy hB hsS (fun q hq => by cases hq; exact Nat.le_refl _)
  replace hk := hk.keepBy hsS (.inr (fun e => by have := (hk.lt _ e).1; omega))
  have sz1 := hsS.size
  clear hsS
  have LL := hide (show _ ∧ _ ∧ _ ∧ _ from ⟨lo, lr, hB, hk⟩)
  clear lo lr hB hk
  go_upto_region 2 with fail
  obtain ⟨lo, lr, hB, hk⟩ := unhide LL
  clear LL q0 q1 q2 q3 q4 q5 q6 q7 q8 q9 q10 q11 fz
  generalize (v1.setCell ⟨w.heap.size, 7, none⟩ (.slice a1 o.key.length c1)) = x1 at *
  have hAe := (Below.refl x1.heap.size x1).alloc (Nat.le_refl _) (.cells #[] 5)
  have cS : (x1.alloc (.cells #[] 5)).cell? ⟨w.heap.size, 9, none⟩ = some (.slice an o.name.length cn) := (lo.all hAe).cell 9
  have cS0 : x1.cell? ⟨w.heap.size, 9, none⟩ = some (.slice an o.name.length cn) := lo.cell 9
  have hE := own_none x1
  have hSrc := unhide HN _ (bstep hB hAe)
  have hlo := lo.lt
  have hlr := lr.lt
  have hwz : (x1.alloc (.cells #[] 5)).heap.size = x1.heap.size + 1 := by simp
  have HE := hide (And.intro hE (And.intro hSrc (And.intro hAe hwz)))
  have LL := hide (And.intro lo (And.intro lr (And.intro hB (And.intro hk trivial))))
  clear hE hSrc hAe hwz lo lr hB hk
  go_wp2_with (at_builtin; refine wpList_app rfl _ _ rfl x1.heap.size _ [] rfl (unhide HE).1 _ o.name rfl (unhide HE).2.1 ?c1 ?c2 ?_)
  case c1 => simp; omega
  case c2 => rw [(unhide HE).2.2.2]; omega
  intro u2 v2 ho hg
  obtain ⟨_, _, hAe, hwz⟩ := unhide HE
  obtain ⟨lo, lr, hB, hk, _⟩ := unhide LL
  clear LL HE cS cS0
  try rw [List.nil_append] at ho
  obtain ⟨a2, c2, rfl, _, _⟩ := ho.byt.shape
  replace lo := (lo.all hAe).frm (Frm.ofGrown hg) (by simp [Value.ownBlock]; omega)
  replace lr := (lr.all hAe).frm (Frm.ofGrown hg) (by simp [Value.ownBlock]; omega)
  replace hB := bstepBy (bstep hB hAe) hg (fun q hq => by simp [Value.ownBlock] at hq; omega)
  replace hk := (hk.keep hAe).keepBy hg (.inr (fun e => by have := (hk.lt x1.heap.size e).2; omega))
  have hn := ho
  have rr2 := hn.lt
  have szq2 : x1.heap.size ≤ v2.heap.size := by have := hg.size; omega
  clear ho hg hAe hwz
  have hsS := setGO v2 w.heap.size 9 (.slice a2 o.name.length c2)
  obtain ⟨q0, q1, q2, q3, q4, q5, q6, q7, q8, q9, q10, q11⟩ := lo.twelve
  have fz := lo.frozen 9
  replace lo : Loc (v2.setCell ⟨w.heap.size, 9, none⟩ (.slice a2 o.name.length c2)) w.heap.size #[.int .i64 o.kind, .int .i64 o.atN, .int .i64 o.atR, .int .i64 o.nodeN, .int .i64 o.nodeR, .int .i64 o.parN, .int .i64 o.parR, .slice a1 o.key.length c1, .int .i64 o.elem, .slice a2 o.name.length c2, .slice tt o.text.length ct, .bool o.gone] 28 := lo.set 9 (.slice a2 o.name.length c2)
  replace lr := lr.frm (Frm.ofGrown hsS) (by simp)
  replace hB := bstepBy hB hsS (fun q hq => by cases hq; exact Nat.le_refl _)
  replace hk := hk.keepBy hsS (.inr (fun e => by have := (hk.lt _ e).1; omega))
  replace hn := hn.keepBy hsS (.inr (fun e => by have := (hn.lt _ e).1; omega))
  have sz2 := hsS.size
  clear hsS
  have LL := hide (show _ ∧ _ ∧ _ ∧ _ from ⟨lo, lr, hB, (show _ ∧ _ from ⟨hk, hn⟩)⟩)
  clear lo lr hB hk hn
  go_upto_region 3 with fail
  obtain ⟨lo, lr, hB, hk, hn⟩ := unhide LL
  clear LL q0 q1 q2 q3 q4 q5 q6 q7 q8 q9 q10 q11 fz
  generalize (v2.setCell ⟨w.heap.size, 9, none⟩ (.slice a2 o.name.length c2)) = x2 at *
  have hAe := (Below.refl x2.heap.size x2).alloc (Nat.le_refl _) (.cells #[] 5)
  have cS : (x2.alloc (.cells #[] 5)).cell? ⟨w.heap.size, 10, none⟩ = some (.slice tt o.text.length ct) := (lo.all hAe).cell 10
  have cS0 : x2.cell? ⟨w.heap.size, 10, none⟩ = some (.slice tt o.text.length ct) := lo.cell 10
  have hE := own_none x2
  have hSrc := unhide HX _ (bstep hB hAe)
  have hlo := lo.lt
  have hlr := lr.lt
  have hwz : (x2.alloc (.cells #[] 5)).heap.size = x2.heap.size + 1 := by simp
  have HE := hide (And.intro hE (And.intro hSrc (And.intro hAe hwz)))
  have LL := hide (And.intro lo (And.intro lr (And.intro hB (And.intro hk (And.intro hn trivial)))))
  clear hE hSrc hAe hwz lo lr hB hk hn
  go_wp2_with (at_builtin; refine wpList_app rfl _ _ rfl x2.heap.size _ [] rfl (unhide HE).1 _ o.text rfl (unhide HE).2.1 ?c1 ?c2 ?_)
  case c1 => simp; omega
  case c2 => rw [(unhide HE).2.2.2]; omega
  intro u3 v3 ho hg
  obtain ⟨_, _, hAe, hwz⟩ := unhide HE
  obtain ⟨lo, lr, hB, hk, hn, _⟩ := unhide LL
  clear LL HE cS cS0
  try rw [List.nil_append] at ho
  obtain ⟨a3, c3, rfl, _, _⟩ := ho.byt.shape
  replace lo := (lo.all hAe).frm (Frm.ofGrown hg) (by simp [Value.ownBlock]; omega)
  replace lr := (lr.all hAe).frm (Frm.ofGrown hg) (by simp [Value.ownBlock]; omega)
  replace hB := bstepBy (bstep hB hAe) hg (fun q hq => by simp [Value.ownBlock] at hq; omega)
  replace hk := (hk.keep hAe).keepBy hg (.inr (fun e => by have := (hk.lt x2.heap.size e).2; omega))
  replace hn := (hn.keep hAe).keepBy hg (.inr (fun e => by have := (hn.lt x2.heap.size e).2; omega))
  have ht := ho
  have rr3 := ht.lt
  have szq3 : x2.heap.size ≤ v3.heap.size := by have := hg.size; omega
  clear ho hg hAe hwz
  have hsS := setGO v3 w.heap.size 10 (.slice a3 o.text.length c3)
  obtain ⟨q0, q1, q2, q3, q4, q5, q6, q7, q8, q9, q10, q11⟩ := lo.twelve
  have fz := lo.frozen 10
  replace lo : Loc (v3.setCell ⟨w.heap.size, 10, none⟩ (.slice a3 o.text.length c3)) w.heap.size #[.int .i64 o.kind, .int .i64 o.atN, .int .i64 o.atR, .int .i64 o.nodeN, .int .i64 o.nodeR, .int .i64 o.parN, .int .i64 o.parR, .slice a1 o.key.length c1, .int .i64 o.elem, .slice a2 o.name.length c2, .slice a3 o.text.length c3, .bool o.gone] 28 := lo.set 10 (.slice a3 o.text.length c3)
  replace lr := lr.frm (Frm.ofGrown hsS) (by simp)
  replace hB := bstepBy hB hsS (fun q hq => by cases hq; exact Nat.le_refl _)
  replace hk := hk.keepBy hsS (.inr (fun e => by have := (hk.lt _ e).1; omega))
  replace hn := hn.keepBy hsS (.inr (fun e => by have := (hn.lt _ e).1; omega))
  replace ht := ht.keepBy hsS (.inr (fun e => by have := (ht.lt _ e).1; omega))
  have sz3 := hsS.size
  clear hsS
  have LL := hide (show _ ∧ _ ∧ _ ∧ _ from ⟨lo, lr, hB, (show _ ∧ _ ∧ _ from ⟨hk, hn, ht⟩)⟩)
  clear lo lr hB hk hn ht
  go_upto_region 4 with fail
  obtain ⟨lo, lr, hB, hk, hn, ht⟩ := unhide LL
  clear LL q0 q1 q2 q3 q4 q5 q6 q7 q8 q9 q10 q11 fz
  generalize (v3.setCell ⟨w.heap.size, 10, none⟩ (.slice a3 o.text.length c3)) = x3 at *
  have hnd : (FB (.slice a1 o.key.length c1) ++ FB (.slice a2 o.name.length c2) ++ FB (.slice a3 o.text.length c3)).Nodup := by
    have d1 : Rng (FB (.slice a1 o.key.length c1)) _ _ := fun q hq => rr1 q (by simpa [FB] using hq)
    have d2 : Rng (FB (.slice a2 o.name.length c2)) _ _ := fun q hq => rr2 q (by simpa [FB] using hq)
    have d3 : Rng (FB (.slice a3 o.text.length c3)) _ _ := fun q hq => rr3 q (by simpa [FB] using hq)
    exact nodup_app (lo := 0) (nodup_app (FB_nodup _) (FB_nodup _) d1 (d2.mono (by omega) (Nat.le_refl _))) (FB_nodup _) ((d1.mono (Nat.zero_le _) (by omega)).app (d2.mono (Nat.zero_le _) (Nat.le_refl _))) (d3.mono (by omega) (Nat.le_refl _))
  replace hk := hk.mono (show w.heap.size + 2 ≤ _ by omega)
  replace hn := hn.mono (show w.heap.size + 2 ≤ _ by omega)
  replace ht := ht.mono (show w.heap.size + 2 ≤ _ by omega)
  have lrz : Loc ((((((((((((x3.setCell ⟨(w.heap.size + 1), 0, none⟩ (.int .i64 o.kind)).setCell ⟨(w.heap.size + 1), 1, none⟩ (.int .i64 o.atN)).setCell ⟨(w.heap.size + 1), 2, none⟩ (.int .i64 o.atR)).setCell ⟨(w.heap.size + 1), 3, none⟩ (.int .i64 o.nodeN)).setCell ⟨(w.heap.size + 1), 4, none⟩ (.int .i64 o.nodeR)).setCell ⟨(w.heap.size + 1), 5, none⟩ (.int .i64 o.parN)).setCell ⟨(w.heap.size + 1), 6, none⟩ (.int .i64 o.parR)).setCell ⟨(w.heap.size + 1), 7, none⟩ (.slice a1 o.key.length c1)).setCell ⟨(w.heap.size + 1), 8, none⟩ (.int .i64 o.elem)).setCell ⟨(w.heap.size + 1), 9, none⟩ (.slice a2 o.name.length c2)).setCell ⟨(w.heap.size + 1), 10, none⟩ (.slice a3 o.text.length c3)).setCell ⟨(w.heap.size + 1), 11, none⟩ (.bool o.gone)) (w.heap.size + 1) #[.int .i64 o.kind, .int .i64 o.atN, .int .i64 o.atR, .int .i64 o.nodeN, .int .i64 o.nodeR, .int .i64 o.parN, .int .i64 o.parR, .slice a1 o.key.length c1, .int .i64 o.elem, .slice a2 o.name.length c2, .slice a3 o.text.length c3, .bool o.gone] 28 := set_twelve lr (.int .i64 o.kind) (.int .i64 o.atN) (.int .i64 o.atR) (.int .i64 o.nodeN) (.int .i64 o.nodeR) (.int .i64 o.parN) (.int .i64 o.parR) (.slice a1 o.key.length c1) (.int .i64 o.elem) (.slice a2 o.name.length c2) (.slice a3 o.text.length c3) (.bool o.gone)
  have hsR : x3.grownBy ((((((((((((x3.setCell ⟨(w.heap.size + 1), 0, none⟩ (.int .i64 o.kind)).setCell ⟨(w.heap.size + 1), 1, none⟩ (.int .i64 o.atN)).setCell ⟨(w.heap.size + 1), 2, none⟩ (.int .i64 o.atR)).setCell ⟨(w.heap.size + 1), 3, none⟩ (.int .i64 o.nodeN)).setCell ⟨(w.heap.size + 1), 4, none⟩ (.int .i64 o.nodeR)).setCell ⟨(w.heap.size + 1), 5, none⟩ (.int .i64 o.parN)).setCell ⟨(w.heap.size + 1), 6, none⟩ (.int .i64 o.parR)).setCell ⟨(w.heap.size + 1), 7, none⟩ (.slice a1 o.key.length c1)).setCell ⟨(w.heap.size + 1), 8, none⟩ (.int .i64 o.elem)).setCell ⟨(w.heap.size + 1), 9, none⟩ (.slice a2 o.name.length c2)).setCell ⟨(w.heap.size + 1), 10, none⟩ (.slice a3 o.text.length c3)).setCell ⟨(w.heap.size + 1), 11, none⟩ (.bool o.gone)) (some (w.heap.size + 1)) := grow_twelve _ _ (.int .i64 o.kind) (.int .i64 o.atN) (.int .i64 o.atR) (.int .i64 o.nodeN) (.int .i64 o.nodeR) (.int .i64 o.parN) (.int .i64 o.parR) (.slice a1 o.key.length c1) (.int .i64 o.elem) (.slice a2 o.name.length c2) (.slice a3 o.text.length c3) (.bool o.gone)
  have hO9 : OwOp _ (w.heap.size + 2) o _ _ _ := ⟨hk.keepBy hsR (.inr (fun e => by have := (hk.lt _ e).1; omega)), hn.keepBy hsR (.inr (fun e => by have := (hn.lt _ e).1; omega)), ht.keepBy hsR (.inr (fun e => by have := (ht.lt _ e).1; omega)), hnd⟩
  have hB9 := bstepBy hB hsR (fun q hq => by cases hq; omega)
  obtain ⟨y0, y1, y2, y3, y4, y5, y6, y7, y8, y9, y10, y11⟩ := lo.twelve
  obtain ⟨z0, z1, z2, z3, z4, z5, z6, z7, z8, z9, z10, z11⟩ := lr.twelve
  have g0 := lr.frozen 0
  have g1 := lr.frozen 1
  have g2 := lr.frozen 2
  have g3 := lr.frozen 3
  have g4 := lr.frozen 4
  have g5 := lr.frozen 5
  have g6 := lr.frozen 6
  have g7 := lr.frozen 7
  have g8 := lr.frozen 8
  have g9 := lr.frozen 9
  have g10 := lr.frozen 10
  have g11 := lr.frozen 11
  have KK := hide (And.intro lrz (And.intro hO9 hB9))
  clear lrz hsR hO9 hB9 lr lo hk hn ht hnd hB
  go_upto_region 4 with fail
  go_cut [] from 18 to 18 (fun wx => ∃ (k n t : Value), Loc wx (w.heap.size + 1) #[.int .i64 o.kind, .int .i64 o.atN, .int .i64 o.atR, .int .i64 o.nodeN, .int .i64 o.nodeR, .int .i64 o.parN, .int .i64 o.parR, k, .int .i64 o.elem, n, t, .bool o.gone] 28 ∧ OwOp wx (w.heap.size + 2) o k n t ∧ Below w.heap.size w wx)
  case first =>
    go_wp2_with fail
    go_meet
    exact ⟨_, _, _, unhide KK⟩
  case rest =>
    obtain ⟨k9, n9, t9, hL, hO9, hB9⟩ := hcut
    obtain ⟨e0, e1, e2, e3, e4, e5, e6, e7, e8, e9, e10, e11⟩ := hL.twelve
    clear KK hL z0 z1 z2 z3 z4 z5 z6 z7 z8 z9 z10 z11 y0 y1 y2 y3 y4 y5 y6 y7 y8 y9 y10 y11 g0 g1 g2 g3 g4 g5 g6 g7 g8 g9 g10 g11
    obtain ⟨a7, c7, rfl, _, _⟩ := hO9.1.ints.shape
    obtain ⟨a8, c8, rfl, _, _⟩ := hO9.2.1.byt.shape
    obtain ⟨a9, c9, rfl, _, _⟩ := hO9.2.2.1.byt.shape
    have K9 := hide (And.intro (show OwOp _ (w.heap.size) o _ _ _ from ⟨hO9.1.mono (by omega), hO9.2.1.mono (by omega), hO9.2.2.1.mono (by omega), hO9.2.2.2⟩) hB9)
    clear hO9 hB9
    go_wp2_with fail
    exact bodyPost_ret (v := .agg #[.int .i64 o.kind, .int .i64 o.atN, .int .i64 o.atR, .int .i64 o.nodeN, .int .i64 o.nodeR, .int .i64 o.parN, .int .i64 o.parR, .slice a7 o.key.length c7, .int .i64 o.elem, .slice a8 o.name.length c8, .slice a9 o.text.length c9, .bool o.gone]) (by simp [results, Tryz.results94, go_sem, e0, e1, e2, e3, e4, e5, e6, e7, e8, e9, e10, e11]) rfl (unhide HQ _ _ ⟨_, _, _, _, _, _, rfl, unhide K9⟩)
end Go.Proofs.YtkmmhlimihkgfaaGreat

/- spec.l5ownOps: a row of operations all of whose memory is its own. -/
namespace Go.Proofs.YtkmmhlimihkgfaaGreat
open Go.RowKit
set_option linter.unusedVariables false
set_option maxRecDepth 100000

theorem OwOps.lt {w : World} {v : Value} {l : List OpV} {F : List Nat} (h : OwOps w v l F) : ∀ q ∈ F, q < w.heap.size := by
  obtain ⟨Cs, Fs, h1, h2, h3, h4, rfl⟩ := h
  intro q hq
  rcases List.mem_append.1 hq with h | h
  · exact (h4.lt q (by simpa [FB] using h)).2
  · obtain ⟨f, hf, hqf⟩ := List.mem_flatten.1 h
    obtain ⟨i, hi, rfl⟩ := List.getElem_of_mem hf
    have hi' : i < l.length := by omega
    obtain ⟨k, n, t, e, g1, g2, g3, g4⟩ := (h3 i hi').2
    have e1 : Fs.getD i [] = Fs[i] := by simp [List.getD_eq_getElem?_getD, hi]
    rw [e1] at g4
    rw [g4] at hqf
    rcases List.mem_append.1 hqf with h | h
    · rcases List.mem_append.1 h with h | h
      · exact (g1.lt q (by simpa [FB] using h)).2
      · exact (g2.lt q (by simpa [FB] using h)).2
    · exact (g3.lt q (by simpa [FB] using h)).2

set_option maxHeartbeats 12800000 in
theorem ownOps_any (w : World) (v : Value) (l : List OpV) (h : RdOps w v l) (hl : l.length ≤ 4194304) (hx : ∀ x ∈ l, szO x ≤ 4000000) :
    Calls Tryz.prog 47 #[v] w fun e w' => ∃ u, e = .returned u ∧ ∃ F, OwOps w' u l F ∧ F.Nodup ∧ Rng F w.heap.size w'.heap.size ∧ Below w.heap.size w w' := by
  obtain ⟨i0, hi, hz0, hz1, hz2⟩ := info_parts Tryz.info28
  have hm : (l.length : Int) ≤ 9223372036854775807 := by omega
  have HAT := hide (fun W (hW : Below w.heap.size w W) j (hj : j < l.length) => (show ∃ b off cap, v = .slice (some ⟨b, off, none⟩) l.length cap ∧ b < w.heap.size ∧ ∃ C : List Value, C.length = 12 ∧ (∀ i, i < 12 → w.cell? ⟨b, off + j * 12 + i, none⟩ = C[i]?) ∧ RdOpC w C l[j] by
    obtain ⟨_, ⟨_, e⟩ | ⟨_, _, _, _, e⟩ | ⟨b, off, cap, rfl, g1, g2, g3, g4, g5⟩⟩ := h
    · subst e; simp at hj
    · subst e; simp at hj
    · exact ⟨b, off, cap, rfl, g4, g5 j hj⟩))
  obtain ⟨av, cv, rfl, _, _⟩ := Elems.shape h
  clear h
  go_enter Tryz.func47, Tryz.ntmps47
  go_wp2_with fail
  go_loopw [3, 4] (fun b i wr => ∃ j : Nat, j ≤ l.length ∧ i = .int .i64 j ∧ ∃ F, OwOps wr b (l.take j) F ∧ F.Nodup ∧ Rng F w.heap.size wr.heap.size ∧ Below w.heap.size w wr) (fun _ i _ => l.length - (intOf i).toNat)
  case atStart => exact ⟨0, Nat.zero_le _, rfl, [], ⟨[], [], by simp, by simp, fun i hi => by simp at hi, World.ownsRow_nil _ _ _ _, rfl⟩, List.nodup_nil, fun g hg => by simp at hg, Below.refl _ _⟩
  case round =>
    obtain ⟨j, hj, rfl, F, hF, hN, hRg, hB⟩ := hrel
    by_cases hjl : j < l.length
    · have hst : l.take (j + 1) = l.take j ++ [l[j]] := List.take_succ_eq_append_getElem hjl
      have hlj : (l.take j).length = j := by rw [List.length_take]; omega
      obtain ⟨pb, poff, pcap, epv, hpl, hel⟩ := unhide HAT wr hB j hjl
      cases epv
      obtain ⟨a1, c1, a2, c2, a3, c3, e0, e1, e2, e3, e4, e5, e6, e7, e8, e9, e10, e11, hro⟩ := opc_at hB hpl hel
      have HL := hide (l4own_any wr _ l[j] hro (hx _ (List.getElem_mem hjl)))
      unfold opVal at HL
      have HST := hide hst
      generalize l[j] = o at *
      clear hst hel hro
      have hjl' : (j : Int) < (l.length : Int) := by omega
      have hj0 : (0 : Int) ≤ (j : Int) := by omega
      have HF := hide hF
      have HN := hide hN
      have HR := hide hRg
      clear hF hN hRg
      go_wp2_with fail
      clear e0 e1 e2 e3 e4 e5 e6 e7 e8 e9 e10 e11
      refine (unhide HL).mono ?_
      rintro e w2 ⟨b1, d1, b2, d2, b3, d3, rfl, hO, hB2⟩
      have hAe := (Below.refl w2.heap.size w2).alloc (Nat.le_refl _) (.cells #[.int .i64 o.kind, .int .i64 o.atN, .int .i64 o.atR, .int .i64 o.nodeN, .int .i64 o.nodeR, .int .i64 o.parN, .int .i64 o.parR, .slice b1 o.key.length d1, .int .i64 o.elem, .slice b2 o.name.length d2, .slice b3 o.text.length d3, .bool o.gone] 28)
      have lE := Loc.made w2 #[.int .i64 o.kind, .int .i64 o.atN, .int .i64 o.atR, .int .i64 o.nodeN, .int .i64 o.nodeR, .int .i64 o.parN, .int .i64 o.parR, .slice b1 o.key.length d1, .int .i64 o.elem, .slice b2 o.name.length d2, .slice b3 o.text.length d3, .bool o.gone] 28
      have hFr := OwOps.lt (unhide HF)
      have hrO : Rng (FB (.slice b1 o.key.length d1) ++ FB (.slice b2 o.name.length d2) ++ FB (.slice b3 o.text.length d3)) wr.heap.size w2.heap.size := by
        have h1 : Rng (FB (.slice b1 o.key.length d1)) wr.heap.size w2.heap.size := fun g hg => hO.1.lt g (by simpa [FB] using hg)
        exact (h1.app hO.2.1.rng).app hO.2.2.1.rng
      have HP := hide (show OwElems (w2.alloc (.cells #[.int .i64 o.kind, .int .i64 o.atN, .int .i64 o.atR, .int .i64 o.nodeN, .int .i64 o.nodeR, .int .i64 o.parN, .int .i64 o.parR, .slice b1 o.key.length d1, .int .i64 o.elem, .slice b2 o.name.length d2, .slice b3 o.text.length d3, .bool o.gone] 28)) 28 12 _ (l.take j) (OwOpC (w2.alloc (.cells #[.int .i64 o.kind, .int .i64 o.atN, .int .i64 o.atR, .int .i64 o.nodeN, .int .i64 o.nodeR, .int .i64 o.parN, .int .i64 o.parR, .slice b1 o.key.length d1, .int .i64 o.elem, .slice b2 o.name.length d2, .slice b3 o.text.length d3, .bool o.gone] 28))) F ∧ F.Nodup ∧ (∀ i u, ([.int .i64 o.kind, .int .i64 o.atN, .int .i64 o.atR, .int .i64 o.nodeN, .int .i64 o.nodeR, .int .i64 o.parN, .int .i64 o.parR, .slice b1 o.key.length d1, .int .i64 o.elem, .slice b2 o.name.length d2, .slice b3 o.text.length d3, .bool o.gone] : List Value)[i]? = some u → (w2.alloc (.cells #[.int .i64 o.kind, .int .i64 o.atN, .int .i64 o.atR, .int .i64 o.nodeN, .int .i64 o.nodeR, .int .i64 o.parN, .int .i64 o.parR, .slice b1 o.key.length d1, .int .i64 o.elem, .slice b2 o.name.length d2, .slice b3 o.text.length d3, .bool o.gone] 28)).cell? ((⟨w2.heap.size, 0, none⟩ : Addr).add i) = some u) ∧ OwOpC (w2.alloc (.cells #[.int .i64 o.kind, .int .i64 o.atN, .int .i64 o.atR, .int .i64 o.nodeN, .int .i64 o.nodeR, .int .i64 o.parN, .int .i64 o.parR, .slice b1 o.key.length d1, .int .i64 o.elem, .slice b2 o.name.length d2, .slice b3 o.text.length d3, .bool o.gone] 28)) [.int .i64 o.kind, .int .i64 o.atN, .int .i64 o.atR, .int .i64 o.nodeN, .int .i64 o.nodeR, .int .i64 o.parN, .int .i64 o.parR, .slice b1 o.key.length d1, .int .i64 o.elem, .slice b2 o.name.length d2, .slice b3 o.text.length d3, .bool o.gone] o (FB (.slice b1 o.key.length d1) ++ FB (.slice b2 o.name.length d2) ++ FB (.slice b3 o.text.length d3)) ∧ (FB (.slice b1 o.key.length d1) ++ FB (.slice b2 o.name.length d2) ++ FB (.slice b3 o.text.length d3)).Nodup ∧ (∀ g ∈ F, g ∉ (FB (.slice b1 o.key.length d1) ++ FB (.slice b2 o.name.length d2) ++ FB (.slice b3 o.text.length d3))) ∧ (∀ q, q ∈ F ∨ q ∈ (FB (.slice b1 o.key.length d1) ++ FB (.slice b2 o.name.length d2) ++ FB (.slice b3 o.text.length d3)) → q < (w2.alloc (.cells #[.int .i64 o.kind, .int .i64 o.atN, .int .i64 o.atR, .int .i64 o.nodeN, .int .i64 o.nodeR, .int .i64 o.parN, .int .i64 o.parR, .slice b1 o.key.length d1, .int .i64 o.elem, .slice b2 o.name.length d2, .slice b3 o.text.length d3, .bool o.gone] 28)).heap.size) from
        ⟨OwOps.frm (unhide HF) (Frm.ofBelow (bstep hB2 hAe) []) (fun _ _ => by simp), unhide HN, fun i u hiu => by rw [add_plain, Nat.zero_add, lE.cell i]; simpa using hiu, ⟨_, _, _, rfl, (hO.1.mono (Nat.zero_le _)).keep hAe, (hO.2.1.mono (Nat.zero_le _)).keep hAe, (hO.2.2.1.mono (Nat.zero_le _)).keep hAe, rfl⟩, hO.2.2.2, fun g hg hm => by have := hFr g hg; have := (hrO g hm).1; omega, fun q hq => by
          have hs := hAe.size
          have hs2 := hB2.size
          rcases hq with hq | hq
          · have := hFr q hq; omega
          · have := (hrO q hq).2; omega⟩)
      have HB2 := hide (And.intro (bstep (bstep hB hB2) hAe) (And.intro hrO (And.intro hAe.size hB2.size)))
      have hwE : (w2.alloc (.cells #[.int .i64 o.kind, .int .i64 o.atN, .int .i64 o.atR, .int .i64 o.nodeN, .int .i64 o.nodeR, .int .i64 o.parN, .int .i64 o.parR, .slice b1 o.key.length d1, .int .i64 o.elem, .slice b2 o.name.length d2, .slice b3 o.text.length d3, .bool o.gone] 28)).heap.size = w2.heap.size + 1 := by simp
      have HWE := hide hwE
      clear hAe lE hrO hO hFr HL hB2 hwE
      go_wp2_with (at_builtin; refine wpList_push (R := OwOpC) (fun h f d => OwOpC.frm h f d) rfl _ _ 23 rfl 28 i0 (.agg #[.int .i64 0, .int .i64 0, .int .i64 0, .int .i64 0, .int .i64 0, .int .i64 0, .int .i64 0, .slice none 0 0, .int .i64 0, .slice none 0 0, .slice none 0 0, .bool false]) 12 144 Tryz.underlying23 hi hz0 hz1 hz2 rfl (by decide) _ (l.take j) F rfl (unhide HP).1 (unhide HP).2.1 ⟨w2.heap.size, 0, none⟩ 1 [.int .i64 o.kind, .int .i64 o.atN, .int .i64 o.atR, .int .i64 o.nodeN, .int .i64 o.nodeR, .int .i64 o.parN, .int .i64 o.parR, .slice b1 o.key.length d1, .int .i64 o.elem, .slice b2 o.name.length d2, .slice b3 o.text.length d3, .bool o.gone] o (FB (.slice b1 o.key.length d1) ++ FB (.slice b2 o.name.length d2) ++ FB (.slice b3 o.text.length d3)) rfl rfl (unhide HP).2.2.1 ?c0 (unhide HP).2.2.2.1 (unhide HP).2.2.2.2.1 (unhide HP).2.2.2.2.2.1 (unhide HP).2.2.2.2.2.2 ?c1 ?c2 ?_)
      case c0 => intro y hy; simp at hy; rcases hy with rfl | rfl | rfl | rfl | rfl | rfl | rfl | rfl | rfl | rfl | rfl | rfl <;> rfl
      case c1 => rw [hlj]; unfold maxLen; omega
      case c2 => rw [hlj]; omega
      intro g9 cap9 w9 F9 hF9 hN9 hM9 hf9 hg9
      obtain ⟨hW4, hrO, hs4, hs2⟩ := unhide HB2
      have hwE := unhide HWE
      have hBs := hB.size
      have hW9 : Below w.heap.size w w9 := hW4.trans (hf9.below hW4.size (fun q hq => (unhide HR q (by obtain ⟨Cs, Fs, _, _, _, _, rfl⟩ := unhide HF; exact List.mem_append_left _ hq)).1))
      have HO9 := hide (show OwOps w9 (.slice (some ⟨g9, 0, none⟩) (j + 1) cap9) (l.take (j + 1)) F9 by
        rw [unhide HST]
        try rw [hlj] at hF9
        exact hF9)
      have HR9 := hide (show Rng F9 w.heap.size w9.heap.size from fun q hq => ⟨by
        rcases hM9 q hq with k | k | k
        · exact (unhide HR q k).1
        · have := (hrO q (by simpa using k)).1; omega
        · omega, OwOps.lt (unhide HO9) q hq⟩)
      have HN9 := hide hN9
      try rw [hlj]
      clear hF9 hM9 hN9 hf9 hW4 hrO hwE
      have HW9 := hide hW9
      clear hW9
      go_wp2_with fail
      go_roundw
      case rel => exact ⟨j + 1, by omega, by go_num, F9, unhide HO9, unhide HN9, unhide HR9, unhide HW9⟩
      case measure => simp [intOf]; omega
    · have e : j = l.length := by omega
      subst e
      rw [List.take_length] at hF
      have HH := hide (And.intro hF (And.intro hN (And.intro hRg hB)))
      clear hF hN hRg
      go_wp2_with fail
      go_ret
      exact ⟨_, rfl, F, unhide HH⟩
end Go.Proofs.YtkmmhlimihkgfaaGreat

/- impl.copyOps. -/
namespace Go.Proofs.YtkmmhlimihkgfaaGreat
open Go.RowKit
set_option linter.unusedVariables false
set_option maxRecDepth 100000

set_option maxHeartbeats 12800000 in
theorem copyOps_any (w : World) (v : Value) (l : List OpV) (h : RdOps w v l) (hl : l.length ≤ 4194304) (hx : ∀ x ∈ l, szO x ≤ 4000000) :
    Calls Tryz.prog 41 #[v] w fun e w' => ∃ u, e = .returned u ∧ ∃ F, OwOps w' u l F ∧ F.Nodup ∧ Rng F w.heap.size w'.heap.size ∧ Below w.heap.size w w' := by
  obtain ⟨i0, hi, hz0, hz1, hz2⟩ := info_parts Tryz.info28
  have hm : (l.length : Int) ≤ 9223372036854775807 := by omega
  have HAT := hide (fun W (hW : Below w.heap.size w W) j (hj : j < l.length) => (show ∃ b off cap, v = .slice (some ⟨b, off, none⟩) l.length cap ∧ b < w.heap.size ∧ ∃ C : List Value, C.length = 12 ∧ (∀ i, i < 12 → w.cell? ⟨b, off + j * 12 + i, none⟩ = C[i]?) ∧ RdOpC w C l[j] by
    obtain ⟨_, ⟨_, e⟩ | ⟨_, _, _, _, e⟩ | ⟨b, off, cap, rfl, g1, g2, g3, g4, g5⟩⟩ := h
    · subst e; simp at hj
    · subst e; simp at hj
    · exact ⟨b, off, cap, rfl, g4, g5 j hj⟩))
  obtain ⟨av, cv, rfl, _, _⟩ := Elems.shape h
  clear h
  go_enter Tryz.func41, Tryz.ntmps41
  go_wp2_with fail
  go_loopw [3, 5, 8] (fun b _ i wr => ∃ j : Nat, j ≤ l.length ∧ i = .int .i64 j ∧ ∃ F, OwOps wr b (l.take j) F ∧ F.Nodup ∧ Rng F w.heap.size wr.heap.size ∧ Below w.heap.size w wr) (fun _ _ i _ => l.length - (intOf i).toNat)
  case atStart => exact ⟨0, Nat.zero_le _, rfl, [], ⟨[], [], by simp, by simp, fun i hi => by simp at hi, World.ownsRow_nil _ _ _ _, rfl⟩, List.nodup_nil, fun g hg => by simp at hg, Below.refl _ _⟩
  case round =>
    obtain ⟨j, hj, rfl, F, hF, hN, hRg, hB⟩ := hrel
    by_cases hjl : j < l.length
    · have hst : l.take (j + 1) = l.take j ++ [l[j]] := List.take_succ_eq_append_getElem hjl
      have hlj : (l.take j).length = j := by rw [List.length_take]; omega
      obtain ⟨pb, poff, pcap, epv, hpl, hel⟩ := unhide HAT wr hB j hjl
      cases epv
      obtain ⟨a1, c1, a2, c2, a3, c3, e0, e1, e2, e3, e4, e5, e6, e7, e8, e9, e10, e11, hro⟩ := opc_at hB hpl hel
      have hxo := hx _ (List.getElem_mem hjl)
      have HST := hide hst
      generalize l[j] = o at *
      clear hst hel
      have hAo := (Below.refl wr.heap.size wr).alloc (Nat.le_refl _) (.cells #[.int .i64 o.kind, .int .i64 o.atN, .int .i64 o.atR, .int .i64 o.nodeN, .int .i64 o.nodeR, .int .i64 o.parN, .int .i64 o.parR, .slice a1 o.key.length c1, .int .i64 o.elem, .slice a2 o.name.length c2, .slice a3 o.text.length c3, .bool o.gone] 28)
      have lOo := Loc.made wr #[.int .i64 o.kind, .int .i64 o.atN, .int .i64 o.atR, .int .i64 o.nodeN, .int .i64 o.nodeR, .int .i64 o.parN, .int .i64 o.parR, .slice a1 o.key.length c1, .int .i64 o.elem, .slice a2 o.name.length c2, .slice a3 o.text.length c3, .bool o.gone] 28
      have HL := hide (copyOp_any _ _ o (hro.keep hAo) hxo)
      unfold opVal at HL
      clear hro hxo
      have hjl' : (j : Int) < (l.length : Int) := by omega
      have hj0 : (0 : Int) ≤ (j : Int) := by omega
      have HF := hide hF
      have HN := hide hN
      have HR := hide hRg
      clear hF hN hRg
      obtain ⟨x0, x1, x2, x3, x4, x5, x6, x7, x8, x9, x10, x11⟩ := lOo.twelve
      have HAO := hide hAo
      clear hAo lOo
      go_wp2_with fail
      clear e0 e1 e2 e3 e4 e5 e6 e7 e8 e9 e10 e11 x0 x1 x2 x3 x4 x5 x6 x7 x8 x9 x10 x11
      have hAo := unhide HAO
      clear HAO
      generalize (wr.alloc (.cells #[.int .i64 o.kind, .int .i64 o.atN, .int .i64 o.atR, .int .i64 o.nodeN, .int .i64 o.nodeR, .int .i64 o.parN, .int .i64 o.parR, .slice a1 o.key.length c1, .int .i64 o.elem, .slice a2 o.name.length c2, .slice a3 o.text.length c3, .bool o.gone] 28)) = wb at *
      refine (unhide HL).mono ?_
      rintro e w2 ⟨b1, d1, b2, d2, b3, d3, rfl, hO', hB2'⟩
      have hsb := hAo.size
      have hO : OwOp w2 wr.heap.size o _ _ _ := ⟨hO'.1.mono hsb, hO'.2.1.mono hsb, hO'.2.2.1.mono hsb, hO'.2.2.2⟩
      have hB2 := bstep hAo hB2'
      clear hO' hB2' hAo
      have hAe := (Below.refl w2.heap.size w2).alloc (Nat.le_refl _) (.cells #[.int .i64 o.kind, .int .i64 o.atN, .int .i64 o.atR, .int .i64 o.nodeN, .int .i64 o.nodeR, .int .i64 o.parN, .int .i64 o.parR, .slice b1 o.key.length d1, .int .i64 o.elem, .slice b2 o.name.length d2, .slice b3 o.text.length d3, .bool o.gone] 28)
      have lE := Loc.made w2 #[.int .i64 o.kind, .int .i64 o.atN, .int .i64 o.atR, .int .i64 o.nodeN, .int .i64 o.nodeR, .int .i64 o.parN, .int .i64 o.parR, .slice b1 o.key.length d1, .int .i64 o.elem, .slice b2 o.name.length d2, .slice b3 o.text.length d3, .bool o.gone] 28
      have hFr := OwOps.lt (unhide HF)
      have hrO : Rng (FB (.slice b1 o.key.length d1) ++ FB (.slice b2 o.name.length d2) ++ FB (.slice b3 o.text.length d3)) wr.heap.size w2.heap.size := by
        have h1 : Rng (FB (.slice b1 o.key.length d1)) wr.heap.size w2.heap.size := fun g hg => hO.1.lt g (by simpa [FB] using hg)
        exact (h1.app hO.2.1.rng).app hO.2.2.1.rng
      have HP := hide (show OwElems (w2.alloc (.cells #[.int .i64 o.kind, .int .i64 o.atN, .int .i64 o.atR, .int .i64 o.nodeN, .int .i64 o.nodeR, .int .i64 o.parN, .int .i64 o.parR, .slice b1 o.key.length d1, .int .i64 o.elem, .slice b2 o.name.length d2, .slice b3 o.text.length d3, .bool o.gone] 28)) 28 12 _ (l.take j) (OwOpC (w2.alloc (.cells #[.int .i64 o.kind, .int .i64 o.atN, .int .i64 o.atR, .int .i64 o.nodeN, .int .i64 o.nodeR, .int .i64 o.parN, .int .i64 o.parR, .slice b1 o.key.length d1, .int .i64 o.elem, .slice b2 o.name.length d2, .slice b3 o.text.length d3, .bool o.gone] 28))) F ∧ F.Nodup ∧ (∀ i u, ([.int .i64 o.kind, .int .i64 o.atN, .int .i64 o.atR, .int .i64 o.nodeN, .int .i64 o.nodeR, .int .i64 o.parN, .int .i64 o.parR, .slice b1 o.key.length d1, .int .i64 o.elem, .slice b2 o.name.length d2, .slice b3 o.text.length d3, .bool o.gone] : List Value)[i]? = some u → (w2.alloc (.cells #[.int .i64 o.kind, .int .i64 o.atN, .int .i64 o.atR, .int .i64 o.nodeN, .int .i64 o.nodeR, .int .i64 o.parN, .int .i64 o.parR, .slice b1 o.key.length d1, .int .i64 o.elem, .slice b2 o.name.length d2, .slice b3 o.text.length d3, .bool o.gone] 28)).cell? ((⟨w2.heap.size, 0, none⟩ : Addr).add i) = some u) ∧ OwOpC (w2.alloc (.cells #[.int .i64 o.kind, .int .i64 o.atN, .int .i64 o.atR, .int .i64 o.nodeN, .int .i64 o.nodeR, .int .i64 o.parN, .int .i64 o.parR, .slice b1 o.key.length d1, .int .i64 o.elem, .slice b2 o.name.length d2, .slice b3 o.text.length d3, .bool o.gone] 28)) [.int .i64 o.kind, .int .i64 o.atN, .int .i64 o.atR, .int .i64 o.nodeN, .int .i64 o.nodeR, .int .i64 o.parN, .int .i64 o.parR, .slice b1 o.key.length d1, .int .i64 o.elem, .slice b2 o.name.length d2, .slice b3 o.text.length d3, .bool o.gone] o (FB (.slice b1 o.key.length d1) ++ FB (.slice b2 o.name.length d2) ++ FB (.slice b3 o.text.length d3)) ∧ (FB (.slice b1 o.key.length d1) ++ FB (.slice b2 o.name.length d2) ++ FB (.slice b3 o.text.length d3)).Nodup ∧ (∀ g ∈ F, g ∉ (FB (.slice b1 o.key.length d1) ++ FB (.slice b2 o.name.length d2) ++ FB (.slice b3 o.text.length d3))) ∧ (∀ q, q ∈ F ∨ q ∈ (FB (.slice b1 o.key.length d1) ++ FB (.slice b2 o.name.length d2) ++ FB (.slice b3 o.text.length d3)) → q < (w2.alloc (.cells #[.int .i64 o.kind, .int .i64 o.atN, .int .i64 o.atR, .int .i64 o.nodeN, .int .i64 o.nodeR, .int .i64 o.parN, .int .i64 o.parR, .slice b1 o.key.length d1, .int .i64 o.elem, .slice b2 o.name.length d2, .slice b3 o.text.length d3, .bool o.gone] 28)).heap.size) from
        ⟨OwOps.frm (unhide HF) (Frm.ofBelow (bstep hB2 hAe) []) (fun _ _ => by simp), unhide HN, fun i u hiu => by rw [add_plain, Nat.zero_add, lE.cell i]; simpa using hiu, ⟨_, _, _, rfl, (hO.1.mono (Nat.zero_le _)).keep hAe, (hO.2.1.mono (Nat.zero_le _)).keep hAe, (hO.2.2.1.mono (Nat.zero_le _)).keep hAe, rfl⟩, hO.2.2.2, fun g hg hm => by have := hFr g hg; have := (hrO g hm).1; omega, fun q hq => by
          have hs := hAe.size
          have hs2 := hB2.size
          rcases hq with hq | hq
          · have := hFr q hq; omega
          · have := (hrO q hq).2; omega⟩)
      have HB2 := hide (And.intro (bstep (bstep hB hB2) hAe) (And.intro hrO (And.intro hAe.size hB2.size)))
      have hwE : (w2.alloc (.cells #[.int .i64 o.kind, .int .i64 o.atN, .int .i64 o.atR, .int .i64 o.nodeN, .int .i64 o.nodeR, .int .i64 o.parN, .int .i64 o.parR, .slice b1 o.key.length d1, .int .i64 o.elem, .slice b2 o.name.length d2, .slice b3 o.text.length d3, .bool o.gone] 28)).heap.size = w2.heap.size + 1 := by simp
      have HWE := hide hwE
      clear hAe lE hrO hO hFr HL hB2 hwE
      go_wp2_with (at_builtin; refine wpList_push (R := OwOpC) (fun h f d => OwOpC.frm h f d) rfl _ _ 23 rfl 28 i0 (.agg #[.int .i64 0, .int .i64 0, .int .i64 0, .int .i64 0, .int .i64 0, .int .i64 0, .int .i64 0, .slice none 0 0, .int .i64 0, .slice none 0 0, .slice none 0 0, .bool false]) 12 144 Tryz.underlying23 hi hz0 hz1 hz2 rfl (by decide) _ (l.take j) F rfl (unhide HP).1 (unhide HP).2.1 ⟨w2.heap.size, 0, none⟩ 1 [.int .i64 o.kind, .int .i64 o.atN, .int .i64 o.atR, .int .i64 o.nodeN, .int .i64 o.nodeR, .int .i64 o.parN, .int .i64 o.parR, .slice b1 o.key.length d1, .int .i64 o.elem, .slice b2 o.name.length d2, .slice b3 o.text.length d3, .bool o.gone] o (FB (.slice b1 o.key.length d1) ++ FB (.slice b2 o.name.length d2) ++ FB (.slice b3 o.text.length d3)) rfl rfl (unhide HP).2.2.1 ?c0 (unhide HP).2.2.2.1 (unhide HP).2.2.2.2.1 (unhide HP).2.2.2.2.2.1 (unhide HP).2.2.2.2.2.2 ?c1 ?c2 ?_)
      case c0 => intro y hy; simp at hy; rcases hy with rfl | rfl | rfl | rfl | rfl | rfl | rfl | rfl | rfl | rfl | rfl | rfl <;> rfl
      case c1 => rw [hlj]; unfold maxLen; omega
      case c2 => rw [hlj]; omega
      intro g9 cap9 w9 F9 hF9 hN9 hM9 hf9 hg9
      obtain ⟨hW4, hrO, hs4, hs2⟩ := unhide HB2
      have hwE := unhide HWE
      have hBs := hB.size
      have hW9 : Below w.heap.size w w9 := hW4.trans (hf9.below hW4.size (fun q hq => (unhide HR q (by obtain ⟨Cs, Fs, _, _, _, _, rfl⟩ := unhide HF; exact List.mem_append_left _ hq)).1))
      have HO9 := hide (show OwOps w9 (.slice (some ⟨g9, 0, none⟩) (j + 1) cap9) (l.take (j + 1)) F9 by
        rw [unhide HST]
        try rw [hlj] at hF9
        exact hF9)
      have HR9 := hide (show Rng F9 w.heap.size w9.heap.size from fun q hq => ⟨by
        rcases hM9 q hq with k | k | k
        · exact (unhide HR q k).1
        · have := (hrO q (by simpa using k)).1; omega
        · omega, OwOps.lt (unhide HO9) q hq⟩)
      have HN9 := hide hN9
      try rw [hlj]
      clear hF9 hM9 hN9 hf9 hW4 hrO hwE
      have HW9 := hide hW9
      clear hW9
      go_wp2_with fail
      go_roundw
      case rel => exact ⟨j + 1, by omega, by go_num, F9, unhide HO9, unhide HN9, unhide HR9, unhide HW9⟩
      case measure => simp [intOf]; omega
    · have e : j = l.length := by omega
      subst e
      rw [List.take_length] at hF
      have HH := hide (And.intro hF (And.intro hN (And.intro hRg hB)))
      clear hF hN hRg
      go_wp2_with fail
      go_ret
      exact ⟨_, rfl, F, unhide HH⟩
end Go.Proofs.YtkmmhlimihkgfaaGreat

/- An append of a readable row of bytes to an owned one: what comes lies where the row lay, or in a new block. -/
namespace Go.Proofs.YtkmmhlimihkgfaaGreat
open Go.RowKit
set_option linter.unusedVariables false

theorem run_appAt {w : World} (ty : TypeId) (base : Nat) (v : Value) (l : List Int) (hown : Own w base v l) (u : Value) (m : List Int) (hu : Byt w u m) (hlen : l.length + m.length ≤ 134217728) (hbase : base ≤ w.heap.size) :
    ∃ v' w', (Builtin.append_ #[22, 22] ty #[v, u]).run Tryz.prog w = .ok v' w' ∧ Own w' base v' (l ++ m) ∧ w.grownBy w' v.ownBlock ∧ (v'.ownBlock = v.ownBlock ∨ v'.ownBlock = some w.heap.size) := by
  obtain ⟨i0, hi, hz0, hz1, hz2⟩ := info_parts Tryz.info5
  have hfull : ∀ (ad : Addr) (c : Nat), u = .slice (some ad) m.length c → (∀ j, j < m.length → w.cell? (ad.add j) = some (.int .u8 (m.getD j 0))) → ∃ v' w', (Builtin.append_ #[22, 22] ty #[v, u]).run Tryz.prog w = .ok v' w' ∧ Own w' base v' (l ++ m) ∧ w.grownBy w' v.ownBlock ∧ (v'.ownBlock = v.ownBlock ∨ v'.ownBlock = some w.heap.size) := by
    intro ad c hx' hc
    obtain ⟨v', w', hr, h2, h3, _, h5⟩ := run_append_own_at (P := Tryz.prog) w base 22 ty 5 i0 (.int .u8 0) 1 1 Tryz.underlying22 hi hz0 hz1 hz2 rfl (by decide) v l.length (vals l) hown.2 ad m.length c (vals m) (by rw [vals_len]; omega) (by
      intro j y hj
      have hlt : j < m.length := by
        by_cases hlt : j < m.length
        · exact hlt
        · rw [List.getElem?_eq_none (by rw [vals_len]; omega)] at hj; cases hj
      rw [vals_at hlt] at hj
      rw [hc j hlt]; exact hj) (vals_one m) (by unfold maxLen; omega) (by omega) hbase
    subst hx'
    refine ⟨v', w', hr, ⟨hown.1.app hu.1, ?_⟩, h3, h5⟩
    rw [vals_app, List.length_append]; exact h2
  obtain ⟨hok, hm, ⟨rfl, rfl⟩ | ⟨y, cap, rfl, hc, rfl⟩ | ⟨b, off, cap, rfl, h1, h2, h3, h4, h5⟩⟩ := id hu
  · exact ⟨v, w, run_append_owned_none (P := Tryz.prog) (w := w) base 22 ty 5 i0 1 Tryz.underlying22 hi v l.length (vals l) hown.2, by rw [List.append_nil]; exact hown, World.grownBy.refl _ _, .inl rfl⟩
  · exact hfull y cap rfl (fun j hj => by simp at hj)
  · exact hfull ⟨b, off, none⟩ cap rfl (fun j hj => by rw [add_plain]; exact h5 j hj)

theorem step_appAt {w : World} {ops : Array Oper} {o : Oper} {a : Act} {K : Act → World → Prop} {Q : Exit → Act → World → Prop} {E : Prop} (hgd : o.guard = none) (s x : Operand)
    (ho : o.op = .call { callee := .builtin .append, args := #[s, x], argTypes := #[22, 22] })
    (base : Nat) (v : Value) (l : List Int) (hs : a.eval s = v) (hown : Own w base v l) (u : Value) (m : List Int) (hx : a.eval x = u) (hu : Byt w u m)
    (hlen : l.length + m.length ≤ 134217728) (hbase : base ≤ w.heap.size)
    (h : ∀ v' w', Own w' base v' (l ++ m) → w.grownBy w' v.ownBlock → (v'.ownBlock = v.ownBlock ∨ v'.ownBlock = some w.heap.size) → K (a.put o.dst v') w') : if Region.wanted o (yielded ops a.tmps) = true then Oper.wp Tryz.prog o a w K Q else E := by
  have hw : Region.wanted o (yielded ops a.tmps) = true := by simp [Region.wanted, hgd]
  rw [if_pos hw]
  obtain ⟨v', w', hr, h1, h2, h3⟩ := run_appAt o.type base v l hown u m hu hlen hbase
  unfold Oper.wp execOp
  simp only [ho, resolve, invoke, builtin, Sem.run_bind, Sem.run_pure, Result.andThen_ok, List.map_toArray, List.map_cons, List.map_nil, hs, hx, hr]
  exact h v' w' h1 h2 h3

theorem wpList_appAt {w : World} {ops : Array Oper} {rest : List Oper} {o : Oper} {a : Act} {Q : Exit → Act → World → Prop} (hgd : o.guard = none) (s x : Operand)
    (ho : o.op = .call { callee := .builtin .append, args := #[s, x], argTypes := #[22, 22] })
    (base : Nat) (v : Value) (l : List Int) (hs : a.eval s = v) (hown : Own w base v l) (u : Value) (m : List Int) (hx : a.eval x = u) (hu : Byt w u m)
    (hlen : l.length + m.length ≤ 134217728) (hbase : base ≤ w.heap.size)
    (h : ∀ v' w', Own w' base v' (l ++ m) → w.grownBy w' v.ownBlock → (v'.ownBlock = v.ownBlock ∨ v'.ownBlock = some w.heap.size) → wpList Tryz.prog ops Q rest (a.put o.dst v') w') : wpList Tryz.prog ops Q (o :: rest) a w := by
  refine wpList_plain hgd fun K hK' => ?_
  have := step_appAt (ops := ops) (K := K) (Q := Q) (E := True) hgd s x ho base v l hs hown u m hx hu hlen hbase (fun v' w' h1 h2 h3 => hK' _ _ (h v' w' h1 h2 h3))
  rw [if_pos (by simp [Region.wanted, hgd])] at this
  exact this
end Go.Proofs.YtkmmhlimihkgfaaGreat

/- An append of a readable row of ids to an empty row of the call's own: where the result lies. -/
namespace Go.Proofs.YtkmmhlimihkgfaaGreat
open Go.RowKit
set_option linter.unusedVariables false
set_option maxRecDepth 100000

def idCs (m : List (Int × Int)) : List (List Value) := m.map fun x => [.int .i64 x.1, .int .i64 x.2]
theorem idCs_len (m : List (Int × Int)) : (idCs m).length = m.length := by unfold idCs; simp
theorem idCs_at (m : List (Int × Int)) (i : Nat) (hi : i < m.length) : (idCs m).getD i [] = [.int .i64 m[i].1, .int .i64 m[i].2] := by
  unfold idCs
  rw [List.getD_eq_getElem?_getD, List.getElem?_map, List.getElem?_eq_getElem hi]
  rfl
theorem idCs_two (m : List (Int × Int)) : ∀ i, i < (idCs m).length → ((idCs m).getD i []).length = 2 := fun i hi => by
  rw [idCs_at m i (by rw [idCs_len] at hi; exact hi)]; rfl
theorem idCs_flat (m : List (Int × Int)) : (idCs m).flatten.length = m.length * 2 := by
  induction m with
  | nil => rfl
  | cons x m ih =>
    have e : idCs (x :: m) = [.int .i64 x.1, .int .i64 x.2] :: idCs m := rfl
    rw [e, List.flatten_cons, List.length_append, ih]
    simp only [List.length_cons, List.length_nil]
    omega
theorem idCs_one (m : List (Int × Int)) : ∀ u ∈ (idCs m).flatten, u.oneCell' = true := by
  intro u hu
  obtain ⟨C, hC, hm⟩ := List.mem_flatten.1 hu
  obtain ⟨x, _, rfl⟩ := List.mem_map.1 hC
  simp at hm
  rcases hm with rfl | rfl <;> rfl
theorem idCs_cell {w : World} {b off : Nat} {m : List (Int × Int)} (h : ∀ i (hi : i < m.length), w.cell? ⟨b, off + i * 2, none⟩ = some (.int .i64 m[i].1) ∧ w.cell? ⟨b, off + i * 2 + 1, none⟩ = some (.int .i64 m[i].2)) (j : Nat) (y : Value) (hj : (idCs m).flatten[j]? = some y) : w.cell? ⟨b, off + j, none⟩ = some y := by
  have hlt : j < m.length * 2 := by
    rw [← idCs_flat]
    by_cases hh : j < (idCs m).flatten.length
    · exact hh
    · rw [List.getElem?_eq_none (by omega)] at hj; cases hj
  have hi : j / 2 < m.length := by omega
  have ej : j = j / 2 * 2 + j % 2 := by omega
  have hf := flat_at (idCs m) 2 (idCs_two m) (j / 2) (j % 2) (by rw [idCs_len]; exact hi) (by omega)
  rw [← ej, hj, idCs_at m _ hi] at hf
  obtain ⟨h0, h1⟩ := h (j / 2) hi
  rcases Nat.mod_two_eq_zero_or_one j with e | e
  · rw [e] at hf ej
    have e2 : off + j = off + j / 2 * 2 := by omega
    rw [e2, h0]
    simpa using hf.symm
  · rw [e] at hf ej
    have e2 : off + j = off + j / 2 * 2 + 1 := by omega
    rw [e2, h1]
    simpa using hf.symm
theorem idCs_own {w : World} {v : Value} {m : List (Int × Int)} (h : w.ownsRow 0 25 2 v m.length (idCs m).flatten) : OwIds w v m (FB v) := by
  refine ⟨idCs m, m.map (fun _ => []), idCs_len m, by simp, fun i hi => ⟨idCs_two m i (by rw [idCs_len]; exact hi), idCs_at m i hi, ?_⟩, h, ?_⟩
  · rw [List.getD_eq_getElem?_getD, List.getElem?_map, List.getElem?_eq_getElem hi]; rfl
  · have e : (m.map (fun _ => ([] : List Nat))).flatten = [] := by
      induction m with
      | nil => rfl
      | cons x m ih => simp
    rw [e, List.append_nil]
theorem OwIds.lt {w : World} {v : Value} {m : List (Int × Int)} (h : OwIds w v m (FB v)) : ∀ q ∈ FB v, q < w.heap.size := by
  obtain ⟨Cs, Fs, _, _, _, e4, _⟩ := h
  intro q hq
  have hq' : v.ownBlock = some q := by simpa [FB] using hq
  rcases e4.2 with ⟨rfl, _⟩ | ⟨g, cap, cur, rfl, _, hg, _⟩
  · simp [Value.ownBlock] at hq'
  · obtain rfl : g = q := by simpa [Value.ownBlock] using hq'
    by_cases hlt : g < w.heap.size
    · exact hlt
    · rw [Array.getElem?_eq_none (by omega)] at hg; cases hg
/-- An append to a row of none: what comes is the call's own, in the row's block or in a new one. -/
theorem run_appIs {w : World} (ty : TypeId) (v : Value) (hown : w.ownsRow 0 25 2 v 0 []) (u : Value) (m : List (Int × Int)) (hu : RdIds w u m) (hlen : m.length ≤ 4194304) :
    ∃ v' w', (Builtin.append_ #[62, 62] ty #[v, u]).run Tryz.prog w = .ok v' w' ∧ OwIds w' v' m (FB v') ∧ w.grownBy w' v.ownBlock ∧ (v'.ownBlock = v.ownBlock ∨ v'.ownBlock = some w.heap.size) := by
  obtain ⟨i0, hi, hz0, hz1, hz2⟩ := info_parts Tryz.info25
  have hfull : ∀ (ad : Addr) (c : Nat), u = .slice (some ad) m.length c → (∀ j y, (idCs m).flatten[j]? = some y → w.cell? (ad.add j) = some y) → ∃ v' w', (Builtin.append_ #[62, 62] ty #[v, u]).run Tryz.prog w = .ok v' w' ∧ OwIds w' v' m (FB v') ∧ w.grownBy w' v.ownBlock ∧ (v'.ownBlock = v.ownBlock ∨ v'.ownBlock = some w.heap.size) := by
    intro ad c hx' hc
    obtain ⟨v', w', hr, h2, h3, _, h5⟩ := run_append_own_at (P := Tryz.prog) w 0 62 ty 25 i0 (.agg #[.int .i64 0, .int .i64 0]) 2 16 Tryz.underlying62 hi hz0 hz1 hz2 rfl (by decide) v 0 [] hown ad m.length c (idCs m).flatten (idCs_flat m) hc (idCs_one m) (by unfold maxLen; omega) (by omega) (Nat.zero_le _)
    subst hx'
    rw [Nat.zero_add, List.nil_append] at h2
    exact ⟨v', w', hr, idCs_own h2, h3, h5⟩
  rcases hu.cases with ⟨rfl, a, cap, rfl⟩ | ⟨b, off, cap, rfl, _, _, hc⟩
  · cases a with
    | none =>
      have e : cap = 0 := by
        obtain ⟨_, ⟨h, _⟩ | ⟨x, cap', h, _⟩ | ⟨b, off, cap', h, _⟩⟩ := hu
        · cases h; rfl
        · cases h
        · cases h
      subst e
      exact ⟨v, w, run_append_owned_none (P := Tryz.prog) (w := w) 0 62 ty 25 i0 2 Tryz.underlying62 hi v 0 [] hown, idCs_own hown, World.grownBy.refl _ _, .inl rfl⟩
    | some x => exact hfull x cap rfl (fun j y hj => by simp [idCs] at hj)
  · exact hfull ⟨b, off, none⟩ cap rfl (fun j y hj => by rw [add_plain]; exact idCs_cell hc j y hj)

theorem step_appIs {w : World} {ops : Array Oper} {o : Oper} {a : Act} {K : Act → World → Prop} {Q : Exit → Act → World → Prop} {E : Prop} (hgd : o.guard = none) (s x : Operand)
    (ho : o.op = .call { callee := .builtin .append, args := #[s, x], argTypes := #[62, 62] })
    (v : Value) (hs : a.eval s = v) (hown : w.ownsRow 0 25 2 v 0 []) (u : Value) (m : List (Int × Int)) (hx : a.eval x = u) (hu : RdIds w u m) (hlen : m.length ≤ 4194304)
    (h : ∀ v' w', OwIds w' v' m (FB v') → w.grownBy w' v.ownBlock → (v'.ownBlock = v.ownBlock ∨ v'.ownBlock = some w.heap.size) → K (a.put o.dst v') w') : if Region.wanted o (yielded ops a.tmps) = true then Oper.wp Tryz.prog o a w K Q else E := by
  have hw : Region.wanted o (yielded ops a.tmps) = true := by simp [Region.wanted, hgd]
  rw [if_pos hw]
  obtain ⟨v', w', hr, h1, h2, h3⟩ := run_appIs o.type v hown u m hu hlen
  unfold Oper.wp execOp
  simp only [ho, resolve, invoke, builtin, Sem.run_bind, Sem.run_pure, Result.andThen_ok, List.map_toArray, List.map_cons, List.map_nil, hs, hx, hr]
  exact h v' w' h1 h2 h3
end Go.Proofs.YtkmmhlimihkgfaaGreat
