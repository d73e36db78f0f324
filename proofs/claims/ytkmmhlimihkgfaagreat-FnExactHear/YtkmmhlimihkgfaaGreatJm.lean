/- Own texts joined: CopyS, OwnR. -/
import Derived.Test.YtkmmhlimihkgfaaGreatJa
import Derived.Test.YtkmmhlimihkgfaaGreatJb
import Derived.Test.YtkmmhlimihkgfaaGreatJc
import Derived.Test.YtkmmhlimihkgfaaGreatJd
import Derived.Test.YtkmmhlimihkgfaaGreatJe
import Derived.Test.YtkmmhlimihkgfaaGreatJf
import Derived.Test.YtkmmhlimihkgfaaGreatJg
import Derived.Test.YtkmmhlimihkgfaaGreatJh
import Derived.Test.YtkmmhlimihkgfaaGreatJi
import Derived.Test.YtkmmhlimihkgfaaGreatJj
import Derived.Test.YtkmmhlimihkgfaaGreatJk
import Derived.Test.YtkmmhlimihkgfaaGreatJl
import Derived.Deep.RegionLaw

/- spec.l2copy tells the tree, in memory of its own. -/
namespace Go.Proofs.YtkmmhlimihkgfaaGreat
open Go.RowKit Go.Shelf
set_option linter.unusedVariables false
set_option maxRecDepth 100000

/-- What l2copy tells of a tree. -/
def CsAt (n : Nat) (t : Tr n) : Prop := ∀ (w : World) (a b c d e : Value), RdNode n w [a, b, c, d, e] t → szT n t ≤ 2097152 →
    Calls Tryz.prog 99 #[.agg #[a, b, c, d, e]] w fun e w' => ∃ (kd : Int) (a1 : Option Addr) (n1 c1 : Nat) (a2 : Option Addr) (n2 c2 : Nat) (a3 : Option Addr) (n3 c3 : Nat) (a4 : Option Addr) (n4 c4 : Nat), e = .returned (.agg #[.int .i64 kd, .slice a1 n1 c1, .slice a2 n2 c2, .slice a3 n3 c3, .slice a4 n4 c4]) ∧ ∃ F, OwNode n w' [.int .i64 kd, .slice a1 n1 c1, .slice a2 n2 c2, .slice a3 n3 c3, .slice a4 n4 c4] t F ∧ F.Nodup ∧ Rng F w.heap.size w'.heap.size ∧ Below w.heap.size w w'

-- <<Cs5def
def Cs5 (wr : World) (bn po pb poff j cd vn vc : Nat) (va : Option Addr) (nm tx nv vv : Value) (kd : Int) (la : List (List Int × List Int)) (x : List Int × List Int) (Fa : List Nat) (s0 s2 s5 s6 s7 s8 s9 s10 s11 s12 s13 s14 s15 s16 s17 s18 s19 s20 s21 s22 s23 s46 s47 s48 s49 s50 s51 s52 s53 s54 s55 s56 s57 s58 s59 s60 s61 s62 s63 s64 : Value) (L : Array Bool) (a : Act) (w : World) : Prop :=
  ∃ b0 b1 b2 b3 b4 b5 b6 b7 b8 b9 b10 b11 b12 b13 b14 b15 b16 b17 b18 b19 b20 b21 b22 x24 x25 x26 x27 x28 x29 x30 x31 x32 x33 x34 x35 x36 x37 x38 x39 x40 x41 x42 x43 x44 x45, L = #[b0, b1, b2, b3, b4, b5, b6, b7, b8, b9, b10, b11, b12, b13, b14, b15, b16, b17, b18, b19, b20, b21, b22] ∧ a = { tmps := #[s0, .pointer (some ⟨bn, 0, none⟩), s2, .pointer (some ⟨po, 0, none⟩), .int .i64 j, s5, s6, s7, s8, s9, s10, s11, s12, s13, s14, s15, s16, s17, s18, s19, s20, s21, s22, s23, x24, x25, x26, x27, x28, x29, x30, x31, x32, x33, x34, x35, x36, x37, x38, x39, x40, x41, x42, x43, x44, x45, s46, s47, s48, s49, s50, s51, s52, s53, s54, s55, s56, s57, s58, s59, s60, s61, s62, s63, s64], defers := [] } ∧ Frm wr w (FB (.slice va vn vc) ++ [po]) ∧ (∀ q, ((b9 = true ∧ q ∈ FB x33) ∨ (b9 = false ∧ b2 = true ∧ q ∈ FB x26)) → ((b17 = true ∧ q ∈ FB x41) ∨ (b17 = false ∧ b10 = true ∧ q ∈ FB x34)) → False) ∧ Loc w po #[.int .i64 kd, nm, tx, (if b22 = true then x44 else .slice va vn vc), .slice none 0 0] 61 ∧ (b20 = false → OwAttrs w (.slice va vn vc) (la.take j) Fa) ∧ (b0 = true → x24 = .pointer (some ⟨po, 3, none⟩)) ∧ (b1 = true → x25 = .slice va vn vc) ∧ (b2 = true → b9 = false → Own w wr.heap.size x26 []) ∧ (b3 = true → x27 = .pointer (some ⟨bn, 3, none⟩)) ∧ (b4 = true → x28 = .slice (some ⟨pb, poff, none⟩) la.length cd) ∧ (b5 = true → x29 = .int .i64 j) ∧ (b6 = true → x30 = .pointer (some ⟨pb, poff + j * 2, none⟩)) ∧ (b7 = true → x31 = .pointer (some ⟨pb, poff + j * 2, none⟩)) ∧ (b8 = true → x32 = nv) ∧ (b9 = true → b2 = true ∧ Own w wr.heap.size x33 x.1) ∧ (b10 = true → b17 = false → Own w wr.heap.size x34 []) ∧ (b11 = true → x35 = .pointer (some ⟨bn, 3, none⟩)) ∧ (b12 = true → x36 = .slice (some ⟨pb, poff, none⟩) la.length cd) ∧ (b13 = true → x37 = .int .i64 j) ∧ (b14 = true → x38 = .pointer (some ⟨pb, poff + j * 2, none⟩)) ∧ (b15 = true → x39 = .pointer (some ⟨pb, poff + j * 2 + 1, none⟩)) ∧ (b16 = true → x40 = vv) ∧ (b17 = true → (b10 = true ∧ b9 = true) ∧ Own w wr.heap.size x41 x.2) ∧ (b18 = true → b9 = true ∧ b17 = true ∧ x42 = .agg #[x33, x41]) ∧ (b19 = true → b18 = true ∧ ∃ z, wr.heap.size ≤ z ∧ x43 = .slice (some ⟨z, 0, none⟩) 1 1 ∧ Loc w z #[x33, x41] 157) ∧ (b20 = true → b1 = true ∧ b17 = true ∧ ∃ g9 cap9 F9, x44 = .slice (some ⟨g9, 0, none⟩) (j + 1) cap9 ∧ OwAttrs w x44 (la.take j ++ [x]) F9 ∧ F9.Nodup ∧ ∀ q ∈ F9, (q ∈ Fa ∨ wr.heap.size ≤ q) ∧ q < w.heap.size) ∧ (b21 = true → x45 = .pointer (some ⟨po, 3, none⟩)) ∧ (b22 = true → b20 = true)
theorem Cs5_cases {i : Nat} (h : i < 23) : i = 0 ∨ i = 1 ∨ i = 2 ∨ i = 3 ∨ i = 4 ∨ i = 5 ∨ i = 6 ∨ i = 7 ∨ i = 8 ∨ i = 9 ∨ i = 10 ∨ i = 11 ∨ i = 12 ∨ i = 13 ∨ i = 14 ∨ i = 15 ∨ i = 16 ∨ i = 17 ∨ i = 18 ∨ i = 19 ∨ i = 20 ∨ i = 21 ∨ i = 22 := by omega
-- Cs5def>>

-- <<Cs1def
def Cs1 (w1 : World) (bn pr : Nat) (T0 nmv txv : Value) (kd : Int) (ln lt : List Int) (L : Array Bool) (a : Act) (w : World) : Prop :=
  ∃ b0 b1 b2 b3 b4 b5 b6 b7 b8 b9 b10 b11 b12 x3 x6 x7 x8 x9 x10 x11 x12 x13 x14 x15 x16, L = #[b0, b1, b2, b3, b4, b5, b6, b7, b8, b9, b10, b11, b12] ∧ a = { tmps := #[T0, .pointer (some ⟨bn, 0, none⟩), .pointer (some ⟨pr, 0, none⟩), x3, undef, undef, x6, x7, x8, x9, x10, x11, x12, x13, x14, x15, x16, undef, undef, undef, undef, undef, undef, undef, undef, undef, undef, undef, undef, undef, undef, undef, undef, undef, undef, undef, undef, undef, undef, undef, undef, undef, undef, undef, undef, undef, undef, undef, undef, undef, undef, undef, undef, undef, undef, undef, undef, undef, undef, undef, undef, undef, undef, undef, undef], defers := [] } ∧ Below w1.heap.size w1 w ∧ (∀ q, ((b5 = true ∧ q ∈ FB x11) ∨ (b5 = false ∧ b2 = true ∧ q ∈ FB x8)) → ((b9 = true ∧ q ∈ FB x15) ∨ (b9 = false ∧ b6 = true ∧ q ∈ FB x12)) → False) ∧ (b0 = true → x6 = .pointer (some ⟨bn, 0, none⟩)) ∧ (b1 = true → x7 = .int .i64 kd) ∧ (b2 = true → b5 = false → Own w w1.heap.size x8 []) ∧ (b3 = true → x9 = .pointer (some ⟨bn, 1, none⟩)) ∧ (b4 = true → x10 = nmv) ∧ (b5 = true → b2 = true ∧ Own w w1.heap.size x11 ln) ∧ (b6 = true → b9 = false → Own w w1.heap.size x12 []) ∧ (b7 = true → x13 = .pointer (some ⟨bn, 2, none⟩)) ∧ (b8 = true → x14 = txv) ∧ (b9 = true → b6 = true ∧ Own w w1.heap.size x15 lt) ∧ (b10 = true → b5 = true ∧ b9 = true ∧ x16 = .agg #[.int .i64 kd, x11, x15, .slice none 0 0, .slice none 0 0]) ∧ (b11 = true → ∃ po, x3 = .pointer (some ⟨po, 0, none⟩) ∧ w1.heap.size ≤ po ∧ Loc w po (if b12 = true then #[.int .i64 kd, x11, x15, .slice none 0 0, .slice none 0 0] else #[.int .i64 0, .slice none 0 0, .slice none 0 0, .slice none 0 0, .slice none 0 0]) 61) ∧ (b12 = true → b11 = true ∧ b10 = true)
theorem Cs1_cases {i : Nat} (h : i < 13) : i = 0 ∨ i = 1 ∨ i = 2 ∨ i = 3 ∨ i = 4 ∨ i = 5 ∨ i = 6 ∨ i = 7 ∨ i = 8 ∨ i = 9 ∨ i = 10 ∨ i = 11 ∨ i = 12 := by omega
-- Cs1def>>

set_option maxHeartbeats 6400000 in
theorem l2copy_core (n : Nat) (t : Tr (n + 2)) (H : ∀ k ∈ t.kids, CsAt (n + 1) k) : CsAt (n + 2) t := by
  intro w0 a b c d e hrd hsz
  have hszT : szT (n + 2) t = t.name.length + t.text.length + szA t.attrs + (t.kids.length + (t.kids.map (szT (n + 1))).sum) := rfl
  obtain ⟨_, _, _, _, e0, k1, k2, hb, hc, hd, he⟩ := hrd
  simp only [List.cons.injEq, and_true] at e0
  obtain ⟨rfl, rfl, rfl, rfl, rfl⟩ := e0
  obtain ⟨ab, cb, rfl, _, _⟩ := hb.shape
  obtain ⟨ac, cc, rfl, _, _⟩ := hc.shape
  obtain ⟨ad, cd, rfl, _, _⟩ := Elems.shape hd
  obtain ⟨ae, ce, rfl, _, _⟩ := Elems.shape he
  obtain ⟨l0, l1, hB1⟩ := two w0 #[.int .i64 t.kind, .slice ab t.name.length cb, .slice ac t.text.length cc, .slice ad t.attrs.length cd, .slice ae t.kids.length ce] #[.int .i64 0, .slice none 0 0, .slice none 0 0, .slice none 0 0, .slice none 0 0] 61 61
  obtain ⟨x0, x1, x2, x3, x4⟩ := l0.five
  have hal : t.attrs.length ≤ 4194304 := by unfold szA at hszT; omega
  have hnl : t.name.length ≤ 4194304 := by omega
  have htl : t.text.length ≤ 4194304 := by omega
  have hax : ∀ x ∈ t.attrs, x.1.length ≤ 4194304 ∧ x.2.length ≤ 4194304 := fun x hx => by have := attr_le hx; omega
  have hkl : t.kids.length ≤ 2097152 := by omega
  have hmK : (t.kids.length : Int) ≤ 9223372036854775807 := by omega
  have hmA : (t.attrs.length : Int) ≤ 9223372036854775807 := by omega
  have HSZ := hide hszT
  clear hszT
  go_enter Tryz.func99, Tryz.ntmps99
  go_wp2_with fail
  generalize hW1 : (w0.alloc (.cells #[.int .i64 t.kind, .slice ab t.name.length cb, .slice ac t.text.length cc, .slice ad t.attrs.length cd, .slice ae t.kids.length ce] 61)).alloc (.cells #[.int .i64 0, .slice none 0 0, .slice none 0 0, .slice none 0 0, .slice none 0 0] 61) = w1 at *
  have hs1 : w0.heap.size + 2 ≤ w1.heap.size := by rw [← hW1]; simp
  clear hW1
  have HAX := hide hax
  clear hax
  refine region_inv (by kernel_rfl) (Cs1 w1 w0.heap.size (w0.heap.size + 1) (.agg #[.int .i64 t.kind, .slice ab t.name.length cb, .slice ac t.text.length cc, .slice ad t.attrs.length cd, .slice ae t.kids.length ce]) (.slice ab t.name.length cb) (.slice ac t.text.length cc) t.kind t.name t.text) ?sz ?h0 ?step ?dn
  case sz =>
      rintro L a w ⟨b0, b1, b2, b3, b4, b5, b6, b7, b8, b9, b10, b11, b12, x3, x6, x7, x8, x9, x10, x11, x12, x13, x14, x15, x16, rfl, _⟩
      rfl
  case h0 =>
      refine ⟨false, false, false, false, false, false, false, false, false, false, false, false, false, undef, undef, undef, undef, undef, undef, undef, undef, undef, undef, undef, undef, rfl, rfl, (Below.refl _ _).drew, ?_⟩
      simp
-- <<Cs1step
  case step =>
      intro L a w i o hI hi ho
      obtain ⟨b0, b1, b2, b3, b4, b5, b6, b7, b8, b9, b10, b11, b12, x3, x6, x7, x8, x9, x10, x11, x12, x13, x14, x15, x16, rfl, rfl, h0, h1, f0, f1, f2, f3, f4, f5, f6, f7, f8, f9, f10, f11, f12⟩ := hI
      have F12a : b12 = true → b5 = true := fun h => (f10 (f12 h).2).1
      have F12b : b12 = true → b9 = true := fun h => (f10 (f12 h).2).2.1
      rcases Cs1_cases (ready_lt hi) with rfl | rfl | rfl | rfl | rfl | rfl | rfl | rfl | rfl | rfl | rfl | rfl | rfl
      · obtain rfl := Option.some.inj ho
        go_simp
        exact ⟨true, b1, b2, b3, b4, b5, b6, b7, b8, b9, b10, b11, b12, x3, _, x7, x8, x9, x10, x11, x12, x13, x14, x15, x16, rfl, rfl, h0, h1, (fun _ => rfl), f1, f2, f3, f4, f5, f6, f7, f8, f9, f10, f11, f12⟩
      · have g0 := ready_pred hi ho 0
        obtain rfl := Option.some.inj ho
        have e0 := f0 (g0 (by kernel_rfl))
        subst e0
        have c0 : w.cell? ⟨w0.heap.size, 0, none⟩ = some (.int .i64 t.kind) := (l0.all h0).cell 0
        go_simp
        exact ⟨b0, true, b2, b3, b4, b5, b6, b7, b8, b9, b10, b11, b12, x3, _, _, x8, x9, x10, x11, x12, x13, x14, x15, x16, rfl, rfl, h0, h1, f0, (fun _ => rfl), f2, f3, f4, f5, f6, f7, f8, f9, f10, f11, f12⟩
      · obtain rfl := Option.some.inj ho
        have hb2 : b2 = false := by simpa using ready_off rfl hi
        have hb' : Below w.heap.size w (w.alloc (.cells #[] 5)) := (Below.refl _ _).alloc (Nat.le_refl _) _
        go_simp
        refine ⟨b0, b1, true, b3, b4, b5, b6, b7, b8, b9, b10, b11, b12, x3, x6, x7, _, x9, x10, x11, x12, x13, x14, x15, x16, rfl, rfl, bstep h0 hb', ?_, f0, f1, (fun _ _ => (own_none w).mono h0.size), f3, f4, (fun h => ⟨rfl, (f5 h).2.keep hb'⟩), (fun h e => (f6 h e).keep hb'), f7, f8, (fun h => ⟨(f9 h).1, (f9 h).2.keep hb'⟩), f10, (fun h => by obtain ⟨po, q1, q2, q3⟩ := f11 h; exact ⟨po, q1, q2, q3.all hb'⟩), f12⟩
        intro q hA hB
        rcases hA with ⟨e, hq⟩ | ⟨_, _, hq⟩
        · rw [(f5 e).1] at hb2; cases hb2
        · have hz : q = w.heap.size := by simpa [FB, Value.ownBlock] using hq
          rcases hB with ⟨e, hq⟩ | ⟨e, e', hq⟩
          · have := ((f9 e).2.lt q (by simpa [FB] using hq)).2; omega
          · have := ((f6 e' e).lt q (by simpa [FB] using hq)).2; omega
      · obtain rfl := Option.some.inj ho
        go_simp
        exact ⟨b0, b1, b2, true, b4, b5, b6, b7, b8, b9, b10, b11, b12, x3, x6, x7, x8, _, x10, x11, x12, x13, x14, x15, x16, rfl, rfl, h0, h1, f0, f1, f2, (fun _ => rfl), f4, f5, f6, f7, f8, f9, f10, f11, f12⟩
      · have g3 := ready_pred hi ho 3
        obtain rfl := Option.some.inj ho
        have e3 := f3 (g3 (by kernel_rfl))
        subst e3
        have c0 : w.cell? ⟨w0.heap.size, 1, none⟩ = some (.slice ab t.name.length cb) := (l0.all h0).cell 1
        go_simp
        exact ⟨b0, b1, b2, b3, true, b5, b6, b7, b8, b9, b10, b11, b12, x3, x6, x7, x8, _, _, x11, x12, x13, x14, x15, x16, rfl, rfl, h0, h1, f0, f1, f2, f3, (fun _ => rfl), f5, f6, f7, f8, f9, f10, f11, f12⟩
      · have gs := ready_pred hi ho 4
        have gr := ready_pred hi ho 2
        obtain rfl := Option.some.inj ho
        have es := f4 (gs (by kernel_rfl))
        have er : b2 = true := gr (by kernel_rfl)
        subst es er
        have hbi : b5 = false := by simpa using ready_off rfl hi
        have hown := f2 rfl hbi
        have hdr : ∀ q ∈ FB x8, ((b5 = true ∧ q ∈ FB x11) ∨ (b5 = false ∧ true = true ∧ q ∈ FB x8)) := fun q hq => .inr ⟨hbi, rfl, hq⟩
        refine step_appAt (by rfl) (.tmp 8) (.tmp 10) (by rfl) w1.heap.size x8 [] (by rfl) hown (.slice ab t.name.length cb) t.name (by rfl) (hb.keep (bstep hB1 h0)) (by simp; omega) h0.size ?_
        intro v' w' ho' hg hat
        rw [List.nil_append] at ho'
        have hF := Frm.ofGrown hg
        have hbw : Below w1.heap.size w1 w' := h0.trans (hF.below h0.size (fun q hq => (hown.lt q (by simpa using hq)).1))
        have hkp : ∀ {u : Value} {m : List Int}, Own w w1.heap.size u m → (∀ q ∈ FB u, q ∉ FB x8) → Own w' w1.heap.size u m := fun hu hd => hu.frm hF (fun q hq hq' => hd q hq hq')
        have hlk : ∀ {po : Nat} {cs : Array Value}, Loc w po cs 61 → Loc w' po cs 61 := fun hl => hl.frm hF (fun hq => own_notN hown hl (by simpa using hq))
        have hat' : ∀ q ∈ FB v', q ∈ FB x8 ∨ q = w.heap.size := fun q hq => by
          have hq' : v'.ownBlock = some q := by simpa [FB] using hq
          rcases hat with h | h
          · exact .inl (by rw [h] at hq'; simpa [FB] using hq')
          · rw [h] at hq'; exact .inr (Option.some.inj hq').symm
        refine ⟨b0, b1, true, b3, b4, true, b6, b7, b8, b9, b10, b11, b12, x3, x6, x7, x8, x9, _, _, x12, x13, x14, x15, x16, rfl, rfl, hbw, ?_, f0, f1, (fun _ e => by cases e), f3, f4, (fun _ => ⟨rfl, ho'⟩), (fun h e => hkp (f6 h e) (fun q hq hq' => h1 q (hdr q hq') (.inr ⟨e, h, hq⟩))), f7, f8, (fun h => ⟨(f9 h).1, hkp (f9 h).2 (fun q hq hq' => h1 q (hdr q hq') (.inl ⟨h, hq⟩))⟩), (fun h => by rw [(f10 h).1] at hbi; cases hbi), (fun h => by obtain ⟨po, q1, q2, q3⟩ := f11 h; refine ⟨po, q1, q2, ?_⟩; have hb12 : b12 = false := (by cases b12 with | false => rfl | true => exact absurd (F12a rfl) (by rw [hbi]; simp)); subst hb12; exact hlk q3), f12⟩
        intro q hA hB
        rcases hA with ⟨_, hq⟩ | ⟨e, _⟩
        · rcases hat' q hq with h | h
          · exact h1 q (hdr q h) hB
          · rcases hB with ⟨e, hq⟩ | ⟨e, e', hq⟩
            · have := ((f9 e).2.lt q (by simpa [FB] using hq)).2; omega
            · have := ((f6 e' e).lt q (by simpa [FB] using hq)).2; omega
        · cases e
      · obtain rfl := Option.some.inj ho
        have hb6 : b6 = false := by simpa using ready_off rfl hi
        have hb' : Below w.heap.size w (w.alloc (.cells #[] 5)) := (Below.refl _ _).alloc (Nat.le_refl _) _
        go_simp
        refine ⟨b0, b1, b2, b3, b4, b5, true, b7, b8, b9, b10, b11, b12, x3, x6, x7, x8, x9, x10, x11, _, x13, x14, x15, x16, rfl, rfl, bstep h0 hb', ?_, f0, f1, (fun h e => (f2 h e).keep hb'), f3, f4, (fun h => ⟨(f5 h).1, (f5 h).2.keep hb'⟩), (fun _ _ => (own_none w).mono h0.size), f7, f8, (fun h => ⟨rfl, (f9 h).2.keep hb'⟩), f10, (fun h => by obtain ⟨po, q1, q2, q3⟩ := f11 h; exact ⟨po, q1, q2, q3.all hb'⟩), f12⟩
        intro q hA hB
        rcases hB with ⟨e, hq⟩ | ⟨_, _, hq⟩
        · rw [(f9 e).1] at hb6; cases hb6
        · have hz : q = w.heap.size := by simpa [FB, Value.ownBlock] using hq
          rcases hA with ⟨e, hq⟩ | ⟨e, e', hq⟩
          · have := ((f5 e).2.lt q (by simpa [FB] using hq)).2; omega
          · have := ((f2 e' e).lt q (by simpa [FB] using hq)).2; omega
      · obtain rfl := Option.some.inj ho
        go_simp
        exact ⟨b0, b1, b2, b3, b4, b5, b6, true, b8, b9, b10, b11, b12, x3, x6, x7, x8, x9, x10, x11, x12, _, x14, x15, x16, rfl, rfl, h0, h1, f0, f1, f2, f3, f4, f5, f6, (fun _ => rfl), f8, f9, f10, f11, f12⟩
      · have g7 := ready_pred hi ho 7
        obtain rfl := Option.some.inj ho
        have e7 := f7 (g7 (by kernel_rfl))
        subst e7
        have c0 : w.cell? ⟨w0.heap.size, 2, none⟩ = some (.slice ac t.text.length cc) := (l0.all h0).cell 2
        go_simp
        exact ⟨b0, b1, b2, b3, b4, b5, b6, b7, true, b9, b10, b11, b12, x3, x6, x7, x8, x9, x10, x11, x12, _, _, x15, x16, rfl, rfl, h0, h1, f0, f1, f2, f3, f4, f5, f6, f7, (fun _ => rfl), f9, f10, f11, f12⟩
      · have gs := ready_pred hi ho 8
        have gr := ready_pred hi ho 6
        obtain rfl := Option.some.inj ho
        have es := f8 (gs (by kernel_rfl))
        have er : b6 = true := gr (by kernel_rfl)
        subst es er
        have hbi : b9 = false := by simpa using ready_off rfl hi
        have hown := f6 rfl hbi
        have hdr : ∀ q ∈ FB x12, ((b9 = true ∧ q ∈ FB x15) ∨ (b9 = false ∧ true = true ∧ q ∈ FB x12)) := fun q hq => .inr ⟨hbi, rfl, hq⟩
        refine step_appAt (by rfl) (.tmp 12) (.tmp 14) (by rfl) w1.heap.size x12 [] (by rfl) hown (.slice ac t.text.length cc) t.text (by rfl) (hc.keep (bstep hB1 h0)) (by simp; omega) h0.size ?_
        intro v' w' ho' hg hat
        rw [List.nil_append] at ho'
        have hF := Frm.ofGrown hg
        have hbw : Below w1.heap.size w1 w' := h0.trans (hF.below h0.size (fun q hq => (hown.lt q (by simpa using hq)).1))
        have hkp : ∀ {u : Value} {m : List Int}, Own w w1.heap.size u m → (∀ q ∈ FB u, q ∉ FB x12) → Own w' w1.heap.size u m := fun hu hd => hu.frm hF (fun q hq hq' => hd q hq hq')
        have hlk : ∀ {po : Nat} {cs : Array Value}, Loc w po cs 61 → Loc w' po cs 61 := fun hl => hl.frm hF (fun hq => own_notN hown hl (by simpa using hq))
        have hat' : ∀ q ∈ FB v', q ∈ FB x12 ∨ q = w.heap.size := fun q hq => by
          have hq' : v'.ownBlock = some q := by simpa [FB] using hq
          rcases hat with h | h
          · exact .inl (by rw [h] at hq'; simpa [FB] using hq')
          · rw [h] at hq'; exact .inr (Option.some.inj hq').symm
        refine ⟨b0, b1, b2, b3, b4, b5, true, b7, b8, true, b10, b11, b12, x3, x6, x7, x8, x9, x10, x11, x12, x13, _, _, x16, rfl, rfl, hbw, ?_, f0, f1, (fun h e => hkp (f2 h e) (fun q hq hq' => h1 q (.inr ⟨e, h, hq⟩) (hdr q hq'))), f3, f4, (fun h => ⟨(f5 h).1, hkp (f5 h).2 (fun q hq hq' => h1 q (.inl ⟨h, hq⟩) (hdr q hq'))⟩), (fun _ e => by cases e), f7, f8, (fun _ => ⟨rfl, ho'⟩), (fun h => by rw [(f10 h).2.1] at hbi; cases hbi), (fun h => by obtain ⟨po, q1, q2, q3⟩ := f11 h; refine ⟨po, q1, q2, ?_⟩; have hb12 : b12 = false := (by cases b12 with | false => rfl | true => exact absurd (F12b rfl) (by rw [hbi]; simp)); subst hb12; exact hlk q3), f12⟩
        intro q hA hB
        rcases hB with ⟨_, hq⟩ | ⟨e, _⟩
        · rcases hat' q hq with h | h
          · exact h1 q hA (hdr q h)
          · rcases hA with ⟨e, hq⟩ | ⟨e, e', hq⟩
            · have := ((f5 e).2.lt q (by simpa [FB] using hq)).2; omega
            · have := ((f2 e' e).lt q (by simpa [FB] using hq)).2; omega
        · cases e
      · have g1 := ready_pred hi ho 1
        have g5 := ready_pred hi ho 5
        have g9 := ready_pred hi ho 9
        obtain rfl := Option.some.inj ho
        have e1 := f1 (g1 (by kernel_rfl))
        have e5 : b5 = true := g5 (by kernel_rfl)
        have e9 : b9 = true := g9 (by kernel_rfl)
        subst e1 e5 e9
        have e2 := (f5 rfl).1
        have e6 := (f9 rfl).1
        subst e2 e6
        obtain ⟨p2, k2', hv2, _, _⟩ := (f5 rfl).2.byt.shape
        obtain ⟨p3, k3', hv3, _, _⟩ := (f9 rfl).2.byt.shape
        subst hv2 hv3
        go_simp
        exact ⟨b0, b1, true, b3, b4, true, true, b7, b8, true, true, b11, b12, x3, x6, _, x8, x9, x10, _, x12, x13, x14, _, _, rfl, rfl, h0, h1, f0, f1, f2, f3, f4, f5, f6, f7, f8, f9, (fun _ => ⟨rfl, rfl, rfl⟩), f11, (fun h => ⟨(f12 h).1, rfl⟩)⟩
      · obtain rfl := Option.some.inj ho
        have hb11 : b11 = false := by simpa using ready_off rfl hi
        have hb12 : b12 = false := by
          cases b12 with
          | false => rfl
          | true => rw [(f12 rfl).1] at hb11; cases hb11
        subst hb12
        have hb' : Below w.heap.size w (w.alloc (.cells #[.int .i64 0, .slice none 0 0, .slice none 0 0, .slice none 0 0, .slice none 0 0] 61)) := (Below.refl _ _).alloc (Nat.le_refl _) _
        go_simp
        exact ⟨b0, b1, b2, b3, b4, b5, b6, b7, b8, b9, b10, true, false, _, x6, x7, x8, x9, x10, x11, x12, x13, x14, x15, x16, rfl, rfl, bstep h0 hb', h1, f0, f1, (fun h e => (f2 h e).keep hb'), f3, f4, (fun h => ⟨(f5 h).1, (f5 h).2.keep hb'⟩), (fun h e => (f6 h e).keep hb'), f7, f8, (fun h => ⟨(f9 h).1, (f9 h).2.keep hb'⟩), f10, (fun _ => ⟨w.heap.size, rfl, h0.size, Loc.made w _ _⟩), (fun h => by cases h)⟩
      · have g10 := ready_pred hi ho 10
        have g11 := ready_pred hi ho 11
        obtain rfl := Option.some.inj ho
        have e11 : b11 = true := g11 (by kernel_rfl)
        have e10 : b10 = true := g10 (by kernel_rfl)
        obtain ⟨e5, e9, e17⟩ := f10 e10
        have hb12 : b12 = false := by simpa using ready_off rfl hi
        subst e5 e9 e10 e11 e17 hb12
        have e2 := (f5 rfl).1
        have e6 := (f9 rfl).1
        subst e2 e6
        obtain ⟨po, q1, q2, q3⟩ := f11 rfl
        replace q3 : Loc w po #[.int .i64 0, .slice none 0 0, .slice none 0 0, .slice none 0 0, .slice none 0 0] 61 := q3
        subst q1
        obtain ⟨p2, k2', hv2, _, _⟩ := (f5 rfl).2.byt.shape
        obtain ⟨p3, k3', hv3, _, _⟩ := (f9 rfl).2.byt.shape
        subst hv2 hv3
        obtain ⟨y0, y1, y2, y3, y4⟩ := q3.five
        have u0 := q3.frozen 0
        have u1 := q3.frozen 1
        have u2 := q3.frozen 2
        have u3 := q3.frozen 3
        have u4 := q3.frozen 4
        obtain ⟨s1, s2⟩ := store5 q3 (.int .i64 t.kind) (.slice p2 t.name.length k2') (.slice p3 t.text.length k3') (.slice none 0 0) (.slice none 0 0)
        have s3 := h0.trans (s2.below h0.size (fun g hg => by have e : g = po := (by simpa using hg); omega))
        have s4 := (f5 rfl).2.frm s2 (fun g hg hg' => own_notN (f5 rfl).2 q3 (by have e : g = po := (by simpa using hg'); rw [← e]; simpa [FB] using hg))
        have s5 := (f9 rfl).2.frm s2 (fun g hg hg' => own_notN (f9 rfl).2 q3 (by have e : g = po := (by simpa using hg'); rw [← e]; simpa [FB] using hg))
        go_simp
        exact ⟨b0, b1, true, b3, b4, true, true, b7, b8, true, true, true, true, _, x6, x7, x8, x9, x10, _, x12, x13, x14, _, _, rfl, rfl, s3, h1, f0, f1, (fun _ e => by cases e), f3, f4, (fun _ => ⟨(f5 rfl).1, s4⟩), (fun _ e => by cases e), f7, f8, (fun _ => ⟨(f9 rfl).1, s5⟩), (fun _ => ⟨rfl, rfl, rfl⟩), (fun _ => ⟨po, rfl, q2, s1⟩), (fun _ => ⟨rfl, rfl⟩)⟩
-- Cs1step>>
  case dn =>
    intro L a w2 hI hre
    have hall := ready_all (L := L) (by obtain ⟨b0, b1, b2, b3, b4, b5, b6, b7, b8, b9, b10, b11, b12, x3, x6, x7, x8, x9, x10, x11, x12, x13, x14, x15, x16, rfl, _⟩ := hI; rfl) (by kernel_rfl) hre 13
    obtain ⟨b0, b1, b2, b3, b4, b5, b6, b7, b8, b9, b10, b11, b12, x3, x6, x7, x8, x9, x10, x11, x12, x13, x14, x15, x16, rfl, rfl, h0, h1, f0, f1, f2, f3, f4, f5, f6, f7, f8, f9, f10, f11, f12⟩ := hI
    have s5 : b5 = true := hall 5 (by omega) (by decide)
    have s8 : b9 = true := hall 9 (by omega) (by decide)
    have s10 : b11 = true := hall 11 (by omega) (by decide)
    have s11 : b12 = true := hall 12 (by omega) (by decide)
    subst s5 s8 s10 s11
    obtain ⟨po, q1, q2, q3⟩ := f11 rfl
    replace q3 : Loc w2 po #[.int .i64 t.kind, x11, x15, .slice none 0 0, .slice none 0 0] 61 := q3
    have r0 := (f5 rfl).2
    have r1 := (f9 rfl).2
    subst q1
    have hO : OutAt n w1.heap.size w2 po t.kind x11 x15 (.slice none 0 0) (.slice none 0 0) t.name t.text (t.attrs.take 0) (t.kids.take 0) [] [] := by
      refine ⟨q3, r0.mono (Nat.zero_le _), r1.mono (Nat.zero_le _), OwElems.naught _ _ _ _, OwElems.naught _ _ _ _, ?_, fun q hq => ?_⟩
      · rw [List.append_nil, List.append_nil]
        exact List.nodup_append.2 ⟨FB_nodup _, FB_nodup _, fun a ha b hb e => h1 a (.inl ⟨rfl, ha⟩) (.inl ⟨rfl, e ▸ hb⟩)⟩
      · have hq' : q ∈ FB x11 ∨ q ∈ FB x15 := by simpa using hq
        rcases hq' with h | h
        · exact ⟨(r0.lt q (by simpa [FB] using h)).1, (r0.lt q (by simpa [FB] using h)).2, fun e => own_notN r0 q3 (by rw [← e]; simpa [FB] using h)⟩
        · exact ⟨(r1.lt q (by simpa [FB] using h)).1, (r1.lt q (by simpa [FB] using h)).2, fun e => own_notN r1 q3 (by rw [← e]; simpa [FB] using h)⟩
    clear hall f0 f1 f2 f3 f4 f5 f6 f7 f8 f9 f10 f11 f12 hre h1
    obtain ⟨p2, k2', hv2, _, _⟩ := r0.byt.shape
    obtain ⟨p3, k3', hv3, _, _⟩ := r1.byt.shape
    subst hv2 hv3
    have hB2 : Below w0.heap.size w0 w2 := bstep hB1 h0
    have lr2 := l1.all h0
    have lb2 := l0.all h0
    have hlo : w1.heap.size ≤ w2.heap.size := h0.size
    have hpo := q3.lt
    have hpb : ¬ w0.heap.size = po := by omega
    have hpr : ¬ w0.heap.size + 1 = po := by omega
    clear r0 r1 q3 x0 x1 x2 x3 x4 hb hc h0 l0 l1
    obtain ⟨i0, hi0, hz0, hz1, hz2⟩ := info_parts Tryz.info157
    go_wp2_with fail
    go_loopw [4] (fun i wr => ∃ j : Nat, j ≤ t.attrs.length ∧ i = .int .i64 j ∧ ∃ va vn vc Fa, OutAt n w1.heap.size wr po t.kind (.slice p2 t.name.length k2') (.slice p3 t.text.length k3') (.slice va vn vc) (.slice none 0 0) t.name t.text (t.attrs.take j) (t.kids.take 0) Fa [] ∧ Below w0.heap.size w0 wr ∧ Loc wr w0.heap.size #[.int .i64 t.kind, .slice ab t.name.length cb, .slice ac t.text.length cc, .slice ad t.attrs.length cd, .slice ae t.kids.length ce] 61 ∧ Loc wr (w0.heap.size + 1) #[.int .i64 0, .slice none 0 0, .slice none 0 0, .slice none 0 0, .slice none 0 0] 61 ∧ w1.heap.size ≤ wr.heap.size) (fun i _ => t.attrs.length - (intOf i).toNat)
    case atStart => exact ⟨0, Nat.zero_le _, rfl, none, 0, 0, [], hO, hB2, lb2, lr2, hlo⟩
    case round =>
      clear hO hB2 lr2 lb2 hlo hpo
      obtain ⟨j, hj, rfl, va, vn, vc, Fa, hO, hBr, lb, lr, hlo⟩ := hrel
      have c3 : wr.cell? ⟨w0.heap.size, 3, none⟩ = some (.slice ad t.attrs.length cd) := lb.cell 3
      by_cases hjl : j < t.attrs.length
      · have hjl' : (j : Int) < (t.attrs.length : Int) := by omega
        obtain ⟨pb, poff, hpa, hpl, hun, _, C, hC, hcell, hra⟩ := hd.at hjl
        clear hun
        subst hpa
        obtain ⟨x, hx⟩ : ∃ x, x = t.attrs[j] := ⟨_, rfl⟩
        have hxm : x ∈ t.attrs := by rw [hx]; exact List.getElem_mem hjl
        have hxs := unhide HAX x hxm
        have HTK := hide (show t.attrs.take (j + 1) = t.attrs.take j ++ [x] by rw [List.take_succ_eq_append_getElem hjl, ← hx])
        rw [← hx] at hra
        obtain ⟨y0, y1, rfl, hy0, hy1⟩ := hra
        have u0 := hcell 0 (by omega)
        have u1 := hcell 1 (by omega)
        simp only [List.getElem?_cons_zero, List.getElem?_cons_succ, Nat.add_zero] at u0 u1
        obtain ⟨n1, n2, rfl, _, _⟩ := hy0.shape
        obtain ⟨v1, v2, rfl, _, _⟩ := hy1.shape
        have hvF : ∀ q ∈ FB (.slice va vn vc), q ∈ Fa := fun q hq => by
          obtain ⟨_, _, _, _, _, _, rfl⟩ := hO.attrs
          exact List.mem_append_left _ hq
        have hFlt : ∀ q ∈ Fa, q < wr.heap.size := fun q hq => (hO.rng q (by simp only [List.mem_append]; exact .inl (.inr hq))).2.1
        have hNd : Fa.Nodup := (List.nodup_append.1 (List.nodup_append.1 hO.nodup).1).2.1
        clear hC hcell hx c3
        have c3 : wr.cell? ⟨w0.heap.size, 3, none⟩ = some (.slice (some ⟨pb, poff, none⟩) t.attrs.length cd) := lb.cell 3
        go_wp2_with fail
        have hxb : poff + j * 2 + 1 = poff + j * 2 + 1 := rfl
        clear hxb
        have hbS : w0.heap.size ∉ FB (.slice va vn vc) ++ [po] := fun h => by
          rcases List.mem_append.1 h with h | h
          · have := (hO.rng _ (by simp only [List.mem_append]; exact .inl (.inr (hvF _ h)))).1; omega
          · have e : w0.heap.size = po := by simpa using h
            omega
        have hBw : ∀ {w : World}, Frm wr w (FB (.slice va vn vc) ++ [po]) → Below w0.heap.size w0 w := fun f => hBr.trans (f.below hBr.size (fun q hq => by
          rcases List.mem_append.1 hq with h | h
          · have := (hO.rng q (by simp only [List.mem_append]; exact .inl (.inr (hvF q h)))).1; omega
          · have e : q = po := by simpa using h
            omega))
        refine region_inv (by kernel_rfl) (Cs5 wr w0.heap.size po pb poff j cd vn vc va (.slice p2 t.name.length k2') (.slice p3 t.text.length k3') (.slice n1 x.1.length n2) (.slice v1 x.2.length v2) t.kind t.attrs x Fa (.agg #[.int .i64 t.kind, .slice ab t.name.length cb, .slice ac t.text.length cc, .slice (some ⟨pb, poff, none⟩) t.attrs.length cd, .slice ae t.kids.length ce]) (.pointer (some ⟨w0.heap.size + 1, 0, none⟩)) undef x6 x7 x8 x9 x10 (.slice p2 t.name.length k2') x12 x13 x14 (.slice p3 t.text.length k3') x16 (.int .i64 j) (.pointer (some ⟨w0.heap.size, 3, none⟩)) (.slice (some ⟨pb, poff, none⟩) t.attrs.length cd) (.int .i64 t.attrs.length) (.bool true) u22 u23 undef undef undef undef undef undef undef undef undef undef undef undef undef undef undef undef undef undef undef) ?sz5 ?h05 ?step5 ?dn5
        case sz5 =>
          rintro L a w ⟨b0, b1, b2, b3, b4, b5, b6, b7, b8, b9, b10, b11, b12, b13, b14, b15, b16, b17, b18, b19, b20, b21, b22, x24, x25, x26, x27, x28, x29, x30, x31, x32, x33, x34, x35, x36, x37, x38, x39, x40, x41, x42, x43, x44, x45, rfl, _⟩
          rfl
        case h05 =>
          refine ⟨false, false, false, false, false, false, false, false, false, false, false, false, false, false, false, false, false, false, false, false, false, false, false, u24, u25, u26, u27, u28, u29, u30, u31, u32, u33, u34, u35, u36, u37, u38, u39, u40, u41, u42, u43, u44, u45, rfl, rfl, Frm.ofBelow ((Below.refl _ _).drew) _, ?_, hO.loc.all ((Below.refl _ _).drew), fun _ => OwAttrs.frm hO.attrs (Frm.ofBelow ((Below.refl _ _).drew) []) (fun _ _ => by simp), ?_⟩
          · intro q h
            simp at h
          · simp
-- <<Cs5step
        case step5 =>
          intro L a w i o hI hi ho
          obtain ⟨b0, b1, b2, b3, b4, b5, b6, b7, b8, b9, b10, b11, b12, b13, b14, b15, b16, b17, b18, b19, b20, b21, b22, x24, x25, x26, x27, x28, x29, x30, x31, x32, x33, x34, x35, x36, x37, x38, x39, x40, x41, x42, x43, x44, x45, rfl, rfl, h0, h1, h2, h3, f0, f1, f2, f3, f4, f5, f6, f7, f8, f9, f10, f11, f12, f13, f14, f15, f16, f17, f18, f19, f20, f21, f22⟩ := hI
          rcases Cs5_cases (ready_lt hi) with rfl | rfl | rfl | rfl | rfl | rfl | rfl | rfl | rfl | rfl | rfl | rfl | rfl | rfl | rfl | rfl | rfl | rfl | rfl | rfl | rfl | rfl | rfl
          · obtain rfl := Option.some.inj ho
            go_simp
            exact ⟨true, b1, b2, b3, b4, b5, b6, b7, b8, b9, b10, b11, b12, b13, b14, b15, b16, b17, b18, b19, b20, b21, b22, _, x25, x26, x27, x28, x29, x30, x31, x32, x33, x34, x35, x36, x37, x38, x39, x40, x41, x42, x43, x44, x45, rfl, rfl, h0, h1, h2, h3, (fun _ => rfl), f1, f2, f3, f4, f5, f6, f7, f8, f9, f10, f11, f12, f13, f14, f15, f16, f17, f18, f19, f20, f21, f22⟩
          · have g0 := ready_pred hi ho 0
            obtain rfl := Option.some.inj ho
            have e0 := f0 (g0 (by kernel_rfl))
            subst e0
            have hbi : b1 = false := by simpa using ready_off rfl hi
            have hb22 : b22 = false := by
              cases b22 with
              | false => rfl
              | true => have := (f20 (f22 rfl)).1; rw [hbi] at this; cases this
            subst hb22
            replace h2 : Loc w po #[.int .i64 t.kind, .slice p2 t.name.length k2', .slice p3 t.text.length k3', .slice va vn vc, .slice none 0 0] 61 := h2
            have c0 : w.cell? ⟨po, 3, none⟩ = some (.slice va vn vc) := h2.cell 3
            go_simp
            exact ⟨b0, true, b2, b3, b4, b5, b6, b7, b8, b9, b10, b11, b12, b13, b14, b15, b16, b17, b18, b19, b20, b21, false, _, _, x26, x27, x28, x29, x30, x31, x32, x33, x34, x35, x36, x37, x38, x39, x40, x41, x42, x43, x44, x45, rfl, rfl, h0, h1, h2, h3, f0, (fun _ => rfl), f2, f3, f4, f5, f6, f7, f8, f9, f10, f11, f12, f13, f14, f15, f16, f17, f18, f19, (fun h => by have := (f20 h).1; rw [hbi] at this; cases this), f21, (fun h => by cases h)⟩
          · obtain rfl := Option.some.inj ho
            have hbi : b2 = false := by simpa using ready_off rfl hi
            have hb' : Below w.heap.size w (w.alloc (.cells #[] 5)) := (Below.refl _ _).alloc (Nat.le_refl _) _
            go_simp
            refine ⟨b0, b1, true, b3, b4, b5, b6, b7, b8, b9, b10, b11, b12, b13, b14, b15, b16, b17, b18, b19, b20, b21, b22, x24, x25, _, x27, x28, x29, x30, x31, x32, x33, x34, x35, x36, x37, x38, x39, x40, x41, x42, x43, x44, x45, rfl, rfl, h0.trans (Frm.ofBelow hb' _), ?_, h2.all hb', (fun e => OwAttrs.frm (h3 e) (Frm.ofBelow hb' []) (fun _ _ => by simp)), f0, f1, (fun _ _ => (own_none w).mono h0.size), f3, f4, f5, f6, f7, f8, (fun h => ⟨rfl, (f9 h).2.keep hb'⟩), (fun h e => (f10 h e).keep hb'), f11, f12, f13, f14, f15, f16, (fun h => ⟨(f17 h).1, (f17 h).2.keep hb'⟩), f18, (fun h => by obtain ⟨z0, z, q1, q2, q3⟩ := f19 h; exact ⟨z0, z, q1, q2, q3.all hb'⟩), (fun h => by obtain ⟨z0, z1, g9, cap9, F9, q1, q2, q3, q4⟩ := f20 h; exact ⟨z0, z1, g9, cap9, F9, q1, OwAttrs.frm q2 (Frm.ofBelow hb' []) (fun _ _ => by simp), q3, fun q hq => ⟨(q4 q hq).1, Nat.lt_of_lt_of_le (q4 q hq).2 hb'.size⟩⟩), f21, f22⟩
            intro q hA hB
            rcases hA with ⟨e, hq⟩ | ⟨_, _, hq⟩
            · have := (f9 e).1; rw [hbi] at this; cases this
            · have hz : q = w.heap.size := by simpa [FB, Value.ownBlock] using hq
              rcases hB with ⟨e, hq⟩ | ⟨e, e', hq⟩
              · have := ((f17 e).2.lt q (by simpa [FB] using hq)).2; omega
              · have := ((f10 e' e).lt q (by simpa [FB] using hq)).2; omega
          · obtain rfl := Option.some.inj ho
            go_simp
            exact ⟨b0, b1, b2, true, b4, b5, b6, b7, b8, b9, b10, b11, b12, b13, b14, b15, b16, b17, b18, b19, b20, b21, b22, x24, x25, x26, _, x28, x29, x30, x31, x32, x33, x34, x35, x36, x37, x38, x39, x40, x41, x42, x43, x44, x45, rfl, rfl, h0, h1, h2, h3, f0, f1, f2, (fun _ => rfl), f4, f5, f6, f7, f8, f9, f10, f11, f12, f13, f14, f15, f16, f17, f18, f19, f20, f21, f22⟩
          · have g3 := ready_pred hi ho 3
            obtain rfl := Option.some.inj ho
            have e3 := f3 (g3 (by kernel_rfl))
            subst e3
            have c0 : w.cell? ⟨w0.heap.size, 3, none⟩ = some (.slice (some ⟨pb, poff, none⟩) t.attrs.length cd) := (lb.frm h0 hbS).cell 3
            go_simp
            exact ⟨b0, b1, b2, b3, true, b5, b6, b7, b8, b9, b10, b11, b12, b13, b14, b15, b16, b17, b18, b19, b20, b21, b22, x24, x25, x26, _, _, x29, x30, x31, x32, x33, x34, x35, x36, x37, x38, x39, x40, x41, x42, x43, x44, x45, rfl, rfl, h0, h1, h2, h3, f0, f1, f2, f3, (fun _ => rfl), f5, f6, f7, f8, f9, f10, f11, f12, f13, f14, f15, f16, f17, f18, f19, f20, f21, f22⟩
          · obtain rfl := Option.some.inj ho
            go_simp
            exact ⟨b0, b1, b2, b3, b4, true, b6, b7, b8, b9, b10, b11, b12, b13, b14, b15, b16, b17, b18, b19, b20, b21, b22, x24, x25, x26, x27, x28, _, x30, x31, x32, x33, x34, x35, x36, x37, x38, x39, x40, x41, x42, x43, x44, x45, rfl, rfl, h0, h1, h2, h3, f0, f1, f2, f3, f4, (fun _ => rfl), f6, f7, f8, f9, f10, f11, f12, f13, f14, f15, f16, f17, f18, f19, f20, f21, f22⟩
          · have g4 := ready_pred hi ho 4
            have g5 := ready_pred hi ho 5
            obtain rfl := Option.some.inj ho
            have e4 := f4 (g4 (by kernel_rfl))
            subst e4
            have e5 := f5 (g5 (by kernel_rfl))
            subst e5
            go_simp
            exact ⟨b0, b1, b2, b3, b4, b5, true, b7, b8, b9, b10, b11, b12, b13, b14, b15, b16, b17, b18, b19, b20, b21, b22, x24, x25, x26, x27, _, _, _, x31, x32, x33, x34, x35, x36, x37, x38, x39, x40, x41, x42, x43, x44, x45, rfl, rfl, h0, h1, h2, h3, f0, f1, f2, f3, f4, f5, (fun _ => rfl), f7, f8, f9, f10, f11, f12, f13, f14, f15, f16, f17, f18, f19, f20, f21, f22⟩
          · have g6 := ready_pred hi ho 6
            obtain rfl := Option.some.inj ho
            have e6 := f6 (g6 (by kernel_rfl))
            subst e6
            go_simp
            exact ⟨b0, b1, b2, b3, b4, b5, b6, true, b8, b9, b10, b11, b12, b13, b14, b15, b16, b17, b18, b19, b20, b21, b22, x24, x25, x26, x27, x28, x29, _, _, x32, x33, x34, x35, x36, x37, x38, x39, x40, x41, x42, x43, x44, x45, rfl, rfl, h0, h1, h2, h3, f0, f1, f2, f3, f4, f5, f6, (fun _ => rfl), f8, f9, f10, f11, f12, f13, f14, f15, f16, f17, f18, f19, f20, f21, f22⟩
          · have g7 := ready_pred hi ho 7
            obtain rfl := Option.some.inj ho
            have e7 := f7 (g7 (by kernel_rfl))
            subst e7
            have c0 : w.cell? ⟨pb, poff + j * 2, none⟩ = some (.slice n1 x.1.length n2) := ((hBw h0).cell (p := ⟨pb, poff + j * 2, none⟩) hpl).trans u0
            go_simp
            exact ⟨b0, b1, b2, b3, b4, b5, b6, b7, true, b9, b10, b11, b12, b13, b14, b15, b16, b17, b18, b19, b20, b21, b22, x24, x25, x26, x27, x28, x29, x30, _, _, x33, x34, x35, x36, x37, x38, x39, x40, x41, x42, x43, x44, x45, rfl, rfl, h0, h1, h2, h3, f0, f1, f2, f3, f4, f5, f6, f7, (fun _ => rfl), f9, f10, f11, f12, f13, f14, f15, f16, f17, f18, f19, f20, f21, f22⟩
          · have gs := ready_pred hi ho 8
            have gr := ready_pred hi ho 2
            have g9' := ready_pred hi ho 9
            obtain rfl := Option.some.inj ho
            have es := f8 (gs (by kernel_rfl))
            have er : b2 = true := gr (by kernel_rfl)
            clear g9'
            subst es er
            have hbi : b9 = false := by simpa using ready_off rfl hi
            have hown := f2 rfl hbi
            have hdr : ∀ q ∈ FB x26, ((b9 = true ∧ q ∈ FB x33) ∨ (b9 = false ∧ true = true ∧ q ∈ FB x26)) := fun q hq => .inr ⟨hbi, rfl, hq⟩
            refine step_appAt (by rfl) (.tmp 26) (.tmp 32) (by rfl) wr.heap.size x26 [] (by rfl) hown (.slice n1 x.1.length n2) x.1 (by rfl) (hy0.keep (hBw h0)) (by simp; omega) h0.size ?_
            intro v' w' ho' hg hat
            rw [List.nil_append] at ho'
            have hF := Frm.ofGrown hg
            have hFS : Frm wr w' (FB (.slice va vn vc) ++ [po]) := h0.more hF (fun q hq => .inr (hown.lt q (by simpa using hq)).1)
            have hkp : ∀ {u : Value} {m : List Int}, Own w wr.heap.size u m → (∀ q ∈ FB u, q ∉ FB x26) → Own w' wr.heap.size u m := fun hu hd => hu.frm hF (fun q hq hq' => hd q hq hq')
            have hlk := h2.frm hF (fun hq => own_notN hown h2 (by simpa using hq))
            have hat' : ∀ q ∈ FB v', q ∈ FB x26 ∨ q = w.heap.size := fun q hq => by
              have hq' : v'.ownBlock = some q := by simpa [FB] using hq
              rcases hat with h | h
              · exact .inl (by rw [h] at hq'; simpa [FB] using hq')
              · rw [h] at hq'; exact .inr (Option.some.inj hq').symm
            refine ⟨b0, b1, true, b3, b4, b5, b6, b7, b8, true, b10, b11, b12, b13, b14, b15, b16, b17, b18, b19, b20, b21, b22, x24, x25, x26, x27, x28, x29, x30, x31, _, _, x34, x35, x36, x37, x38, x39, x40, x41, x42, x43, x44, x45, rfl, rfl, hFS, ?_, hlk, (fun e => OwAttrs.frm (h3 e) hF (fun q hq hq' => by have := hFlt q hq; have := (hown.lt q (by simpa using hq')).1; omega)), f0, f1, (fun _ e => by cases e), f3, f4, f5, f6, f7, f8, (fun _ => ⟨rfl, ho'⟩), (fun h e => hkp (f10 h e) (fun q hq hq' => h1 q (hdr q hq') (.inr ⟨e, h, hq⟩))), f11, f12, f13, f14, f15, f16, (fun h => by have := (f17 h).1.2; rw [hbi] at this; cases this), (fun h => by have := (f18 h).1; rw [hbi] at this; cases this), (fun h => by have := (f18 (f19 h).1).1; rw [hbi] at this; cases this), (fun h => by have := (f17 (f20 h).2.1).1.2; rw [hbi] at this; cases this), f21, f22⟩
            intro q hA hB
            rcases hA with ⟨_, hq⟩ | ⟨e, _⟩
            · rcases hat' q hq with h | h
              · exact h1 q (hdr q h) hB
              · rcases hB with ⟨e, hq⟩ | ⟨e, e', hq⟩
                · have := ((f17 e).2.lt q (by simpa [FB] using hq)).2; omega
                · have := ((f10 e' e).lt q (by simpa [FB] using hq)).2; omega
            · cases e
          · obtain rfl := Option.some.inj ho
            have hbi : b10 = false := by simpa using ready_off rfl hi
            have hb' : Below w.heap.size w (w.alloc (.cells #[] 5)) := (Below.refl _ _).alloc (Nat.le_refl _) _
            go_simp
            refine ⟨b0, b1, b2, b3, b4, b5, b6, b7, b8, b9, true, b11, b12, b13, b14, b15, b16, b17, b18, b19, b20, b21, b22, x24, x25, x26, x27, x28, x29, x30, x31, x32, x33, _, x35, x36, x37, x38, x39, x40, x41, x42, x43, x44, x45, rfl, rfl, h0.trans (Frm.ofBelow hb' _), ?_, h2.all hb', (fun e => OwAttrs.frm (h3 e) (Frm.ofBelow hb' []) (fun _ _ => by simp)), f0, f1, (fun h e => (f2 h e).keep hb'), f3, f4, f5, f6, f7, f8, (fun h => ⟨(f9 h).1, (f9 h).2.keep hb'⟩), (fun _ _ => (own_none w).mono h0.size), f11, f12, f13, f14, f15, f16, (fun h => ⟨⟨rfl, (f17 h).1.2⟩, (f17 h).2.keep hb'⟩), f18, (fun h => by obtain ⟨z0, z, q1, q2, q3⟩ := f19 h; exact ⟨z0, z, q1, q2, q3.all hb'⟩), (fun h => by obtain ⟨z0, z1, g9, cap9, F9, q1, q2, q3, q4⟩ := f20 h; exact ⟨z0, z1, g9, cap9, F9, q1, OwAttrs.frm q2 (Frm.ofBelow hb' []) (fun _ _ => by simp), q3, fun q hq => ⟨(q4 q hq).1, Nat.lt_of_lt_of_le (q4 q hq).2 hb'.size⟩⟩), f21, f22⟩
            intro q hA hB
            rcases hB with ⟨e, hq⟩ | ⟨_, _, hq⟩
            · have := (f17 e).1.1; rw [hbi] at this; cases this
            · have hz : q = w.heap.size := by simpa [FB, Value.ownBlock] using hq
              rcases hA with ⟨e, hq⟩ | ⟨e, e', hq⟩
              · have := ((f9 e).2.lt q (by simpa [FB] using hq)).2; omega
              · have := ((f2 e' e).lt q (by simpa [FB] using hq)).2; omega
          · obtain rfl := Option.some.inj ho
            go_simp
            exact ⟨b0, b1, b2, b3, b4, b5, b6, b7, b8, b9, b10, true, b12, b13, b14, b15, b16, b17, b18, b19, b20, b21, b22, x24, x25, x26, x27, x28, x29, x30, x31, x32, x33, x34, _, x36, x37, x38, x39, x40, x41, x42, x43, x44, x45, rfl, rfl, h0, h1, h2, h3, f0, f1, f2, f3, f4, f5, f6, f7, f8, f9, f10, (fun _ => rfl), f12, f13, f14, f15, f16, f17, f18, f19, f20, f21, f22⟩
          · have g11 := ready_pred hi ho 11
            obtain rfl := Option.some.inj ho
            have e11 := f11 (g11 (by kernel_rfl))
            subst e11
            have c0 : w.cell? ⟨w0.heap.size, 3, none⟩ = some (.slice (some ⟨pb, poff, none⟩) t.attrs.length cd) := (lb.frm h0 hbS).cell 3
            go_simp
            exact ⟨b0, b1, b2, b3, b4, b5, b6, b7, b8, b9, b10, b11, true, b13, b14, b15, b16, b17, b18, b19, b20, b21, b22, x24, x25, x26, x27, x28, x29, x30, x31, x32, x33, x34, _, _, x37, x38, x39, x40, x41, x42, x43, x44, x45, rfl, rfl, h0, h1, h2, h3, f0, f1, f2, f3, f4, f5, f6, f7, f8, f9, f10, f11, (fun _ => rfl), f13, f14, f15, f16, f17, f18, f19, f20, f21, f22⟩
          · obtain rfl := Option.some.inj ho
            go_simp
            exact ⟨b0, b1, b2, b3, b4, b5, b6, b7, b8, b9, b10, b11, b12, true, b14, b15, b16, b17, b18, b19, b20, b21, b22, x24, x25, x26, x27, x28, x29, x30, x31, x32, x33, x34, x35, x36, _, x38, x39, x40, x41, x42, x43, x44, x45, rfl, rfl, h0, h1, h2, h3, f0, f1, f2, f3, f4, f5, f6, f7, f8, f9, f10, f11, f12, (fun _ => rfl), f14, f15, f16, f17, f18, f19, f20, f21, f22⟩
          · have g12 := ready_pred hi ho 12
            have g13 := ready_pred hi ho 13
            obtain rfl := Option.some.inj ho
            have e12 := f12 (g12 (by kernel_rfl))
            subst e12
            have e13 := f13 (g13 (by kernel_rfl))
            subst e13
            go_simp
            exact ⟨b0, b1, b2, b3, b4, b5, b6, b7, b8, b9, b10, b11, b12, b13, true, b15, b16, b17, b18, b19, b20, b21, b22, x24, x25, x26, x27, x28, x29, x30, x31, x32, x33, x34, x35, _, _, _, x39, x40, x41, x42, x43, x44, x45, rfl, rfl, h0, h1, h2, h3, f0, f1, f2, f3, f4, f5, f6, f7, f8, f9, f10, f11, f12, f13, (fun _ => rfl), f15, f16, f17, f18, f19, f20, f21, f22⟩
          · have g14 := ready_pred hi ho 14
            obtain rfl := Option.some.inj ho
            have e14 := f14 (g14 (by kernel_rfl))
            subst e14
            go_simp
            exact ⟨b0, b1, b2, b3, b4, b5, b6, b7, b8, b9, b10, b11, b12, b13, b14, true, b16, b17, b18, b19, b20, b21, b22, x24, x25, x26, x27, x28, x29, x30, x31, x32, x33, x34, x35, x36, x37, _, _, x40, x41, x42, x43, x44, x45, rfl, rfl, h0, h1, h2, h3, f0, f1, f2, f3, f4, f5, f6, f7, f8, f9, f10, f11, f12, f13, f14, (fun _ => rfl), f16, f17, f18, f19, f20, f21, f22⟩
          · have g15 := ready_pred hi ho 15
            obtain rfl := Option.some.inj ho
            have e15 := f15 (g15 (by kernel_rfl))
            subst e15
            have c0 : w.cell? ⟨pb, poff + j * 2 + 1, none⟩ = some (.slice v1 x.2.length v2) := ((hBw h0).cell (p := ⟨pb, poff + j * 2 + 1, none⟩) hpl).trans u1
            go_simp
            exact ⟨b0, b1, b2, b3, b4, b5, b6, b7, b8, b9, b10, b11, b12, b13, b14, b15, true, b17, b18, b19, b20, b21, b22, x24, x25, x26, x27, x28, x29, x30, x31, x32, x33, x34, x35, x36, x37, x38, _, _, x41, x42, x43, x44, x45, rfl, rfl, h0, h1, h2, h3, f0, f1, f2, f3, f4, f5, f6, f7, f8, f9, f10, f11, f12, f13, f14, f15, (fun _ => rfl), f17, f18, f19, f20, f21, f22⟩
          · have gs := ready_pred hi ho 16
            have gr := ready_pred hi ho 10
            have g9' := ready_pred hi ho 9
            obtain rfl := Option.some.inj ho
            have es := f16 (gs (by kernel_rfl))
            have er : b10 = true := gr (by kernel_rfl)
            have e9 : b9 = true := g9' (by kernel_rfl)
            subst es er
            have hbi : b17 = false := by simpa using ready_off rfl hi
            have hown := f10 rfl hbi
            have hdr : ∀ q ∈ FB x34, ((b17 = true ∧ q ∈ FB x41) ∨ (b17 = false ∧ true = true ∧ q ∈ FB x34)) := fun q hq => .inr ⟨hbi, rfl, hq⟩
            refine step_appAt (by rfl) (.tmp 34) (.tmp 40) (by rfl) wr.heap.size x34 [] (by rfl) hown (.slice v1 x.2.length v2) x.2 (by rfl) (hy1.keep (hBw h0)) (by simp; omega) h0.size ?_
            intro v' w' ho' hg hat
            rw [List.nil_append] at ho'
            have hF := Frm.ofGrown hg
            have hFS : Frm wr w' (FB (.slice va vn vc) ++ [po]) := h0.more hF (fun q hq => .inr (hown.lt q (by simpa using hq)).1)
            have hkp : ∀ {u : Value} {m : List Int}, Own w wr.heap.size u m → (∀ q ∈ FB u, q ∉ FB x34) → Own w' wr.heap.size u m := fun hu hd => hu.frm hF (fun q hq hq' => hd q hq hq')
            have hlk := h2.frm hF (fun hq => own_notN hown h2 (by simpa using hq))
            have hat' : ∀ q ∈ FB v', q ∈ FB x34 ∨ q = w.heap.size := fun q hq => by
              have hq' : v'.ownBlock = some q := by simpa [FB] using hq
              rcases hat with h | h
              · exact .inl (by rw [h] at hq'; simpa [FB] using hq')
              · rw [h] at hq'; exact .inr (Option.some.inj hq').symm
            refine ⟨b0, b1, b2, b3, b4, b5, b6, b7, b8, b9, true, b11, b12, b13, b14, b15, b16, true, b18, b19, b20, b21, b22, x24, x25, x26, x27, x28, x29, x30, x31, x32, x33, x34, x35, x36, x37, x38, x39, _, _, x42, x43, x44, x45, rfl, rfl, hFS, ?_, hlk, (fun e => OwAttrs.frm (h3 e) hF (fun q hq hq' => by have := hFlt q hq; have := (hown.lt q (by simpa using hq')).1; omega)), f0, f1, (fun h e => hkp (f2 h e) (fun q hq hq' => h1 q (.inr ⟨e, h, hq⟩) (hdr q hq'))), f3, f4, f5, f6, f7, f8, (fun h => ⟨(f9 h).1, hkp (f9 h).2 (fun q hq hq' => h1 q (.inl ⟨h, hq⟩) (hdr q hq'))⟩), (fun _ e => by cases e), f11, f12, f13, f14, f15, f16, (fun _ => ⟨⟨rfl, e9⟩, ho'⟩), (fun h => by have := (f18 h).2.1; rw [hbi] at this; cases this), (fun h => by have := (f18 (f19 h).1).2.1; rw [hbi] at this; cases this), (fun h => by have := (f20 h).2.1; rw [hbi] at this; cases this), f21, f22⟩
            intro q hA hB
            rcases hB with ⟨_, hq⟩ | ⟨e, _⟩
            · rcases hat' q hq with h | h
              · exact h1 q hA (hdr q h)
              · rcases hA with ⟨e, hq⟩ | ⟨e, e', hq⟩
                · have := ((f9 e).2.lt q (by simpa [FB] using hq)).2; omega
                · have := ((f2 e' e).lt q (by simpa [FB] using hq)).2; omega
            · cases e
          · have g9 := ready_pred hi ho 9
            have g17 := ready_pred hi ho 17
            obtain rfl := Option.some.inj ho
            have e9 : b9 = true := g9 (by kernel_rfl)
            have e17 : b17 = true := g17 (by kernel_rfl)
            subst e9 e17
            have e2 := (f9 rfl).1
            have e10 := (f17 rfl).1.1
            subst e2 e10
            obtain ⟨p4, k4', hv4, _, _⟩ := (f9 rfl).2.byt.shape
            obtain ⟨p5, k5', hv5, _, _⟩ := (f17 rfl).2.byt.shape
            subst hv4 hv5
            have hbi : b18 = false := by simpa using ready_off rfl hi
            go_simp
            exact ⟨b0, b1, true, b3, b4, b5, b6, b7, b8, true, true, b11, b12, b13, b14, b15, b16, true, true, b19, b20, b21, b22, x24, x25, x26, x27, x28, x29, x30, x31, x32, _, x34, x35, x36, x37, x38, x39, x40, _, _, x43, x44, x45, rfl, rfl, h0, h1, h2, h3, f0, f1, f2, f3, f4, f5, f6, f7, f8, f9, f10, f11, f12, f13, f14, f15, f16, f17, (fun _ => ⟨rfl, rfl, rfl⟩), (fun h => by have := (f19 h).1; rw [hbi] at this; cases this), f20, f21, f22⟩
          · have g18 := ready_pred hi ho 18
            obtain rfl := Option.some.inj ho
            have e18 : b18 = true := g18 (by kernel_rfl)
            obtain ⟨e9, e17, e43⟩ := f18 e18
            subst e9 e17 e18 e43
            have e2 := (f9 rfl).1
            have e10 := (f17 rfl).1.1
            subst e2 e10
            obtain ⟨p4, k4', hv4, _, _⟩ := (f9 rfl).2.byt.shape
            obtain ⟨p5, k5', hv5, _, _⟩ := (f17 rfl).2.byt.shape
            subst hv4 hv5
            have hb' : Below w.heap.size w (w.alloc (.cells #[.slice p4 x.1.length k4', .slice p5 x.2.length k5'] 157)) := (Below.refl _ _).alloc (Nat.le_refl _) _
            go_simp
            exact ⟨b0, b1, true, b3, b4, b5, b6, b7, b8, true, true, b11, b12, b13, b14, b15, b16, true, true, true, b20, b21, b22, x24, x25, x26, x27, x28, x29, x30, x31, x32, _, x34, x35, x36, x37, x38, x39, x40, _, _, _, x44, x45, rfl, rfl, h0.trans (Frm.ofBelow hb' _), h1, h2.all hb', (fun e => OwAttrs.frm (h3 e) (Frm.ofBelow hb' []) (fun _ _ => by simp)), f0, f1, (fun _ e => by cases e), f3, f4, f5, f6, f7, f8, (fun _ => ⟨rfl, (f9 rfl).2.keep hb'⟩), (fun _ e => by cases e), f11, f12, f13, f14, f15, f16, (fun _ => ⟨⟨rfl, rfl⟩, (f17 rfl).2.keep hb'⟩), (fun _ => ⟨rfl, rfl, rfl⟩), (fun _ => ⟨rfl, w.heap.size, h0.size, rfl, Loc.made w _ _⟩), (fun h => by obtain ⟨z0, z1, g9, cap9, F9, q1, q2, q3, q4⟩ := f20 h; exact ⟨z0, z1, g9, cap9, F9, q1, OwAttrs.frm q2 (Frm.ofBelow hb' []) (fun _ _ => by simp), q3, fun q hq => ⟨(q4 q hq).1, Nat.lt_of_lt_of_le (q4 q hq).2 hb'.size⟩⟩), f21, f22⟩
          · have g1 := ready_pred hi ho 1
            have g17 := ready_pred hi ho 17
            have g19 := ready_pred hi ho 19
            obtain rfl := Option.some.inj ho
            have e1 : b1 = true := g1 (by kernel_rfl)
            have e17 : b17 = true := g17 (by kernel_rfl)
            have e19 : b19 = true := g19 (by kernel_rfl)
            have e26 := f1 e1
            obtain ⟨e18, z, z1, z2, z3⟩ := f19 e19
            obtain ⟨e9, _, _⟩ := f18 e18
            have hb20 : b20 = false := by simpa using ready_off rfl hi
            have hb22 : b22 = false := by
              cases b22 with
              | false => rfl
              | true => have := f22 rfl; rw [hb20] at this; cases this
            subst e1 e9 e17 e18 e19 e26 z2 hb22
            have o1 := (f9 rfl).2
            have o2 := (f17 rfl).2
            have r1 := o1.mono (Nat.zero_le _)
            have r2 := o2.mono (Nat.zero_le _)
            have hat := h3 hb20
            have hndx : (FB x33 ++ FB x41).Nodup := List.nodup_append.2 ⟨FB_nodup _, FB_nodup _, fun a ha b hb e => h1 a (.inl ⟨rfl, ha⟩) (.inl ⟨rfl, e ▸ hb⟩)⟩
            have hge : ∀ q ∈ FB x33 ++ FB x41, wr.heap.size ≤ q ∧ q < w.heap.size := fun q hq => by
              rcases List.mem_append.1 hq with h | h
              · exact o1.lt q (by simpa [FB] using h)
              · exact o2.lt q (by simpa [FB] using h)
            have hszw := h0.size
            refine step_push (R := OwAttr) (fun h f d => OwAttr.frm h f d) (by rfl) (.tmp 25) (.tmp 43) 58 (by rfl) 157 i0 (.agg #[.slice none 0 0, .slice none 0 0]) 2 48 Tryz.underlying58 hi0 hz0 hz1 hz2 rfl (by decide) _ (t.attrs.take j) Fa (by rfl) hat hNd ⟨z, 0, none⟩ 1 [x33, x41] x (FB x33 ++ FB x41) (by rfl) rfl (fun i u hu => World.news_of_block z3 i u (by simpa using hu)) (by intro y hy; obtain ⟨p4, k4', hv4, _, _⟩ := o1.byt.shape; obtain ⟨p5, k5', hv5, _, _⟩ := o2.byt.shape; simp at hy; rcases hy with rfl | rfl; (rw [hv4]; rfl); (rw [hv5]; rfl)) ⟨x33, x41, rfl, r1, r2, rfl⟩ hndx (fun g hg hg' => by have := hFlt g hg; have := (hge g hg').1; omega) (fun q hq => by rcases hq with hq | hq; (have := hFlt q hq; omega); (exact (hge q hq).2)) (by rw [List.length_take]; unfold maxLen; omega) (by rw [List.length_take]; omega) ?_
            intro g9 cap9 w' F9 hF9 hN9 hM9 hf9 hg9
            have hjl9 : (t.attrs.take j).length + 1 = j + 1 := by rw [List.length_take]; omega
            rw [hjl9] at hF9 ⊢
            have hpv : po ∉ FB (.slice va vn vc) := fun h => (hO.rng po (by simp only [List.mem_append]; exact .inl (.inr (hvF po h)))).2.2 rfl
            have hdv : ∀ q, wr.heap.size ≤ q → q ∉ FB (.slice va vn vc) := fun q hq h => by have := hFlt q (hvF q h); omega
            have hkw : ∀ q ∈ F9, (q ∈ Fa ∨ wr.heap.size ≤ q) ∧ q < w'.heap.size := fun q hq => by
              refine ⟨?_, OwAttrs.lt hF9 q hq⟩
              rcases hM9 q hq with h | h | h
              · exact .inl h
              · exact .inr (hge q h).1
              · right; omega
            exact ⟨b0, true, b2, b3, b4, b5, b6, b7, b8, true, b10, b11, b12, b13, b14, b15, b16, true, true, true, true, b21, false, x24, _, x26, x27, x28, x29, x30, x31, x32, x33, x34, x35, x36, x37, x38, x39, x40, x41, x42, _, _, x45, rfl, rfl, h0.more hf9 (fun q hq => .inl (List.mem_append_left _ hq)), h1, h2.frm hf9 hpv, (fun e => by cases e), f0, f1, (fun _ e => by cases e), f3, f4, f5, f6, f7, f8, (fun _ => ⟨(f9 rfl).1, o1.frm hf9 (fun q hq => hdv q (o1.lt q (by simpa [FB] using hq)).1)⟩), (fun _ e => by cases e), f11, f12, f13, f14, f15, f16, (fun _ => ⟨(f17 rfl).1, o2.frm hf9 (fun q hq => hdv q (o2.lt q (by simpa [FB] using hq)).1)⟩), (fun _ => ⟨rfl, rfl, (f18 rfl).2.2⟩), (fun _ => ⟨rfl, z, z1, rfl, z3.frm hf9 (hdv z z1)⟩), (fun _ => ⟨rfl, rfl, g9, cap9, F9, rfl, hF9, hN9, hkw⟩), f21, (fun _ => rfl)⟩
          · obtain rfl := Option.some.inj ho
            go_simp
            exact ⟨b0, b1, b2, b3, b4, b5, b6, b7, b8, b9, b10, b11, b12, b13, b14, b15, b16, b17, b18, b19, b20, true, b22, x24, x25, x26, x27, x28, x29, x30, x31, x32, x33, x34, x35, x36, x37, x38, x39, x40, x41, x42, x43, x44, _, rfl, rfl, h0, h1, h2, h3, f0, f1, f2, f3, f4, f5, f6, f7, f8, f9, f10, f11, f12, f13, f14, f15, f16, f17, f18, f19, f20, (fun _ => rfl), f22⟩
          · have g21 := ready_pred hi ho 21
            have g20 := ready_pred hi ho 20
            obtain rfl := Option.some.inj ho
            have e20 : b20 = true := g20 (by kernel_rfl)
            have e46 := f21 (g21 (by kernel_rfl))
            have hb22 : b22 = false := by simpa using ready_off rfl hi
            subst e20 e46 hb22
            obtain ⟨e1, e17, g9, cap9, F9, q1, q2, q3, q4⟩ := f20 rfl
            subst e1 e17 q1
            have e26 := f1 rfl
            subst e26
            have e9 := (f17 rfl).1.2
            subst e9
            have e2 := (f9 rfl).1
            have e10 := (f17 rfl).1.1
            subst e2 e10
            replace h2 : Loc w po #[.int .i64 t.kind, .slice p2 t.name.length k2', .slice p3 t.text.length k3', .slice va vn vc, .slice none 0 0] 61 := h2
            have c0 : w.cell? ⟨po, 3, none⟩ = some (.slice va vn vc) := h2.cell 3
            have z0 := h2.frozen 3
            have fs := Frm.set w po 3 (.slice (some ⟨g9, 0, none⟩) (j + 1) cap9)
            have o1 := (f9 rfl).2.frm fs (fun q hq hq' => own_notN (f9 rfl).2 h2 (by have e : q = po := (by simpa using hq'); rw [← e]; simpa [FB] using hq))
            have o2 := (f17 rfl).2.frm fs (fun q hq hq' => own_notN (f17 rfl).2 h2 (by have e : q = po := (by simpa using hq'); rw [← e]; simpa [FB] using hq))
            have q2' := OwAttrs.frm q2 fs (fun q hq hq' => attrs_notN q2 h2 (by have e : q = po := (by simpa using hq'); rw [← e]; exact hq))
            have h2' := h2.set 3 (.slice (some ⟨g9, 0, none⟩) (j + 1) cap9)
            have k19 : b19 = true → b18 = true ∧ ∃ z, wr.heap.size ≤ z ∧ x43 = .slice (some ⟨z, 0, none⟩) 1 1 ∧ Loc (w.setCell ⟨po, 3, none⟩ (.slice (some ⟨g9, 0, none⟩) (j + 1) cap9)) z #[x33, x41] 157 := fun h => by
              obtain ⟨a1, z, a2, a3, a4⟩ := f19 h
              refine ⟨a1, z, a2, a3, a4.other po 3 _ (fun e => ?_)⟩
              subst e
              unfold Loc at a4 h2
              rw [a4] at h2
              injection h2 with h2
              injection h2 with _ h2
              revert h2
              decide
            go_simp
            exact ⟨b0, true, true, b3, b4, b5, b6, b7, b8, true, true, b11, b12, b13, b14, b15, b16, true, b18, b19, true, b21, true, x24, _, x26, x27, x28, x29, x30, x31, x32, x33, x34, x35, x36, x37, x38, x39, x40, x41, x42, x43, _, _, rfl, rfl, h0.trans (fs.mono (fun q hq => List.mem_append_right _ hq)), h1, h2', (fun e => by cases e), f0, f1, (fun _ e => by cases e), f3, f4, f5, f6, f7, f8, (fun _ => ⟨rfl, o1⟩), (fun _ e => by cases e), f11, f12, f13, f14, f15, f16, (fun _ => ⟨⟨rfl, rfl⟩, o2⟩), (fun h => ⟨rfl, rfl, (f18 h).2.2⟩), k19, (fun _ => ⟨rfl, rfl, g9, cap9, F9, rfl, q2', q3, fun q hq => ⟨(q4 q hq).1, Nat.lt_of_lt_of_le (q4 q hq).2 fs.size⟩⟩), f21, (fun _ => rfl)⟩
-- Cs5step>>
        case dn5 =>
          intro L a w3 hI hre
          have hall := ready_all (L := L) (by obtain ⟨b0, b1, b2, b3, b4, b5, b6, b7, b8, b9, b10, b11, b12, b13, b14, b15, b16, b17, b18, b19, b20, b21, b22, x24, x25, x26, x27, x28, x29, x30, x31, x32, x33, x34, x35, x36, x37, x38, x39, x40, x41, x42, x43, x44, x45, rfl, _⟩ := hI; rfl) (by kernel_rfl) hre 23
          obtain ⟨b0, b1, b2, b3, b4, b5, b6, b7, b8, b9, b10, b11, b12, b13, b14, b15, b16, b17, b18, b19, b20, b21, b22, x24, x25, x26, x27, x28, x29, x30, x31, x32, x33, x34, x35, x36, x37, x38, x39, x40, x41, x42, x43, x44, x45, rfl, rfl, h0, h1, h2, h3, f0, f1, f2, f3, f4, f5, f6, f7, f8, f9, f10, f11, f12, f13, f14, f15, f16, f17, f18, f19, f20, f21, f22⟩ := hI
          have s19 : b20 = true := hall 20 (by omega) (by decide)
          have s21 : b22 = true := hall 22 (by omega) (by decide)
          subst s19 s21
          obtain ⟨_, _, g9, cap9, F9, q1, q2, q3, q4⟩ := f20 rfl
          subst q1
          replace h2 : Loc w3 po #[.int .i64 t.kind, .slice p2 t.name.length k2', .slice p3 t.text.length k3', .slice (some ⟨g9, 0, none⟩) (j + 1) cap9, .slice none 0 0] 61 := h2
          have hO3 := hO.setAttrs h0 (fun q hq hq' => by
            rcases List.mem_append.1 hq' with h | h
            · obtain ⟨n1, n2, n3⟩ := List.nodup_append.1 hO.nodup
              obtain ⟨n4, n5, n6⟩ := List.nodup_append.1 n1
              rcases List.mem_append.1 hq with hq | hq
              · exact n6 q hq q (hvF q h) rfl
              · cases hq
            · have e : q = po := by simpa using h
              rcases List.mem_append.1 hq with hq | hq
              · exact (hO.rng q (by simp only [List.mem_append] at hq ⊢; exact .inl (.inl hq))).2.2 e
              · cases hq) h2 q2 q3 q4 hlo
          rw [← unhide HTK] at hO3
          have hB3 := hBw h0
          have lb3 := lb.frm h0 hbS
          have lr3 := lr.frm h0 (fun h => by
            rcases List.mem_append.1 h with h | h
            · have := (hO.rng _ (by simp only [List.mem_append]; exact .inl (.inr (hvF _ h)))).1; omega
            · have e : w0.heap.size + 1 = po := by simpa using h
              omega)
          have hlo3 := Nat.le_trans hlo h0.size
          have HO3 := hide hO3
          clear hall f0 f1 f2 f3 f4 f5 f6 f7 f8 f9 f10 f11 f12 f13 f14 f15 f16 f17 f18 f19 f20 f21 f22 h0 h1 h2 h3 q2 q3 q4 hO hO3 hre
          go_wp2_with fail
          go_roundw
          case rel => exact ⟨j + 1, by omega, by go_num, _, _, _, F9, unhide HO3, hB3, lb3, lr3, hlo3⟩
          case measure => simp [intOf]; omega
      · have hje : t.attrs.take j = t.attrs := List.take_of_length_le (by omega)
        rw [hje] at hO
        have hjn : ¬ (j : Int) < (t.attrs.length : Int) := by omega
        obtain ⟨i0, hi0, hz0, hz1, hz2⟩ := info_parts Tryz.info61
        clear hje hd HAX
        go_wp2_with fail
        go_loopw [5] (fun i wr => ∃ j : Nat, j ≤ t.kids.length ∧ i = .int .i64 j ∧ ∃ ka km kc Fk, OutAt n w1.heap.size wr po t.kind (.slice p2 t.name.length k2') (.slice p3 t.text.length k3') (.slice va vn vc) (.slice ka km kc) t.name t.text t.attrs (t.kids.take j) Fa Fk ∧ Below w0.heap.size w0 wr ∧ Loc wr w0.heap.size #[.int .i64 t.kind, .slice ab t.name.length cb, .slice ac t.text.length cc, .slice ad t.attrs.length cd, .slice ae t.kids.length ce] 61 ∧ Loc wr (w0.heap.size + 1) #[.int .i64 0, .slice none 0 0, .slice none 0 0, .slice none 0 0, .slice none 0 0] 61 ∧ w1.heap.size ≤ wr.heap.size) (fun i _ => t.kids.length - (intOf i).toNat)
        case atStart => exact ⟨0, Nat.zero_le _, rfl, none, 0, 0, [], hO, hBr, lb, lr, hlo⟩
        case round =>
          clear hO hBr lb lr hlo c3 hjn
          obtain ⟨j, hj, rfl, ka, km, kc, Fk, hO, hBr, lb, lr, hlo⟩ := hrel
          have hndk : Fk.Nodup := (List.nodup_append.1 hO.nodup).2.1
          have hFlt : ∀ q ∈ Fk, q < wr.heap.size := fun q hq => (hO.rng q (List.mem_append_right _ hq)).2.1
          have hFlo : ∀ q ∈ Fk, w1.heap.size ≤ q := fun q hq => (hO.rng q (List.mem_append_right _ hq)).1
          have hpF : po ∉ Fk := fun h => (hO.rng po (List.mem_append_right _ h)).2.2 rfl
          have hdF : ∀ q ∈ FB (.slice p2 t.name.length k2') ++ FB (.slice p3 t.text.length k3') ++ Fa, q ∉ Fk := fun q hq hq' => (List.nodup_append.1 hO.nodup).2.2 q hq q hq' rfl
          have hkvF : ∀ q ∈ FB (.slice ka km kc), q ∈ Fk := fun q hq => by
            obtain ⟨_, _, _, _, _, _, rfl⟩ := hO.kids
            exact List.mem_append_left _ hq
          have hbF : w0.heap.size ∉ Fk := fun h => by have := hFlo _ h; omega
          have hrF : w0.heap.size + 1 ∉ Fk := fun h => by have := hFlo _ h; omega
          have hpo := hO.loc.lt
          have c4 : wr.cell? ⟨w0.heap.size, 4, none⟩ = some (.slice ae t.kids.length ce) := lb.cell 4
          by_cases hjl : j < t.kids.length
          · obtain ⟨pb, poff, hpa, hpl, hun, _, hC⟩ := he.at hjl
            clear hun
            subst hpa
            obtain ⟨kid, hkid⟩ : ∃ kid, kid = t.kids[j] := ⟨_, rfl⟩
            have hmem : kid ∈ t.kids := by rw [hkid]; exact List.getElem_mem hjl
            have HTK := hide (show t.kids.take (j + 1) = t.kids.take j ++ [kid] by rw [List.take_succ_eq_append_getElem hjl, ← hkid])
            have hlj : (t.kids.take j).length = j := by rw [List.length_take]; omega
            obtain ⟨d0, d1, d2, d3, d4, e0, e1, e2, e3, e4, hx⟩ := five_of hC
            rw [← hkid] at hx
            replace e0 := (hBr.cell (p := ⟨pb, poff + j * 5, none⟩) hpl).trans e0
            replace e1 := (hBr.cell (p := ⟨pb, poff + j * 5 + 1, none⟩) hpl).trans e1
            replace e2 := (hBr.cell (p := ⟨pb, poff + j * 5 + 2, none⟩) hpl).trans e2
            replace e3 := (hBr.cell (p := ⟨pb, poff + j * 5 + 3, none⟩) hpl).trans e3
            replace e4 := (hBr.cell (p := ⟨pb, poff + j * 5 + 4, none⟩) hpl).trans e4
            obtain ⟨_, _, _, _, ee, kk1, kk2, hkb, hkc, hkd, hke⟩ := id hx
            simp only [List.cons.injEq, and_true] at ee
            obtain ⟨rfl, rfl, rfl, rfl, rfl⟩ := ee
            obtain ⟨ab', cb', rfl, _, _⟩ := hkb.shape
            obtain ⟨ac', cc', rfl, _, _⟩ := hkc.shape
            obtain ⟨ad', cd', rfl, _, _⟩ := Elems.shape hkd
            obtain ⟨ae', ce', rfl, _, _⟩ := Elems.shape hke
            have hksz : szT (n + 1) kid ≤ 2097152 := by
              have h1 : szT (n + 1) kid ≤ (t.kids.map (szT (n + 1))).sum := sum_mem (List.mem_map.2 ⟨kid, hmem, rfl⟩)
              have h2 := unhide HSZ
              omega
            have hjl' : (j : Int) < (t.kids.length : Int) := by omega
            have hj0 : (0 : Int) ≤ (j : Int) := by omega
            have HX := hide hx
            have HK := hide (H kid hmem)
            have HS6 := hide hksz
            clear hC hx hmem hkid he H hkb hkc hkd hke
            have c4 : wr.cell? ⟨w0.heap.size, 4, none⟩ = some (.slice (some ⟨pb, poff, none⟩) t.kids.length ce) := c4
            go_wp2_with fail
            have hdr : Below wr.heap.size wr wr.drew := (Below.refl _ _).drew
            have hOd := hO.keep hdr
            have hBd := hBr.drew
            have c4d : wr.drew.cell? ⟨po, 4, none⟩ = some (.slice ka km kc) := hOd.loc.cell 4
            have b4d : wr.drew.cell? ⟨w0.heap.size, 4, none⟩ = some (.slice (some ⟨pb, poff, none⟩) t.kids.length ce) := c4
            have k0 : wr.drew.cell? ⟨pb, poff + j * 5, none⟩ = some (.int .i64 kid.kind) := e0
            have k1' : wr.drew.cell? ⟨pb, poff + j * 5 + 1, none⟩ = some (.slice ab' kid.name.length cb') := e1
            have k2q : wr.drew.cell? ⟨pb, poff + j * 5 + 2, none⟩ = some (.slice ac' kid.text.length cc') := e2
            have k3q : wr.drew.cell? ⟨pb, poff + j * 5 + 3, none⟩ = some (.slice ad' kid.attrs.length cd') := e3
            have k4 : wr.drew.cell? ⟨pb, poff + j * 5 + 4, none⟩ = some (.slice ae' kid.kids.length ce') := e4
            have he2 : ∀ args w, (callFunc 99 args).run Tryz.prog w = .ok (.enter 99 args) w := enters_of Tryz.func99 (by kernel_rfl) rfl
            clear e0 e1 e2 e3 e4 c4
            go_region_law
              (first
                | (refine step_call (by rfl) 99 [.tmp 59] #[61] (by rfl) he2 [.agg #[.int .i64 kid.kind, .slice ab' kid.name.length cb', .slice ac' kid.text.length cc', .slice ad' kid.attrs.length cd', .slice ae' kid.kids.length ce']] (by rfl) (unhide HK wr.drew _ _ _ _ _ ((unhide HX).keep hBd) (unhide HS6)) ?_; clear HK; rintro e w7 ⟨kd, a1, n1, c1, a2, n2, c2, a3, n3, c3, a4, n4, cz, rfl, G, hG, ndG, rG, hB7⟩; have c47 : w7.cell? ⟨po, 4, none⟩ = some (.slice ka km kc) := (hOd.loc.all hB7).cell 4; have hb8 : Below w7.heap.size w7 (w7.alloc (.cells #[.int .i64 kd, .slice a1 n1 c1, .slice a2 n2 c2, .slice a3 n3 c3, .slice a4 n4 cz] 61)) := (Below.refl _ _).alloc (Nat.le_refl _) _; have c48 : (w7.alloc (.cells #[.int .i64 kd, .slice a1 n1 c1, .slice a2 n2 c2, .slice a3 n3 c3, .slice a4 n4 cz] 61)).cell? ⟨po, 4, none⟩ = some (.slice ka km kc) := ((hOd.loc.all hB7).all hb8).cell 4; refine ⟨_, rfl, ?_⟩)
                | (refine step_push (R := OwNode (n + 1)) (fun h f d => OwNode.frm h f d) (by rfl) (.tmp 54) (.tmp 61) 59 (by rfl) 61 i0 (.agg #[.int .i64 0, .slice none 0 0, .slice none 0 0, .slice none 0 0, .slice none 0 0]) 5 104 Tryz.underlying59 hi0 hz0 hz1 hz2 rfl (by decide) _ (t.kids.take j) Fk (by rfl) (((hOd.keep hB7).keep hb8).kids) hndk ⟨w7.heap.size, 0, none⟩ 1 [.int .i64 kd, .slice a1 n1 c1, .slice a2 n2 c2, .slice a3 n3 c3, .slice a4 n4 cz] kid G (by rfl) rfl (five_lies w7 _ _ _ _ _ _) (by intro y hy; simp at hy; rcases hy with rfl | rfl | rfl | rfl | rfl <;> rfl) (hG.keep hb8) ndG (fun g hg hg' => by have h1 := (hOd.rng g (List.mem_append_right _ hg)).2.1; have := (rG g hg').1; omega) (fun q hq => by have h1 := hB7.size; have h2 := hb8.size; rcases hq with hq | hq; (have := (hOd.rng q (List.mem_append_right _ hq)).2.1; omega); (have := (rG q hq).2; omega)) (by rw [hlj]; unfold maxLen; omega) (by rw [hlj]; omega) ?_; intro g9 cap9 w9 F9 hF9 hN9 hM9 hf9 hg9; generalize ((t.kids.take j).length + 1) = n9 at hF9 ⊢; have hf9' : Frm wr.drew w9 Fk := ((Frm.ofBelow (bstep hB7 hb8) Fk)).more hf9 (fun q hq => .inl (hkvF q hq)); have c49 : w9.cell? ⟨po, 4, none⟩ = some (.slice ka km kc) := (hOd.loc.frm hf9' hpF).cell 4; have z49 := (hOd.loc.frm hf9' hpF).frozen 4))
            all_goals
              have hfq : ∀ q ∈ F9, (q ∈ Fk ∨ wr.drew.heap.size ≤ q) ∧ q < w9.heap.size := fun q hq => by
                refine ⟨?_, OwElems.lt hF9 (fun C x G h => OwNode.lt h) q hq⟩
                have s7 := hB7.size
                rcases hM9 q hq with h | h | h
                · exact .inl h
                · have := (rG q h).1; right; omega
                · right; simp only [World.size_alloc] at h; omega
              have hO9 := hOd.setKids hf9' hpF hdF hF9 hN9 hfq hlo
              have hB9 : Below w0.heap.size w0 w9 := hBd.trans (hf9'.below hBd.size (fun q hq => by have := hFlo q hq; omega))
              have hBX := hB9.setCell (p := ⟨po, 4, none⟩) (by show w0.heap.size ≤ po; omega) (.slice (some ⟨g9, 0, none⟩) n9 cap9)
              have lb9 := ((lb.all hdr).frm hf9' hbF).other po 4 (.slice (some ⟨g9, 0, none⟩) n9 cap9) hpb
              have lr9 := ((lr.all hdr).frm hf9' hrF).other po 4 (.slice (some ⟨g9, 0, none⟩) n9 cap9) hpr
              have hlo9 : w1.heap.size ≤ (w9.setCell ⟨po, 4, none⟩ (.slice (some ⟨g9, 0, none⟩) n9 cap9)).heap.size := by
                have h1 := hf9'.size
                have h2 : wr.heap.size = wr.drew.heap.size := rfl
                simp only [World.size_setCell]
                omega
              have HO9 := hide (show OutAt n w1.heap.size (w9.setCell ⟨po, 4, none⟩ (.slice (some ⟨g9, 0, none⟩) n9 cap9)) po t.kind (.slice p2 t.name.length k2') (.slice p3 t.text.length k3') (.slice va vn vc) (.slice (some ⟨g9, 0, none⟩) n9 cap9) t.name t.text t.attrs (t.kids.take (j + 1)) Fa F9 by
                rw [unhide HTK]
                exact hO9)
              clear hO9 hOd hO
              go_wp2_with fail
              go_roundw
              case rel => exact ⟨j + 1, by omega, by go_num, _, _, _, F9, unhide HO9, hBX, lb9, lr9, hlo9⟩
              case measure => simp [intOf]; omega
          · have hke : t.kids.take j = t.kids := List.take_of_length_le (by omega)
            rw [hke] at hO
            have hjl' : ¬ (j : Int) < (t.kids.length : Int) := by omega
            obtain ⟨y0', y1', y2', y3', y4'⟩ := hO.loc.five
            obtain ⟨g0, g1, g2, g3, g4⟩ := lr.five
            have i0' := lr.frozen 0
            have i1' := lr.frozen 1
            have i2' := lr.frozen 2
            have i3' := lr.frozen 3
            have i4' := lr.frozen 4
            obtain ⟨lX, fX⟩ := store5 lr (.int .i64 t.kind) (.slice p2 t.name.length k2') (.slice p3 t.text.length k3') (.slice va vn vc) (.slice ka km kc)
            have hOX := hO.frm fX (by simpa using fun e => hpr e.symm) (fun q hq hq' => by
              have := (hO.rng q hq).1
              have e : q = w0.heap.size + 1 := by simpa using hq'
              omega)
            have hBX := hBr.trans (fX.below hBr.size (fun q hq => by have e : q = w0.heap.size + 1 := (by simpa using hq); omega))
            have fin := hOX.node k1 k2
            have HF := hide (And.intro fin (And.intro hOX.nodup (And.intro hOX.rng hBX)))
            clear fin hOX hBX fX hO he H
            go_wp2_with fail
            obtain ⟨fin, nd, rg, bel⟩ := unhide HF
            exact bodyPost_ret (v := .agg #[.int .i64 t.kind, .slice p2 t.name.length k2', .slice p3 t.text.length k3', .slice va vn vc, .slice ka km kc]) (by simp [results, Tryz.results99, go_sem, g0, g1, g2, g3, g4]) rfl ⟨t.kind, p2, _, k2', p3, _, k3', va, vn, vc, ka, km, kc, rfl, _, fin, nd, fun q hq => ⟨by have := (rg q hq).1; omega, (rg q hq).2.1⟩, bel⟩

theorem cs_all : ∀ (n : Nat) (t : Tr n), CsAt n t
  | 0, t => t.elim
  | 1, t => by
    intro w a b c d e hrd hsz
    have hk := no_kids (t := t)
    have hrd2 : RdNode 2 w [a, b, c, d, e] (up1 t) := by
      obtain ⟨a1, b1, c1, d1, e0, k1, k2, hb, hc, hd, he⟩ := hrd
      rw [hk] at he
      exact ⟨a1, b1, c1, d1, e0, k1, k2, hb, hc, hd, elems_nil he⟩
    have hsz2 : szT 2 (up1 t) ≤ 2097152 := by
      have h1 : szT 2 (up1 t) = t.name.length + t.text.length + szA t.attrs + (([] : List (Tr 1)).length + (([] : List (Tr 1)).map (szT 1)).sum) := rfl
      have h2 : szT 1 t = t.name.length + t.text.length + szA t.attrs + (t.kids.length + (t.kids.map (szT 0)).sum) := rfl
      rw [h1]
      simp only [List.length_nil, List.map_nil, List.sum_nil]
      omega
    refine (l2copy_core 0 (up1 t) (fun k hm => by cases hm) w a b c d e hrd2 hsz2).mono ?_
    rintro e' w' ⟨kd, a1, n1, c1, a2, n2, c2, a3, n3, c3, a4, n4, c4, rfl, F, hO, nd, rg, hB⟩
    refine ⟨kd, a1, n1, c1, a2, n2, c2, a3, n3, c3, a4, n4, c4, rfl, F, ?_, nd, rg, hB⟩
    obtain ⟨a', b', c', d', Fc, Fd, e1, k1, k2, o1, o2, o3, o4, o5⟩ := hO
    refine ⟨a', b', c', d', Fc, Fd, e1, k1, k2, o1, o2, o3, ?_, o5⟩
    show OwElems w' 61 5 d' t.kids (OwNode 0 w') Fd
    rw [hk]
    exact owElems_nil (show OwElems w' 61 5 d' ([] : List (Tr 1)) (OwNode 1 w') Fd from o4)
  | n + 2, t => l2copy_core n t (fun k hm => cs_all (n + 1) k)
end Go.Proofs.YtkmmhlimihkgfaaGreat

/- spec.l6own: a replica in memory of its own. -/
namespace Go.Proofs.YtkmmhlimihkgfaaGreat
open Go.RowKit
set_option linter.unusedVariables false
set_option maxRecDepth 100000

def Or1 (n : Nat) (w1 : World) (bn pr : Nat) (T0 A0 A1 A2 A3 A4 vo vu : Value) (id clk : Int) (lost : Bool) (t : Tr (n + 1)) (l : List OpV) (m : List (Int × Int)) (L : Array Bool) (a : Act) (w : World) : Prop :=
  ∃ b0 b1 b2 b3 b4 b5 b6 b7 b8 b9 b10 b11 b12 b13 b14 b15 b16 b17 x3 x4 x5 x6 x7 x8 x9 x10 x11 x12 x13 x14 x15 x16 x17 x18 x19 y0 y1 y2 y3 y4 F1 F2, L = #[b0, b1, b2, b3, b4, b5, b6, b7, b8, b9, b10, b11, b12, b13, b14, b15, b16, b17] ∧ a = { tmps := #[T0, .pointer (some ⟨bn, 0, none⟩), .pointer (some ⟨pr, 0, none⟩), x3, x4, x5, x6, x7, x8, x9, x10, x11, x12, x13, x14, x15, x16, x17, x18, x19], defers := [] } ∧ Frm w1 w [pr] ∧ Loc w pr (if b17 = true then #[.int .i64 id, .int .i64 clk, y0, y1, y2, y3, y4, x12, x16, .bool lost] else #[.int .i64 0, .int .i64 0, .int .i64 0, .slice none 0 0, .slice none 0 0, .slice none 0 0, .slice none 0 0, .slice none 0 0, .slice none 0 0, .bool false]) 64 ∧ (b0 = true → x3 = .pointer (some ⟨bn, 0, none⟩)) ∧ (b1 = true → x4 = .int .i64 id) ∧ (b2 = true → x5 = .pointer (some ⟨bn, 1, none⟩)) ∧ (b3 = true → x6 = .int .i64 clk) ∧ (b4 = true → x7 = .pointer (some ⟨bn, 2, none⟩)) ∧ (b5 = true → x8 = .agg #[A0, A1, A2, A3, A4]) ∧ (b6 = true → x9 = .agg #[y0, y1, y2, y3, y4] ∧ OwNode (n + 1) w [y0, y1, y2, y3, y4] t F1 ∧ F1.Nodup ∧ Rng F1 w1.heap.size w.heap.size) ∧ (b7 = true → x10 = .pointer (some ⟨bn, 7, none⟩)) ∧ (b8 = true → x11 = vo) ∧ (b9 = true → b6 = true ∧ OwOps w x12 l F2 ∧ F2.Nodup ∧ Rng F2 w1.heap.size w.heap.size ∧ ∀ q ∈ F2, q ∉ F1) ∧ (b10 = true → b13 = false → w.ownsRow 0 25 2 x13 0 [] ∧ Rng (FB x13) w1.heap.size w.heap.size ∧ (b6 = true → ∀ q ∈ F1, q ∉ FB x13) ∧ (b9 = true → ∀ q ∈ F2, q ∉ FB x13)) ∧ (b11 = true → x14 = .pointer (some ⟨bn, 8, none⟩)) ∧ (b12 = true → x15 = vu) ∧ (b13 = true → b9 = true ∧ b10 = true ∧ OwIds w x16 m (FB x16) ∧ Rng (FB x16) w1.heap.size w.heap.size ∧ ∀ q ∈ FB x16, q ∉ F1 ∧ q ∉ F2) ∧ (b14 = true → x17 = .pointer (some ⟨bn, 9, none⟩)) ∧ (b15 = true → x18 = .bool lost) ∧ (b16 = true → b13 = true ∧ x19 = .agg #[.int .i64 id, .int .i64 clk, y0, y1, y2, y3, y4, x12, x16, .bool lost]) ∧ (b17 = true → b16 = true)
theorem Or1_cases {i : Nat} (h : i < 18) : i = 0 ∨ i = 1 ∨ i = 2 ∨ i = 3 ∨ i = 4 ∨ i = 5 ∨ i = 6 ∨ i = 7 ∨ i = 8 ∨ i = 9 ∨ i = 10 ∨ i = 11 ∨ i = 12 ∨ i = 13 ∨ i = 14 ∨ i = 15 ∨ i = 16 ∨ i = 17 := by omega

set_option maxHeartbeats 12800000 in
theorem ownRep_any (n : Nat) (w0 : World) (a b c d e vo vu : Value) (r : RepV n) (hrd : RdRep n w0 a b c d e vo vu r) (hsz : szT (n + 1) r.first ≤ 2097152) (hl : r.ops.length ≤ 4194304) (hx : ∀ x ∈ r.ops, szO x ≤ 4000000) (hm : r.und.length ≤ 4194304) :
    Calls Tryz.prog 62 #[repVal r a b c d e vo vu] w0 fun e w' => ∃ (zk : Int) (pk : Option Addr) (npk cpk : Nat) (qk : Option Addr) (nqk cqk : Nat) (rk : Option Addr) (nrk crk : Nat) (uk : Option Addr) (nuk cuk : Nat) (ok : Option Addr) (kk : Nat) (ik : Option Addr) (jk : Nat), e = .returned (.agg #[.int .i64 r.id, .int .i64 r.clock, .int .i64 zk, .slice pk npk cpk, .slice qk nqk cqk, .slice rk nrk crk, .slice uk nuk cuk, .slice ok r.ops.length kk, .slice ik r.und.length jk, .bool r.lost]) ∧ ∃ F, OwRep n w' (.int .i64 zk) (.slice pk npk cpk) (.slice qk nqk cqk) (.slice rk nrk crk) (.slice uk nuk cuk) (.slice ok r.ops.length kk) (.slice ik r.und.length jk) r F ∧ F.Nodup ∧ Rng F w0.heap.size w'.heap.size ∧ Below w0.heap.size w0 w' := by
  obtain ⟨za, pa, npa, cpa, qa, nqa, cqa, ra, nra, cra, ua, nua, cua, rfl, rfl, rfl, rfl, rfl⟩ := rd5 hrd.1
  obtain ⟨oa, oc, rfl, _, _⟩ := Elems.shape hrd.2.1
  obtain ⟨ia, ic, rfl, _, _⟩ := Elems.shape hrd.2.2
  obtain ⟨l0, l1, hB1⟩ := two w0 #[.int .i64 r.id, .int .i64 r.clock, .int .i64 za, .slice pa npa cpa, .slice qa nqa cqa, .slice ra nra cra, .slice ua nua cua, .slice oa r.ops.length oc, .slice ia r.und.length ic, .bool r.lost] #[.int .i64 0, .int .i64 0, .int .i64 0, .slice none 0 0, .slice none 0 0, .slice none 0 0, .slice none 0 0, .slice none 0 0, .slice none 0 0, .bool false] 64 64
  have HX := hide hx
  clear hx
  unfold repVal
  go_enter Tryz.func62, Tryz.ntmps62
  go_wp2_with fail
  generalize hW1 : (w0.alloc (.cells #[.int .i64 r.id, .int .i64 r.clock, .int .i64 za, .slice pa npa cpa, .slice qa nqa cqa, .slice ra nra cra, .slice ua nua cua, .slice oa r.ops.length oc, .slice ia r.und.length ic, .bool r.lost] 64)).alloc (.cells #[.int .i64 0, .int .i64 0, .int .i64 0, .slice none 0 0, .slice none 0 0, .slice none 0 0, .slice none 0 0, .slice none 0 0, .slice none 0 0, .bool false] 64) = w1 at *
  have hs1 : w0.heap.size + 2 ≤ w1.heap.size := by rw [← hW1]; simp
  clear hW1
  have hbp : w0.heap.size ∉ [w0.heap.size + 1] := by simp
  have hBw : ∀ {w : World}, Frm w1 w [w0.heap.size + 1] → Below w0.heap.size w0 w := fun f => hB1.trans (f.below hB1.size (fun q hq => by simp at hq; omega))
  refine region_inv (by kernel_rfl) (Or1 n w1 w0.heap.size (w0.heap.size + 1) (.agg #[.int .i64 r.id, .int .i64 r.clock, .int .i64 za, .slice pa npa cpa, .slice qa nqa cqa, .slice ra nra cra, .slice ua nua cua, .slice oa r.ops.length oc, .slice ia r.und.length ic, .bool r.lost]) (.int .i64 za) (.slice pa npa cpa) (.slice qa nqa cqa) (.slice ra nra cra) (.slice ua nua cua) (.slice oa r.ops.length oc) (.slice ia r.und.length ic) r.id r.clock r.lost r.first r.ops r.und) ?sz ?h0 ?step ?dn
  case sz =>
      rintro L a w ⟨b0, b1, b2, b3, b4, b5, b6, b7, b8, b9, b10, b11, b12, b13, b14, b15, b16, b17, x3, x4, x5, x6, x7, x8, x9, x10, x11, x12, x13, x14, x15, x16, x17, x18, x19, y0, y1, y2, y3, y4, F1, F2, rfl, _⟩
      rfl
  case h0 =>
      refine ⟨false, false, false, false, false, false, false, false, false, false, false, false, false, false, false, false, false, false, undef, undef, undef, undef, undef, undef, undef, undef, undef, undef, undef, undef, undef, undef, undef, undef, undef, undef, undef, undef, undef, undef, [], [], rfl, rfl, Frm.ofBelow ((Below.refl _ _).drew) _, l1.all ((Below.refl _ _).drew), ?_⟩
      simp
  case step =>
      intro L a w i o hI hi ho
      obtain ⟨b0, b1, b2, b3, b4, b5, b6, b7, b8, b9, b10, b11, b12, b13, b14, b15, b16, b17, x3, x4, x5, x6, x7, x8, x9, x10, x11, x12, x13, x14, x15, x16, x17, x18, x19, y0, y1, y2, y3, y4, F1, F2, rfl, rfl, h0, h1, f0, f1, f2, f3, f4, f5, f6, f7, f8, f9, f10, f11, f12, f13, f14, f15, f16, f17⟩ := hI
      rcases Or1_cases (ready_lt hi) with rfl | rfl | rfl | rfl | rfl | rfl | rfl | rfl | rfl | rfl | rfl | rfl | rfl | rfl | rfl | rfl | rfl | rfl
      · obtain rfl := Option.some.inj ho
        go_simp
        exact ⟨true, b1, b2, b3, b4, b5, b6, b7, b8, b9, b10, b11, b12, b13, b14, b15, b16, b17, _, x4, x5, x6, x7, x8, x9, x10, x11, x12, x13, x14, x15, x16, x17, x18, x19, y0, y1, y2, y3, y4, F1, F2, rfl, rfl, h0, h1, (fun _ => rfl), f1, f2, f3, f4, f5, f6, f7, f8, f9, f10, f11, f12, f13, f14, f15, f16, f17⟩
      · have g0 := ready_pred hi ho 0
        obtain rfl := Option.some.inj ho
        have e0 := f0 (g0 (by kernel_rfl))
        subst e0
        have c0 : w.cell? ⟨w0.heap.size, 0, none⟩ = some (.int .i64 r.id) := (l0.frm h0 hbp).cell 0
        go_simp
        exact ⟨b0, true, b2, b3, b4, b5, b6, b7, b8, b9, b10, b11, b12, b13, b14, b15, b16, b17, _, _, x5, x6, x7, x8, x9, x10, x11, x12, x13, x14, x15, x16, x17, x18, x19, y0, y1, y2, y3, y4, F1, F2, rfl, rfl, h0, h1, f0, (fun _ => rfl), f2, f3, f4, f5, f6, f7, f8, f9, f10, f11, f12, f13, f14, f15, f16, f17⟩
      · obtain rfl := Option.some.inj ho
        go_simp
        exact ⟨b0, b1, true, b3, b4, b5, b6, b7, b8, b9, b10, b11, b12, b13, b14, b15, b16, b17, x3, x4, _, x6, x7, x8, x9, x10, x11, x12, x13, x14, x15, x16, x17, x18, x19, y0, y1, y2, y3, y4, F1, F2, rfl, rfl, h0, h1, f0, f1, (fun _ => rfl), f3, f4, f5, f6, f7, f8, f9, f10, f11, f12, f13, f14, f15, f16, f17⟩
      · have g2 := ready_pred hi ho 2
        obtain rfl := Option.some.inj ho
        have e2 := f2 (g2 (by kernel_rfl))
        subst e2
        have c1 : w.cell? ⟨w0.heap.size, 1, none⟩ = some (.int .i64 r.clock) := (l0.frm h0 hbp).cell 1
        go_simp
        exact ⟨b0, b1, b2, true, b4, b5, b6, b7, b8, b9, b10, b11, b12, b13, b14, b15, b16, b17, x3, x4, _, _, x7, x8, x9, x10, x11, x12, x13, x14, x15, x16, x17, x18, x19, y0, y1, y2, y3, y4, F1, F2, rfl, rfl, h0, h1, f0, f1, f2, (fun _ => rfl), f4, f5, f6, f7, f8, f9, f10, f11, f12, f13, f14, f15, f16, f17⟩
      · obtain rfl := Option.some.inj ho
        go_simp
        exact ⟨b0, b1, b2, b3, true, b5, b6, b7, b8, b9, b10, b11, b12, b13, b14, b15, b16, b17, x3, x4, x5, x6, _, x8, x9, x10, x11, x12, x13, x14, x15, x16, x17, x18, x19, y0, y1, y2, y3, y4, F1, F2, rfl, rfl, h0, h1, f0, f1, f2, f3, (fun _ => rfl), f5, f6, f7, f8, f9, f10, f11, f12, f13, f14, f15, f16, f17⟩
      · have g4 := ready_pred hi ho 4
        obtain rfl := Option.some.inj ho
        have e4 := f4 (g4 (by kernel_rfl))
        subst e4
        have c2 : w.cell? ⟨w0.heap.size, 2, none⟩ = some (.int .i64 za) := (l0.frm h0 hbp).cell 2
        have c3 : w.cell? ⟨w0.heap.size, 3, none⟩ = some (.slice pa npa cpa) := (l0.frm h0 hbp).cell 3
        have c4 : w.cell? ⟨w0.heap.size, 4, none⟩ = some (.slice qa nqa cqa) := (l0.frm h0 hbp).cell 4
        have c5 : w.cell? ⟨w0.heap.size, 5, none⟩ = some (.slice ra nra cra) := (l0.frm h0 hbp).cell 5
        have c6 : w.cell? ⟨w0.heap.size, 6, none⟩ = some (.slice ua nua cua) := (l0.frm h0 hbp).cell 6
        go_simp
        exact ⟨b0, b1, b2, b3, b4, true, b6, b7, b8, b9, b10, b11, b12, b13, b14, b15, b16, b17, x3, x4, x5, x6, _, _, x9, x10, x11, x12, x13, x14, x15, x16, x17, x18, x19, y0, y1, y2, y3, y4, F1, F2, rfl, rfl, h0, h1, f0, f1, f2, f3, f4, (fun _ => rfl), f6, f7, f8, f9, f10, f11, f12, f13, f14, f15, f16, f17⟩
      · have g5 := ready_pred hi ho 5
        have hb6 : b6 = false := by simpa using ready_off rfl hi
        obtain rfl := Option.some.inj ho
        have e5 := f5 (g5 (by kernel_rfl))
        have hb9 : b9 = false := by
          cases b9 with
          | false => rfl
          | true => have := (f9 rfl).1; rw [hb6] at this; cases this
        have hb13 : b13 = false := by
          cases b13 with
          | false => rfl
          | true => have := (f13 rfl).1; rw [hb9] at this; cases this
        have hb16 : b16 = false := by
          cases b16 with
          | false => rfl
          | true => have := (f16 rfl).1; rw [hb13] at this; cases this
        have hb17 : b17 = false := by
          cases b17 with
          | false => rfl
          | true => have := f17 rfl; rw [hb16] at this; cases this
        subst e5 hb9 hb13 hb16 hb17
        go_simp
        refine (cs_all (n + 1) r.first w _ _ _ _ _ (hrd.1.keep (hBw h0)) hsz).mono ?_
        rintro e w' ⟨zk, pk, npk, cpk, qk, nqk, cqk, rk, nrk, crk, uk, nuk, cuk, rfl, F, ho', nd', rg', hb'⟩
        exact ⟨b0, b1, b2, b3, b4, b5, true, b7, b8, false, b10, b11, b12, false, b14, b15, false, false, x3, x4, x5, x6, x7, _, _, x10, x11, x12, x13, x14, x15, x16, x17, x18, x19, (.int .i64 zk), (.slice pk npk cpk), (.slice qk nqk cqk), (.slice rk nrk crk), (.slice uk nuk cuk), F, F2, rfl, rfl, h0.trans (Frm.ofBelow hb' _), h1.all hb', f0, f1, f2, f3, f4, f5, (fun _ => ⟨rfl, ho', nd', rg'.mono h0.size (Nat.le_refl _)⟩), f7, f8, (fun h => by cases h), (fun h h' => ⟨ownsRow_frm (f10 h h').1 (Frm.ofBelow hb' []) (fun _ _ => by simp), (f10 h h').2.1.mono (Nat.le_refl _) hb'.size, fun _ q hq hq' => by have := (rg' q hq).1; have := ((f10 h h').2.1 q hq').2; omega, (fun h => by cases h)⟩), f11, f12, (fun h => by cases h), f14, f15, (fun h => by cases h), (fun h => by cases h)⟩
      · obtain rfl := Option.some.inj ho
        go_simp
        exact ⟨b0, b1, b2, b3, b4, b5, b6, true, b8, b9, b10, b11, b12, b13, b14, b15, b16, b17, x3, x4, x5, x6, x7, x8, x9, _, x11, x12, x13, x14, x15, x16, x17, x18, x19, y0, y1, y2, y3, y4, F1, F2, rfl, rfl, h0, h1, f0, f1, f2, f3, f4, f5, f6, (fun _ => rfl), f8, f9, f10, f11, f12, f13, f14, f15, f16, f17⟩
      · have g7 := ready_pred hi ho 7
        obtain rfl := Option.some.inj ho
        have e7 := f7 (g7 (by kernel_rfl))
        subst e7
        have c7 : w.cell? ⟨w0.heap.size, 7, none⟩ = some (.slice oa r.ops.length oc) := (l0.frm h0 hbp).cell 7
        go_simp
        exact ⟨b0, b1, b2, b3, b4, b5, b6, b7, true, b9, b10, b11, b12, b13, b14, b15, b16, b17, x3, x4, x5, x6, x7, x8, x9, _, _, x12, x13, x14, x15, x16, x17, x18, x19, y0, y1, y2, y3, y4, F1, F2, rfl, rfl, h0, h1, f0, f1, f2, f3, f4, f5, f6, f7, (fun _ => rfl), f9, f10, f11, f12, f13, f14, f15, f16, f17⟩
      · have g8 := ready_pred hi ho 8
        have g6 := ready_pred hi ho 6
        have hb9 : b9 = false := by simpa using ready_off rfl hi
        obtain rfl := Option.some.inj ho
        have e8 := f8 (g8 (by kernel_rfl))
        have e6 : b6 = true := g6 (by kernel_rfl)
        have hb13 : b13 = false := by
          cases b13 with
          | false => rfl
          | true => have := (f13 rfl).1; rw [hb9] at this; cases this
        have hb16 : b16 = false := by
          cases b16 with
          | false => rfl
          | true => have := (f16 rfl).1; rw [hb13] at this; cases this
        have hb17 : b17 = false := by
          cases b17 with
          | false => rfl
          | true => have := f17 rfl; rw [hb16] at this; cases this
        subst e8 e6 hb13 hb16 hb17
        obtain ⟨ex, o1, nd1, rg1⟩ := f6 rfl
        subst ex
        go_simp
        refine (ownOps_any w _ r.ops (hrd.2.1.keep (hBw h0)) hl (unhide HX)).mono ?_
        rintro e w' ⟨u, rfl, F, ho', nd', rg', hb'⟩
        exact ⟨b0, b1, b2, b3, b4, b5, true, b7, b8, true, b10, b11, b12, false, b14, b15, false, false, x3, x4, x5, x6, x7, x8, _, x10, _, u, x13, x14, x15, x16, x17, x18, x19, y0, y1, y2, y3, y4, F1, F, rfl, rfl, h0.trans (Frm.ofBelow hb' _), h1.all hb', f0, f1, f2, f3, f4, f5, (fun _ => ⟨rfl, o1.keep hb', nd1, rg1.mono (Nat.le_refl _) hb'.size⟩), f7, f8, (fun _ => ⟨rfl, ho', nd', rg'.mono h0.size (Nat.le_refl _), fun q hq hq' => by have := (rg' q hq).1; have := (rg1 q hq').2; omega⟩), (fun h h' => ⟨ownsRow_frm (f10 h h').1 (Frm.ofBelow hb' []) (fun _ _ => by simp), (f10 h h').2.1.mono (Nat.le_refl _) hb'.size, (f10 h h').2.2.1, fun _ q hq hq' => by have := (rg' q hq).1; have := ((f10 h h').2.1 q hq').2; omega⟩), f11, f12, (fun h => by cases h), f14, f15, (fun h => by cases h), (fun h => by cases h)⟩
      · have hb10 : b10 = false := by simpa using ready_off rfl hi
        obtain rfl := Option.some.inj ho
        have hb13 : b13 = false := by
          cases b13 with
          | false => rfl
          | true => have := (f13 rfl).2.1; rw [hb10] at this; cases this
        have hb16 : b16 = false := by
          cases b16 with
          | false => rfl
          | true => have := (f16 rfl).1; rw [hb13] at this; cases this
        have hb17 : b17 = false := by
          cases b17 with
          | false => rfl
          | true => have := f17 rfl; rw [hb16] at this; cases this
        subst hb13 hb16 hb17
        have hb' : Below w.heap.size w (w.alloc (.cells #[] 25)) := (Below.refl _ _).alloc (Nat.le_refl _) _
        have hso : (w.alloc (.cells #[] 25)).ownsRow 0 25 2 (.slice (some ⟨w.heap.size, 0, none⟩) 0 0) 0 [] := World.ownsRow_lit w #[] 0 (Nat.zero_le _) (Nat.zero_le _) rfl
        have hsz' : (w.alloc (.cells #[] 25)).heap.size = w.heap.size + 1 := by simp
        have hfb : ∀ q ∈ FB (.slice (some ⟨w.heap.size, 0, none⟩) 0 0), q = w.heap.size := fun q hq => by simpa [FB, Value.ownBlock] using hq
        go_simp
        exact ⟨b0, b1, b2, b3, b4, b5, b6, b7, b8, b9, true, b11, b12, false, b14, b15, false, false, x3, x4, x5, x6, x7, x8, x9, x10, x11, x12, (.slice (some ⟨w.heap.size, 0, none⟩) 0 0), x14, x15, x16, x17, x18, x19, y0, y1, y2, y3, y4, F1, F2, rfl, rfl, h0.trans (Frm.ofBelow hb' _), h1.all hb', f0, f1, f2, f3, f4, f5, (fun h => ⟨(f6 h).1, (f6 h).2.1.keep hb', (f6 h).2.2.1, (f6 h).2.2.2.mono (Nat.le_refl _) hb'.size⟩), f7, f8, (fun h => ⟨(f9 h).1, OwOps.frm (f9 h).2.1 (Frm.ofBelow hb' []) (fun _ _ => by simp), (f9 h).2.2.1, (f9 h).2.2.2.1.mono (Nat.le_refl _) hb'.size, (f9 h).2.2.2.2⟩), (fun _ _ => ⟨hso, fun q hq => by have := hfb q hq; have := h0.size; omega, fun h q hq hq' => by have := hfb q hq'; have := ((f6 h).2.2.2 q hq).2; omega, fun h q hq hq' => by have := hfb q hq'; have := ((f9 h).2.2.2.1 q hq).2; omega⟩), f11, f12, (fun h => by cases h), f14, f15, (fun h => by cases h), (fun h => by cases h)⟩
      · obtain rfl := Option.some.inj ho
        go_simp
        exact ⟨b0, b1, b2, b3, b4, b5, b6, b7, b8, b9, b10, true, b12, b13, b14, b15, b16, b17, x3, x4, x5, x6, x7, x8, x9, x10, x11, x12, x13, _, x15, x16, x17, x18, x19, y0, y1, y2, y3, y4, F1, F2, rfl, rfl, h0, h1, f0, f1, f2, f3, f4, f5, f6, f7, f8, f9, f10, (fun _ => rfl), f12, f13, f14, f15, f16, f17⟩
      · have g11 := ready_pred hi ho 11
        obtain rfl := Option.some.inj ho
        have e11 := f11 (g11 (by kernel_rfl))
        subst e11
        have c8 : w.cell? ⟨w0.heap.size, 8, none⟩ = some (.slice ia r.und.length ic) := (l0.frm h0 hbp).cell 8
        go_simp
        exact ⟨b0, b1, b2, b3, b4, b5, b6, b7, b8, b9, b10, b11, true, b13, b14, b15, b16, b17, x3, x4, x5, x6, x7, x8, x9, x10, x11, x12, x13, _, _, x16, x17, x18, x19, y0, y1, y2, y3, y4, F1, F2, rfl, rfl, h0, h1, f0, f1, f2, f3, f4, f5, f6, f7, f8, f9, f10, f11, (fun _ => rfl), f13, f14, f15, f16, f17⟩
      · have g12 := ready_pred hi ho 12
        have g10 := ready_pred hi ho 10
        have g9 := ready_pred hi ho 9
        have hb13 : b13 = false := by simpa using ready_off rfl hi
        obtain rfl := Option.some.inj ho
        have e12 := f12 (g12 (by kernel_rfl))
        have e10 : b10 = true := g10 (by kernel_rfl)
        have e9 : b9 = true := g9 (by kernel_rfl)
        have e6 := (f9 e9).1
        have hb16 : b16 = false := by
          cases b16 with
          | false => rfl
          | true => have := (f16 rfl).1; rw [hb13] at this; cases this
        have hb17 : b17 = false := by
          cases b17 with
          | false => rfl
          | true => have := f17 rfl; rw [hb16] at this; cases this
        subst e12 e10 e9 e6 hb13 hb16 hb17
        obtain ⟨so, srg, sd1, sd2⟩ := f10 rfl rfl
        refine step_appIs rfl (.tmp 13) (.tmp 15) rfl x13 rfl so _ r.und rfl (hrd.2.2.keep (hBw h0)) hm ?_
        intro v' w' ho' hg hwh
        have fr : Frm w w' (FB x13) := Frm.ofGrown hg
        have hin : ∀ q ∈ FB v', (q ∈ FB x13 ∨ q = w.heap.size) := fun q hq => by
          have hq' : v'.ownBlock = some q := by simpa [FB] using hq
          rcases hwh with h | h
          · left; rw [hq'] at h; unfold FB; rw [← h]; simp
          · right; rw [hq'] at h; exact Option.some.inj h
        have hpn : w0.heap.size + 1 ∉ FB x13 := fun h => by have := (srg _ h).1; omega
        have K6' := (f6 rfl).2.1.frm fr (sd1 rfl)
        have K9' := OwOps.frm (f9 rfl).2.1 fr (sd2 rfl)
        have hrg : Rng (FB v') w1.heap.size w'.heap.size := fun q hq => ⟨by
          rcases hin q hq with h | h
          · exact (srg q h).1
          · rw [h]; exact h0.size, ho'.lt q hq⟩
        have hdj : ∀ q ∈ FB v', q ∉ F1 ∧ q ∉ F2 := fun q hq => by
          rcases hin q hq with h | h
          · exact ⟨fun h' => sd1 rfl q h' h, fun h' => sd2 rfl q h' h⟩
          · exact ⟨fun h' => by have := ((f6 rfl).2.2.2 q h').2; omega, fun h' => by have := ((f9 rfl).2.2.2.1 q h').2; omega⟩
        exact ⟨b0, b1, b2, b3, b4, b5, true, b7, b8, true, true, b11, b12, true, b14, b15, false, false, x3, x4, x5, x6, x7, x8, x9, x10, x11, x12, x13, x14, _, v', x17, x18, x19, y0, y1, y2, y3, y4, F1, F2, rfl, rfl, h0.new fr (fun g hg => (srg g hg).1), h1.frm fr hpn, f0, f1, f2, f3, f4, f5, (fun _ => ⟨(f6 rfl).1, K6', (f6 rfl).2.2.1, (f6 rfl).2.2.2.mono (Nat.le_refl _) fr.size⟩), f7, f8, (fun _ => ⟨rfl, K9', (f9 rfl).2.2.1, (f9 rfl).2.2.2.1.mono (Nat.le_refl _) fr.size, (f9 rfl).2.2.2.2⟩), (fun _ h => by cases h), f11, f12, (fun _ => ⟨rfl, rfl, ho', hrg, hdj⟩), f14, f15, (fun h => by cases h), (fun h => by cases h)⟩
      · obtain rfl := Option.some.inj ho
        go_simp
        exact ⟨b0, b1, b2, b3, b4, b5, b6, b7, b8, b9, b10, b11, b12, b13, true, b15, b16, b17, x3, x4, x5, x6, x7, x8, x9, x10, x11, x12, x13, x14, x15, x16, _, x18, x19, y0, y1, y2, y3, y4, F1, F2, rfl, rfl, h0, h1, f0, f1, f2, f3, f4, f5, f6, f7, f8, f9, f10, f11, f12, f13, (fun _ => rfl), f15, f16, f17⟩
      · have g14 := ready_pred hi ho 14
        obtain rfl := Option.some.inj ho
        have e14 := f14 (g14 (by kernel_rfl))
        subst e14
        have c9 : w.cell? ⟨w0.heap.size, 9, none⟩ = some (.bool r.lost) := (l0.frm h0 hbp).cell 9
        go_simp
        exact ⟨b0, b1, b2, b3, b4, b5, b6, b7, b8, b9, b10, b11, b12, b13, b14, true, b16, b17, x3, x4, x5, x6, x7, x8, x9, x10, x11, x12, x13, x14, x15, x16, _, _, x19, y0, y1, y2, y3, y4, F1, F2, rfl, rfl, h0, h1, f0, f1, f2, f3, f4, f5, f6, f7, f8, f9, f10, f11, f12, f13, f14, (fun _ => rfl), f16, f17⟩
      · have g1 := ready_pred hi ho 1
        have g3 := ready_pred hi ho 3
        have g13 := ready_pred hi ho 13
        have g15 := ready_pred hi ho 15
        have hb16 : b16 = false := by simpa using ready_off rfl hi
        obtain rfl := Option.some.inj ho
        have e1 := f1 (g1 (by kernel_rfl))
        have e3 := f3 (g3 (by kernel_rfl))
        have e15 := f15 (g15 (by kernel_rfl))
        have e13 : b13 = true := g13 (by kernel_rfl)
        have e9 := (f13 e13).1
        have e10 := (f13 e13).2.1
        have e6 := (f9 e9).1
        have hb17 : b17 = false := by
          cases b17 with
          | false => rfl
          | true => have := f17 rfl; rw [hb16] at this; cases this
        subst e1 e3 e15 e13 e9 e10 e6 hb17
        obtain ⟨ex, o1, nd1, rg1⟩ := f6 rfl
        obtain ⟨_, o2, nd2, rg2, dj2⟩ := f9 rfl
        obtain ⟨_, _, o3, rg3, dj3⟩ := f13 rfl
        obtain ⟨zk, pk, npk, cpk, qk, nqk, cqk, rk, nrk, crk, uk, nuk, cuk, hy0, hy1, hy2, hy3, hy4⟩ := rd5 o1.rd
        obtain ⟨ok, kk, hx12, _, _⟩ := Elems.shape o2.rd
        obtain ⟨ik, jk, hx16, _, _⟩ := Elems.shape o3.rd
        subst ex hy0 hy1 hy2 hy3 hy4 hx12 hx16
        go_simp
        exact ⟨b0, b1, b2, b3, b4, b5, true, b7, b8, true, true, b11, b12, true, b14, b15, true, false, x3, _, x5, _, x7, x8, _, x10, x11, (.slice ok r.ops.length kk), x13, x14, x15, (.slice ik r.und.length jk), x17, _, _, (.int .i64 zk), (.slice pk npk cpk), (.slice qk nqk cqk), (.slice rk nrk crk), (.slice uk nuk cuk), F1, F2, rfl, rfl, h0, h1, f0, f1, f2, f3, f4, f5, (fun _ => ⟨rfl, o1, nd1, rg1⟩), f7, f8, (fun _ => ⟨rfl, o2, nd2, rg2, dj2⟩), f10, f11, f12, (fun _ => ⟨rfl, rfl, o3, rg3, dj3⟩), f14, f15, (fun _ => ⟨rfl, rfl⟩), (fun h => by cases h)⟩
      · have g16 := ready_pred hi ho 16
        have hb17 : b17 = false := by simpa using ready_off rfl hi
        obtain rfl := Option.some.inj ho
        have e16 : b16 = true := g16 (by kernel_rfl)
        obtain ⟨e13, e19⟩ := f16 e16
        have e9 := (f13 e13).1
        have e10 := (f13 e13).2.1
        have e6 := (f9 e9).1
        subst e19 e16 e13 e9 e10 e6 hb17
        replace h1 : Loc w (w0.heap.size + 1) #[.int .i64 0, .int .i64 0, .int .i64 0, .slice none 0 0, .slice none 0 0, .slice none 0 0, .slice none 0 0, .slice none 0 0, .slice none 0 0, .bool false] 64 := h1
        obtain ⟨ex, o1, nd1, rg1⟩ := f6 rfl
        obtain ⟨_, o2, nd2, rg2, dj2⟩ := f9 rfl
        obtain ⟨_, _, o3, rg3, dj3⟩ := f13 rfl
        obtain ⟨zk, pk, npk, cpk, qk, nqk, cqk, rk, nrk, crk, uk, nuk, cuk, hy0, hy1, hy2, hy3, hy4⟩ := rd5 o1.rd
        obtain ⟨ok, kk, hx12, _, _⟩ := Elems.shape o2.rd
        obtain ⟨ik, jk, hx16, _, _⟩ := Elems.shape o3.rd
        subst ex hy0 hy1 hy2 hy3 hy4 hx12 hx16
        obtain ⟨c0, c1, c2, c3, c4, c5, c6, c7, c8, c9⟩ := h1.ten
        have u0 := h1.frozen 0
        have u1 := h1.frozen 1
        have u2 := h1.frozen 2
        have u3 := h1.frozen 3
        have u4 := h1.frozen 4
        have u5 := h1.frozen 5
        have u6 := h1.frozen 6
        have u7 := h1.frozen 7
        have u8 := h1.frozen 8
        have u9 := h1.frozen 9
        obtain ⟨s1, s2⟩ := store10r h1 (.int .i64 r.id) (.int .i64 r.clock) (.int .i64 zk) (.slice pk npk cpk) (.slice qk nqk cqk) (.slice rk nrk crk) (.slice uk nuk cuk) (.slice ok r.ops.length kk) (.slice ik r.und.length jk) (.bool r.lost)
        have hin : ∀ {F : List Nat}, Rng F w1.heap.size w.heap.size → ∀ g ∈ F, g ∉ [w0.heap.size + 1] := fun hr g hg hg' => by have := (hr g hg).1; simp at hg'; omega
        have s3 := h0.trans s2
        have s4 := o1.frm s2 (hin rg1)
        have s5 := OwOps.frm o2 s2 (hin rg2)
        have s6 := OwIds.frm o3 s2 (hin rg3)
        go_simp
        exact ⟨b0, b1, b2, b3, b4, b5, true, b7, b8, true, true, b11, b12, true, b14, b15, true, true, x3, x4, x5, x6, x7, x8, _, x10, x11, (.slice ok r.ops.length kk), x13, x14, x15, (.slice ik r.und.length jk), x17, x18, _, (.int .i64 zk), (.slice pk npk cpk), (.slice qk nqk cqk), (.slice rk nrk crk), (.slice uk nuk cuk), F1, F2, rfl, rfl, s3, s1, f0, f1, f2, f3, f4, f5, (fun _ => ⟨rfl, s4, nd1, rg1.mono (Nat.le_refl _) s2.size⟩), f7, f8, (fun _ => ⟨rfl, s5, nd2, rg2.mono (Nat.le_refl _) s2.size, dj2⟩), (fun _ h => by cases h), f11, f12, (fun _ => ⟨rfl, rfl, s6, rg3.mono (Nat.le_refl _) s2.size, dj3⟩), f14, f15, (fun _ => ⟨rfl, rfl⟩), (fun _ => rfl)⟩
  case dn =>
    intro L a w2 hI hre
    have hall := ready_all (L := L) (by obtain ⟨b0, b1, b2, b3, b4, b5, b6, b7, b8, b9, b10, b11, b12, b13, b14, b15, b16, b17, x3, x4, x5, x6, x7, x8, x9, x10, x11, x12, x13, x14, x15, x16, x17, x18, x19, y0, y1, y2, y3, y4, F1, F2, rfl, _⟩ := hI; rfl) (by kernel_rfl) hre 18
    obtain ⟨b0, b1, b2, b3, b4, b5, b6, b7, b8, b9, b10, b11, b12, b13, b14, b15, b16, b17, x3, x4, x5, x6, x7, x8, x9, x10, x11, x12, x13, x14, x15, x16, x17, x18, x19, y0, y1, y2, y3, y4, F1, F2, rfl, rfl, h0, h1, f0, f1, f2, f3, f4, f5, f6, f7, f8, f9, f10, f11, f12, f13, f14, f15, f16, f17⟩ := hI
    have s17 : b17 = true := hall 17 (by omega) (by decide)
    have e16 := f17 s17
    have e13 := (f16 e16).1
    have e9 := (f13 e13).1
    have e10 := (f13 e13).2.1
    have e6 := (f9 e9).1
    subst s17 e16 e13 e9 e10 e6
    replace h1 : Loc w2 (w0.heap.size + 1) #[.int .i64 r.id, .int .i64 r.clock, y0, y1, y2, y3, y4, x12, x16, .bool r.lost] 64 := h1
    obtain ⟨ex, o1, nd1, rg1⟩ := f6 rfl
    obtain ⟨_, o2, nd2, rg2, dj2⟩ := f9 rfl
    obtain ⟨_, _, o3, rg3, dj3⟩ := f13 rfl
    obtain ⟨zk, pk, npk, cpk, qk, nqk, cqk, rk, nrk, crk, uk, nuk, cuk, hy0, hy1, hy2, hy3, hy4⟩ := rd5 o1.rd
    obtain ⟨ok, kk, hx12, _, _⟩ := Elems.shape o2.rd
    obtain ⟨ik, jk, hx16, _, _⟩ := Elems.shape o3.rd
    subst ex hy0 hy1 hy2 hy3 hy4 hx12 hx16
    have bX := hBw h0
    clear hall f0 f1 f2 f3 f4 f5 f6 f7 f8 f9 f10 f11 f12 f13 f14 f15 f16 f17 hre
    obtain ⟨g0, g1, g2, g3, g4, g5, g6, g7, g8, g9⟩ := h1.ten
    have nd : (F1 ++ F2 ++ FB (.slice ik r.und.length jk)).Nodup := by
      refine List.nodup_append.2 ⟨List.nodup_append.2 ⟨nd1, nd2, fun a ha b hb e => dj2 b hb (e ▸ ha)⟩, FB_nodup _, fun a ha b hb e => ?_⟩
      subst e
      rcases List.mem_append.1 ha with ha | ha
      · exact (dj3 a hb).1 ha
      · exact (dj3 a hb).2 ha
    have rg := ((rg1.app rg2).app rg3).mono (lo' := w0.heap.size) (by omega) (Nat.le_refl _)
    have HF := hide (And.intro o1 (And.intro o2 (And.intro o3 (And.intro nd (And.intro rg bX)))))
    clear o1 o2 o3 nd rg bX h0 h1 nd1 nd2 rg1 rg2 rg3 dj2 dj3 hB1 hrd
    go_wp2_with fail
    obtain ⟨q1, q2, q3, nd, rg, bX⟩ := unhide HF
    exact bodyPost_ret (v := .agg #[.int .i64 r.id, .int .i64 r.clock, .int .i64 zk, .slice pk npk cpk, .slice qk nqk cqk, .slice rk nrk crk, .slice uk nuk cuk, .slice ok r.ops.length kk, .slice ik r.und.length jk, .bool r.lost]) (by simp [results, Tryz.results62, go_sem, g0, g1, g2, g3, g4, g5, g6, g7, g8, g9]) rfl ⟨zk, pk, npk, cpk, qk, nqk, cqk, rk, nrk, crk, uk, nuk, cuk, ok, kk, ik, jk, rfl, _, ⟨_, _, _, q1, q2, q3, rfl⟩, nd, rg, bX⟩
end Go.Proofs.YtkmmhlimihkgfaaGreat
