/- Own texts joined: CopyS, SPj, MarkZ, MarkPlM, MarkPl. -/
import Derived.Test.YthgopknjppflhaaGreatDoorJa
import Derived.Test.YthgopknjppflhaaGreatDoorJb
import Derived.Test.YthgopknjppflhaaGreatDoorJc
import Derived.Test.YthgopknjppflhaaGreatDoorJd
import Derived.Test.YthgopknjppflhaaGreatDoorJe
import Derived.Test.YthgopknjppflhaaGreatDoorJf
import Derived.Test.YthgopknjppflhaaGreatDoorJg
import Derived.Test.YthgopknjppflhaaGreatDoorJh
import Derived.Test.YthgopknjppflhaaGreatDoorJi
import Derived.Deep.RegionLaw
import Derived.Test.YthgopknjppflhaaGreatDoorChecked

/- spec.l2copy tells the tree, in memory of its own. -/
namespace Go.Proofs.YthgopknjppflhaaGreatDoor
open Go.RowKit Go.Shelf
set_option linter.unusedVariables false
set_option maxRecDepth 100000

/-- What l2copy tells of a tree. -/
def CsAt (n : Nat) (t : Tr n) : Prop := ∀ (w : World) (a b c d e : Value), RdNode n w [a, b, c, d, e] t → szT n t ≤ 2097152 →
    Calls Tryz.prog 15 #[.agg #[a, b, c, d, e]] w fun e w' => ∃ (kd : Int) (a1 : Option Addr) (n1 c1 : Nat) (a2 : Option Addr) (n2 c2 : Nat) (a3 : Option Addr) (n3 c3 : Nat) (a4 : Option Addr) (n4 c4 : Nat), e = .returned (.agg #[.int .i64 kd, .slice a1 n1 c1, .slice a2 n2 c2, .slice a3 n3 c3, .slice a4 n4 c4]) ∧ ∃ F, OwNode n w' [.int .i64 kd, .slice a1 n1 c1, .slice a2 n2 c2, .slice a3 n3 c3, .slice a4 n4 c4] t F ∧ F.Nodup ∧ Rng F w.heap.size w'.heap.size ∧ Below w.heap.size w w'

-- <<Cs5def
def Cs5 (wr : World) (bn po pb poff j cd vn vc : Nat) (va : Option Addr) (nm tx nv vv : Value) (kd : Int) (la : List (List Int × List Int)) (x : List Int × List Int) (Fa : List Nat) (s0 s2 s5 s6 s7 s8 s9 s10 s11 s12 s13 s14 s15 s16 s17 s18 s19 s20 s21 s22 s23 s46 s47 s48 s49 s50 s51 s52 s53 s54 s55 s56 s57 s58 s59 s60 s61 s62 s63 s64 : Value) (L : Array Bool) (a : Act) (w : World) : Prop :=
  ∃ b0 b1 b2 b3 b4 b5 b6 b7 b8 b9 b10 b11 b12 b13 b14 b15 b16 b17 b18 b19 b20 b21 b22 x24 x25 x26 x27 x28 x29 x30 x31 x32 x33 x34 x35 x36 x37 x38 x39 x40 x41 x42 x43 x44 x45, L = #[b0, b1, b2, b3, b4, b5, b6, b7, b8, b9, b10, b11, b12, b13, b14, b15, b16, b17, b18, b19, b20, b21, b22] ∧ a = { tmps := #[s0, .pointer (some ⟨bn, 0, none⟩), s2, .pointer (some ⟨po, 0, none⟩), .int .i64 j, s5, s6, s7, s8, s9, s10, s11, s12, s13, s14, s15, s16, s17, s18, s19, s20, s21, s22, s23, x24, x25, x26, x27, x28, x29, x30, x31, x32, x33, x34, x35, x36, x37, x38, x39, x40, x41, x42, x43, x44, x45, s46, s47, s48, s49, s50, s51, s52, s53, s54, s55, s56, s57, s58, s59, s60, s61, s62, s63, s64], defers := [] } ∧ Frm wr w (FB (.slice va vn vc) ++ [po]) ∧ (∀ q, ((b9 = true ∧ q ∈ FB x33) ∨ (b9 = false ∧ b2 = true ∧ q ∈ FB x26)) → ((b17 = true ∧ q ∈ FB x41) ∨ (b17 = false ∧ b10 = true ∧ q ∈ FB x34)) → False) ∧ Loc w po #[.int .i64 kd, nm, tx, (if b22 = true then x44 else .slice va vn vc), .slice none 0 0] 30 ∧ (b20 = false → OwAttrs w (.slice va vn vc) (la.take j) Fa) ∧ (b0 = true → x24 = .pointer (some ⟨po, 3, none⟩)) ∧ (b1 = true → x25 = .slice va vn vc) ∧ (b2 = true → b9 = false → Own w wr.heap.size x26 []) ∧ (b3 = true → x27 = .pointer (some ⟨bn, 3, none⟩)) ∧ (b4 = true → x28 = .slice (some ⟨pb, poff, none⟩) la.length cd) ∧ (b5 = true → x29 = .int .i64 j) ∧ (b6 = true → x30 = .pointer (some ⟨pb, poff + j * 2, none⟩)) ∧ (b7 = true → x31 = .pointer (some ⟨pb, poff + j * 2, none⟩)) ∧ (b8 = true → x32 = nv) ∧ (b9 = true → b2 = true ∧ Own w wr.heap.size x33 x.1) ∧ (b10 = true → b17 = false → Own w wr.heap.size x34 []) ∧ (b11 = true → x35 = .pointer (some ⟨bn, 3, none⟩)) ∧ (b12 = true → x36 = .slice (some ⟨pb, poff, none⟩) la.length cd) ∧ (b13 = true → x37 = .int .i64 j) ∧ (b14 = true → x38 = .pointer (some ⟨pb, poff + j * 2, none⟩)) ∧ (b15 = true → x39 = .pointer (some ⟨pb, poff + j * 2 + 1, none⟩)) ∧ (b16 = true → x40 = vv) ∧ (b17 = true → (b10 = true ∧ b9 = true) ∧ Own w wr.heap.size x41 x.2) ∧ (b18 = true → b9 = true ∧ b17 = true ∧ x42 = .agg #[x33, x41]) ∧ (b19 = true → b18 = true ∧ ∃ z, wr.heap.size ≤ z ∧ x43 = .slice (some ⟨z, 0, none⟩) 1 1 ∧ Loc w z #[x33, x41] 85) ∧ (b20 = true → b1 = true ∧ b17 = true ∧ ∃ g9 cap9 F9, x44 = .slice (some ⟨g9, 0, none⟩) (j + 1) cap9 ∧ OwAttrs w x44 (la.take j ++ [x]) F9 ∧ F9.Nodup ∧ ∀ q ∈ F9, (q ∈ Fa ∨ wr.heap.size ≤ q) ∧ q < w.heap.size) ∧ (b21 = true → x45 = .pointer (some ⟨po, 3, none⟩)) ∧ (b22 = true → b20 = true)
theorem Cs5_cases {i : Nat} (h : i < 23) : i = 0 ∨ i = 1 ∨ i = 2 ∨ i = 3 ∨ i = 4 ∨ i = 5 ∨ i = 6 ∨ i = 7 ∨ i = 8 ∨ i = 9 ∨ i = 10 ∨ i = 11 ∨ i = 12 ∨ i = 13 ∨ i = 14 ∨ i = 15 ∨ i = 16 ∨ i = 17 ∨ i = 18 ∨ i = 19 ∨ i = 20 ∨ i = 21 ∨ i = 22 := by omega
-- Cs5def>>

-- <<Cs1def
def Cs1 (w1 : World) (bn pr : Nat) (T0 nmv txv : Value) (kd : Int) (ln lt : List Int) (L : Array Bool) (a : Act) (w : World) : Prop :=
  ∃ b0 b1 b2 b3 b4 b5 b6 b7 b8 b9 b10 b11 b12 x3 x6 x7 x8 x9 x10 x11 x12 x13 x14 x15 x16, L = #[b0, b1, b2, b3, b4, b5, b6, b7, b8, b9, b10, b11, b12] ∧ a = { tmps := #[T0, .pointer (some ⟨bn, 0, none⟩), .pointer (some ⟨pr, 0, none⟩), x3, undef, undef, x6, x7, x8, x9, x10, x11, x12, x13, x14, x15, x16, undef, undef, undef, undef, undef, undef, undef, undef, undef, undef, undef, undef, undef, undef, undef, undef, undef, undef, undef, undef, undef, undef, undef, undef, undef, undef, undef, undef, undef, undef, undef, undef, undef, undef, undef, undef, undef, undef, undef, undef, undef, undef, undef, undef, undef, undef, undef, undef], defers := [] } ∧ Below w1.heap.size w1 w ∧ (∀ q, ((b5 = true ∧ q ∈ FB x11) ∨ (b5 = false ∧ b2 = true ∧ q ∈ FB x8)) → ((b9 = true ∧ q ∈ FB x15) ∨ (b9 = false ∧ b6 = true ∧ q ∈ FB x12)) → False) ∧ (b0 = true → x6 = .pointer (some ⟨bn, 0, none⟩)) ∧ (b1 = true → x7 = .int .i64 kd) ∧ (b2 = true → b5 = false → Own w w1.heap.size x8 []) ∧ (b3 = true → x9 = .pointer (some ⟨bn, 1, none⟩)) ∧ (b4 = true → x10 = nmv) ∧ (b5 = true → b2 = true ∧ Own w w1.heap.size x11 ln) ∧ (b6 = true → b9 = false → Own w w1.heap.size x12 []) ∧ (b7 = true → x13 = .pointer (some ⟨bn, 2, none⟩)) ∧ (b8 = true → x14 = txv) ∧ (b9 = true → b6 = true ∧ Own w w1.heap.size x15 lt) ∧ (b10 = true → b5 = true ∧ b9 = true ∧ x16 = .agg #[.int .i64 kd, x11, x15, .slice none 0 0, .slice none 0 0]) ∧ (b11 = true → ∃ po, x3 = .pointer (some ⟨po, 0, none⟩) ∧ w1.heap.size ≤ po ∧ Loc w po (if b12 = true then #[.int .i64 kd, x11, x15, .slice none 0 0, .slice none 0 0] else #[.int .i64 0, .slice none 0 0, .slice none 0 0, .slice none 0 0, .slice none 0 0]) 30) ∧ (b12 = true → b11 = true ∧ b10 = true)
theorem Cs1_cases {i : Nat} (h : i < 13) : i = 0 ∨ i = 1 ∨ i = 2 ∨ i = 3 ∨ i = 4 ∨ i = 5 ∨ i = 6 ∨ i = 7 ∨ i = 8 ∨ i = 9 ∨ i = 10 ∨ i = 11 ∨ i = 12 := by omega
-- Cs1def>>

set_option maxHeartbeats 6400000 in
theorem l2copy_core (n : Nat) (t : Tr (n + 2)) (H : ∀ k ∈ t.kids, CsAt (n + 1) k) : CsAt (n + 2) t := by
  intro w0 a b c d e hrd hsz
  have hszT : szT (n + 2) t = t.name.length + t.text.length + szA t.attrs + (t.kids.length + (t.kids.map (szT (n + 1))).sum) := rfl
  obtain ⟨_, _, _, _, e0, k1, k2, hb, hc, hd, he⟩ := hrd
  simp only [List.cons.injEq, and_true] at e0
  obtain ⟨rfl, rfl, rfl, rfl, rfl⟩ := e0
  obtain ⟨ab, cb, rfl, _, _⟩ := hb.shape
  obtain ⟨ac, cc, rfl, _, _⟩ := hc.shape
  obtain ⟨ad, cd, rfl, _, _⟩ := Elems.shape hd
  obtain ⟨ae, ce, rfl, _, _⟩ := Elems.shape he
  obtain ⟨l0, l1, hB1⟩ := two w0 #[.int .i64 t.kind, .slice ab t.name.length cb, .slice ac t.text.length cc, .slice ad t.attrs.length cd, .slice ae t.kids.length ce] #[.int .i64 0, .slice none 0 0, .slice none 0 0, .slice none 0 0, .slice none 0 0] 30 30
  obtain ⟨x0, x1, x2, x3, x4⟩ := l0.five
  have hal : t.attrs.length ≤ 4194304 := by unfold szA at hszT; omega
  have hnl : t.name.length ≤ 4194304 := by omega
  have htl : t.text.length ≤ 4194304 := by omega
  have hax : ∀ x ∈ t.attrs, x.1.length ≤ 4194304 ∧ x.2.length ≤ 4194304 := fun x hx => by have := attr_le hx; omega
  have hkl : t.kids.length ≤ 2097152 := by omega
  have hmK : (t.kids.length : Int) ≤ 9223372036854775807 := by omega
  have hmA : (t.attrs.length : Int) ≤ 9223372036854775807 := by omega
  have HSZ := hide hszT
  clear hszT
  go_enter Tryz.func15, Tryz.ntmps15
  go_wp2_with fail
  generalize hW1 : (w0.alloc (.cells #[.int .i64 t.kind, .slice ab t.name.length cb, .slice ac t.text.length cc, .slice ad t.attrs.length cd, .slice ae t.kids.length ce] 30)).alloc (.cells #[.int .i64 0, .slice none 0 0, .slice none 0 0, .slice none 0 0, .slice none 0 0] 30) = w1 at *
  have hs1 : w0.heap.size + 2 ≤ w1.heap.size := by rw [← hW1]; simp
  clear hW1
  have HAX := hide hax
  clear hax
  refine region_inv (by kernel_rfl) (Cs1 w1 w0.heap.size (w0.heap.size + 1) (.agg #[.int .i64 t.kind, .slice ab t.name.length cb, .slice ac t.text.length cc, .slice ad t.attrs.length cd, .slice ae t.kids.length ce]) (.slice ab t.name.length cb) (.slice ac t.text.length cc) t.kind t.name t.text) ?sz ?h0 ?step ?dn
  case sz =>
      rintro L a w ⟨b0, b1, b2, b3, b4, b5, b6, b7, b8, b9, b10, b11, b12, x3, x6, x7, x8, x9, x10, x11, x12, x13, x14, x15, x16, rfl, _⟩
      rfl
  case h0 =>
      refine ⟨false, false, false, false, false, false, false, false, false, false, false, false, false, undef, undef, undef, undef, undef, undef, undef, undef, undef, undef, undef, undef, rfl, rfl, (Below.refl _ _).drew, ?_⟩
      simp
-- <<Cs1step
  case step =>
      intro L a w i o hI hi ho
      obtain ⟨b0, b1, b2, b3, b4, b5, b6, b7, b8, b9, b10, b11, b12, x3, x6, x7, x8, x9, x10, x11, x12, x13, x14, x15, x16, rfl, rfl, h0, h1, f0, f1, f2, f3, f4, f5, f6, f7, f8, f9, f10, f11, f12⟩ := hI
      have F12a : b12 = true → b5 = true := fun h => (f10 (f12 h).2).1
      have F12b : b12 = true → b9 = true := fun h => (f10 (f12 h).2).2.1
      rcases Cs1_cases (ready_lt hi) with rfl | rfl | rfl | rfl | rfl | rfl | rfl | rfl | rfl | rfl | rfl | rfl | rfl
      · obtain rfl := Option.some.inj ho
        go_simp
        exact ⟨true, b1, b2, b3, b4, b5, b6, b7, b8, b9, b10, b11, b12, x3, _, x7, x8, x9, x10, x11, x12, x13, x14, x15, x16, rfl, rfl, h0, h1, (fun _ => rfl), f1, f2, f3, f4, f5, f6, f7, f8, f9, f10, f11, f12⟩
      · have g0 := ready_pred hi ho 0
        obtain rfl := Option.some.inj ho
        have e0 := f0 (g0 (by kernel_rfl))
        subst e0
        have c0 : w.cell? ⟨w0.heap.size, 0, none⟩ = some (.int .i64 t.kind) := (l0.all h0).cell 0
        go_simp
        exact ⟨b0, true, b2, b3, b4, b5, b6, b7, b8, b9, b10, b11, b12, x3, _, _, x8, x9, x10, x11, x12, x13, x14, x15, x16, rfl, rfl, h0, h1, f0, (fun _ => rfl), f2, f3, f4, f5, f6, f7, f8, f9, f10, f11, f12⟩
      · obtain rfl := Option.some.inj ho
        have hb2 : b2 = false := by simpa using ready_off rfl hi
        have hb' : Below w.heap.size w (w.alloc (.cells #[] 5)) := (Below.refl _ _).alloc (Nat.le_refl _) _
        go_simp
        refine ⟨b0, b1, true, b3, b4, b5, b6, b7, b8, b9, b10, b11, b12, x3, x6, x7, _, x9, x10, x11, x12, x13, x14, x15, x16, rfl, rfl, bstep h0 hb', ?_, f0, f1, (fun _ _ => (own_none w).mono h0.size), f3, f4, (fun h => ⟨rfl, (f5 h).2.keep hb'⟩), (fun h e => (f6 h e).keep hb'), f7, f8, (fun h => ⟨(f9 h).1, (f9 h).2.keep hb'⟩), f10, (fun h => by obtain ⟨po, q1, q2, q3⟩ := f11 h; exact ⟨po, q1, q2, q3.all hb'⟩), f12⟩
        intro q hA hB
        rcases hA with ⟨e, hq⟩ | ⟨_, _, hq⟩
        · rw [(f5 e).1] at hb2; cases hb2
        · have hz : q = w.heap.size := by simpa [FB, Value.ownBlock] using hq
          rcases hB with ⟨e, hq⟩ | ⟨e, e', hq⟩
          · have := ((f9 e).2.lt q (by simpa [FB] using hq)).2; omega
          · have := ((f6 e' e).lt q (by simpa [FB] using hq)).2; omega
      · obtain rfl := Option.some.inj ho
        go_simp
        exact ⟨b0, b1, b2, true, b4, b5, b6, b7, b8, b9, b10, b11, b12, x3, x6, x7, x8, _, x10, x11, x12, x13, x14, x15, x16, rfl, rfl, h0, h1, f0, f1, f2, (fun _ => rfl), f4, f5, f6, f7, f8, f9, f10, f11, f12⟩
      · have g3 := ready_pred hi ho 3
        obtain rfl := Option.some.inj ho
        have e3 := f3 (g3 (by kernel_rfl))
        subst e3
        have c0 : w.cell? ⟨w0.heap.size, 1, none⟩ = some (.slice ab t.name.length cb) := (l0.all h0).cell 1
        go_simp
        exact ⟨b0, b1, b2, b3, true, b5, b6, b7, b8, b9, b10, b11, b12, x3, x6, x7, x8, _, _, x11, x12, x13, x14, x15, x16, rfl, rfl, h0, h1, f0, f1, f2, f3, (fun _ => rfl), f5, f6, f7, f8, f9, f10, f11, f12⟩
      · have gs := ready_pred hi ho 4
        have gr := ready_pred hi ho 2
        obtain rfl := Option.some.inj ho
        have es := f4 (gs (by kernel_rfl))
        have er : b2 = true := gr (by kernel_rfl)
        subst es er
        have hbi : b5 = false := by simpa using ready_off rfl hi
        have hown := f2 rfl hbi
        have hdr : ∀ q ∈ FB x8, ((b5 = true ∧ q ∈ FB x11) ∨ (b5 = false ∧ true = true ∧ q ∈ FB x8)) := fun q hq => .inr ⟨hbi, rfl, hq⟩
        refine step_appAt (by rfl) (.tmp 8) (.tmp 10) (by rfl) w1.heap.size x8 [] (by rfl) hown (.slice ab t.name.length cb) t.name (by rfl) (hb.keep (bstep hB1 h0)) (by simp; omega) h0.size ?_
        intro v' w' ho' hg hat
        rw [List.nil_append] at ho'
        have hF := Frm.ofGrown hg
        have hbw : Below w1.heap.size w1 w' := h0.trans (hF.below h0.size (fun q hq => (hown.lt q (by simpa using hq)).1))
        have hkp : ∀ {u : Value} {m : List Int}, Own w w1.heap.size u m → (∀ q ∈ FB u, q ∉ FB x8) → Own w' w1.heap.size u m := fun hu hd => hu.frm hF (fun q hq hq' => hd q hq hq')
        have hlk : ∀ {po : Nat} {cs : Array Value}, Loc w po cs 30 → Loc w' po cs 30 := fun hl => hl.frm hF (fun hq => own_notN hown hl (by simpa using hq))
        have hat' : ∀ q ∈ FB v', q ∈ FB x8 ∨ q = w.heap.size := fun q hq => by
          have hq' : v'.ownBlock = some q := by simpa [FB] using hq
          rcases hat with h | h
          · exact .inl (by rw [h] at hq'; simpa [FB] using hq')
          · rw [h] at hq'; exact .inr (Option.some.inj hq').symm
        refine ⟨b0, b1, true, b3, b4, true, b6, b7, b8, b9, b10, b11, b12, x3, x6, x7, x8, x9, _, _, x12, x13, x14, x15, x16, rfl, rfl, hbw, ?_, f0, f1, (fun _ e => by cases e), f3, f4, (fun _ => ⟨rfl, ho'⟩), (fun h e => hkp (f6 h e) (fun q hq hq' => h1 q (hdr q hq') (.inr ⟨e, h, hq⟩))), f7, f8, (fun h => ⟨(f9 h).1, hkp (f9 h).2 (fun q hq hq' => h1 q (hdr q hq') (.inl ⟨h, hq⟩))⟩), (fun h => by rw [(f10 h).1] at hbi; cases hbi), (fun h => by obtain ⟨po, q1, q2, q3⟩ := f11 h; refine ⟨po, q1, q2, ?_⟩; have hb12 : b12 = false := (by cases b12 with | false => rfl | true => exact absurd (F12a rfl) (by rw [hbi]; simp)); subst hb12; exact hlk q3), f12⟩
        intro q hA hB
        rcases hA with ⟨_, hq⟩ | ⟨e, _⟩
        · rcases hat' q hq with h | h
          · exact h1 q (hdr q h) hB
          · rcases hB with ⟨e, hq⟩ | ⟨e, e', hq⟩
            · have := ((f9 e).2.lt q (by simpa [FB] using hq)).2; omega
            · have := ((f6 e' e).lt q (by simpa [FB] using hq)).2; omega
        · cases e
      · obtain rfl := Option.some.inj ho
        have hb6 : b6 = false := by simpa using ready_off rfl hi
        have hb' : Below w.heap.size w (w.alloc (.cells #[] 5)) := (Below.refl _ _).alloc (Nat.le_refl _) _
        go_simp
        refine ⟨b0, b1, b2, b3, b4, b5, true, b7, b8, b9, b10, b11, b12, x3, x6, x7, x8, x9, x10, x11, _, x13, x14, x15, x16, rfl, rfl, bstep h0 hb', ?_, f0, f1, (fun h e => (f2 h e).keep hb'), f3, f4, (fun h => ⟨(f5 h).1, (f5 h).2.keep hb'⟩), (fun _ _ => (own_none w).mono h0.size), f7, f8, (fun h => ⟨rfl, (f9 h).2.keep hb'⟩), f10, (fun h => by obtain ⟨po, q1, q2, q3⟩ := f11 h; exact ⟨po, q1, q2, q3.all hb'⟩), f12⟩
        intro q hA hB
        rcases hB with ⟨e, hq⟩ | ⟨_, _, hq⟩
        · rw [(f9 e).1] at hb6; cases hb6
        · have hz : q = w.heap.size := by simpa [FB, Value.ownBlock] using hq
          rcases hA with ⟨e, hq⟩ | ⟨e, e', hq⟩
          · have := ((f5 e).2.lt q (by simpa [FB] using hq)).2; omega
          · have := ((f2 e' e).lt q (by simpa [FB] using hq)).2; omega
      · obtain rfl := Option.some.inj ho
        go_simp
        exact ⟨b0, b1, b2, b3, b4, b5, b6, true, b8, b9, b10, b11, b12, x3, x6, x7, x8, x9, x10, x11, x12, _, x14, x15, x16, rfl, rfl, h0, h1, f0, f1, f2, f3, f4, f5, f6, (fun _ => rfl), f8, f9, f10, f11, f12⟩
      · have g7 := ready_pred hi ho 7
        obtain rfl := Option.some.inj ho
        have e7 := f7 (g7 (by kernel_rfl))
        subst e7
        have c0 : w.cell? ⟨w0.heap.size, 2, none⟩ = some (.slice ac t.text.length cc) := (l0.all h0).cell 2
        go_simp
        exact ⟨b0, b1, b2, b3, b4, b5, b6, b7, true, b9, b10, b11, b12, x3, x6, x7, x8, x9, x10, x11, x12, _, _, x15, x16, rfl, rfl, h0, h1, f0, f1, f2, f3, f4, f5, f6, f7, (fun _ => rfl), f9, f10, f11, f12⟩
      · have gs := ready_pred hi ho 8
        have gr := ready_pred hi ho 6
        obtain rfl := Option.some.inj ho
        have es := f8 (gs (by kernel_rfl))
        have er : b6 = true := gr (by kernel_rfl)
        subst es er
        have hbi : b9 = false := by simpa using ready_off rfl hi
        have hown := f6 rfl hbi
        have hdr : ∀ q ∈ FB x12, ((b9 = true ∧ q ∈ FB x15) ∨ (b9 = false ∧ true = true ∧ q ∈ FB x12)) := fun q hq => .inr ⟨hbi, rfl, hq⟩
        refine step_appAt (by rfl) (.tmp 12) (.tmp 14) (by rfl) w1.heap.size x12 [] (by rfl) hown (.slice ac t.text.length cc) t.text (by rfl) (hc.keep (bstep hB1 h0)) (by simp; omega) h0.size ?_
        intro v' w' ho' hg hat
        rw [List.nil_append] at ho'
        have hF := Frm.ofGrown hg
        have hbw : Below w1.heap.size w1 w' := h0.trans (hF.below h0.size (fun q hq => (hown.lt q (by simpa using hq)).1))
        have hkp : ∀ {u : Value} {m : List Int}, Own w w1.heap.size u m → (∀ q ∈ FB u, q ∉ FB x12) → Own w' w1.heap.size u m := fun hu hd => hu.frm hF (fun q hq hq' => hd q hq hq')
        have hlk : ∀ {po : Nat} {cs : Array Value}, Loc w po cs 30 → Loc w' po cs 30 := fun hl => hl.frm hF (fun hq => own_notN hown hl (by simpa using hq))
        have hat' : ∀ q ∈ FB v', q ∈ FB x12 ∨ q = w.heap.size := fun q hq => by
          have hq' : v'.ownBlock = some q := by simpa [FB] using hq
          rcases hat with h | h
          · exact .inl (by rw [h] at hq'; simpa [FB] using hq')
          · rw [h] at hq'; exact .inr (Option.some.inj hq').symm
        refine ⟨b0, b1, b2, b3, b4, b5, true, b7, b8, true, b10, b11, b12, x3, x6, x7, x8, x9, x10, x11, x12, x13, _, _, x16, rfl, rfl, hbw, ?_, f0, f1, (fun h e => hkp (f2 h e) (fun q hq hq' => h1 q (.inr ⟨e, h, hq⟩) (hdr q hq'))), f3, f4, (fun h => ⟨(f5 h).1, hkp (f5 h).2 (fun q hq hq' => h1 q (.inl ⟨h, hq⟩) (hdr q hq'))⟩), (fun _ e => by cases e), f7, f8, (fun _ => ⟨rfl, ho'⟩), (fun h => by rw [(f10 h).2.1] at hbi; cases hbi), (fun h => by obtain ⟨po, q1, q2, q3⟩ := f11 h; refine ⟨po, q1, q2, ?_⟩; have hb12 : b12 = false := (by cases b12 with | false => rfl | true => exact absurd (F12b rfl) (by rw [hbi]; simp)); subst hb12; exact hlk q3), f12⟩
        intro q hA hB
        rcases hB with ⟨_, hq⟩ | ⟨e, _⟩
        · rcases hat' q hq with h | h
          · exact h1 q hA (hdr q h)
          · rcases hA with ⟨e, hq⟩ | ⟨e, e', hq⟩
            · have := ((f5 e).2.lt q (by simpa [FB] using hq)).2; omega
            · have := ((f2 e' e).lt q (by simpa [FB] using hq)).2; omega
        · cases e
      · have g1 := ready_pred hi ho 1
        have g5 := ready_pred hi ho 5
        have g9 := ready_pred hi ho 9
        obtain rfl := Option.some.inj ho
        have e1 := f1 (g1 (by kernel_rfl))
        have e5 : b5 = true := g5 (by kernel_rfl)
        have e9 : b9 = true := g9 (by kernel_rfl)
        subst e1 e5 e9
        have e2 := (f5 rfl).1
        have e6 := (f9 rfl).1
        subst e2 e6
        obtain ⟨p2, k2', hv2, _, _⟩ := (f5 rfl).2.byt.shape
        obtain ⟨p3, k3', hv3, _, _⟩ := (f9 rfl).2.byt.shape
        subst hv2 hv3
        go_simp
        exact ⟨b0, b1, true, b3, b4, true, true, b7, b8, true, true, b11, b12, x3, x6, _, x8, x9, x10, _, x12, x13, x14, _, _, rfl, rfl, h0, h1, f0, f1, f2, f3, f4, f5, f6, f7, f8, f9, (fun _ => ⟨rfl, rfl, rfl⟩), f11, (fun h => ⟨(f12 h).1, rfl⟩)⟩
      · obtain rfl := Option.some.inj ho
        have hb11 : b11 = false := by simpa using ready_off rfl hi
        have hb12 : b12 = false := by
          cases b12 with
          | false => rfl
          | true => rw [(f12 rfl).1] at hb11; cases hb11
        subst hb12
        have hb' : Below w.heap.size w (w.alloc (.cells #[.int .i64 0, .slice none 0 0, .slice none 0 0, .slice none 0 0, .slice none 0 0] 30)) := (Below.refl _ _).alloc (Nat.le_refl _) _
        go_simp
        exact ⟨b0, b1, b2, b3, b4, b5, b6, b7, b8, b9, b10, true, false, _, x6, x7, x8, x9, x10, x11, x12, x13, x14, x15, x16, rfl, rfl, bstep h0 hb', h1, f0, f1, (fun h e => (f2 h e).keep hb'), f3, f4, (fun h => ⟨(f5 h).1, (f5 h).2.keep hb'⟩), (fun h e => (f6 h e).keep hb'), f7, f8, (fun h => ⟨(f9 h).1, (f9 h).2.keep hb'⟩), f10, (fun _ => ⟨w.heap.size, rfl, h0.size, Loc.made w _ _⟩), (fun h => by cases h)⟩
      · have g10 := ready_pred hi ho 10
        have g11 := ready_pred hi ho 11
        obtain rfl := Option.some.inj ho
        have e11 : b11 = true := g11 (by kernel_rfl)
        have e10 : b10 = true := g10 (by kernel_rfl)
        obtain ⟨e5, e9, e17⟩ := f10 e10
        have hb12 : b12 = false := by simpa using ready_off rfl hi
        subst e5 e9 e10 e11 e17 hb12
        have e2 := (f5 rfl).1
        have e6 := (f9 rfl).1
        subst e2 e6
        obtain ⟨po, q1, q2, q3⟩ := f11 rfl
        replace q3 : Loc w po #[.int .i64 0, .slice none 0 0, .slice none 0 0, .slice none 0 0, .slice none 0 0] 30 := q3
        subst q1
        obtain ⟨p2, k2', hv2, _, _⟩ := (f5 rfl).2.byt.shape
        obtain ⟨p3, k3', hv3, _, _⟩ := (f9 rfl).2.byt.shape
        subst hv2 hv3
        obtain ⟨y0, y1, y2, y3, y4⟩ := q3.five
        have u0 := q3.frozen 0
        have u1 := q3.frozen 1
        have u2 := q3.frozen 2
        have u3 := q3.frozen 3
        have u4 := q3.frozen 4
        obtain ⟨s1, s2⟩ := store5 q3 (.int .i64 t.kind) (.slice p2 t.name.length k2') (.slice p3 t.text.length k3') (.slice none 0 0) (.slice none 0 0)
        have s3 := h0.trans (s2.below h0.size (fun g hg => by have e : g = po := (by simpa using hg); omega))
        have s4 := (f5 rfl).2.frm s2 (fun g hg hg' => own_notN (f5 rfl).2 q3 (by have e : g = po := (by simpa using hg'); rw [← e]; simpa [FB] using hg))
        have s5 := (f9 rfl).2.frm s2 (fun g hg hg' => own_notN (f9 rfl).2 q3 (by have e : g = po := (by simpa using hg'); rw [← e]; simpa [FB] using hg))
        go_simp
        exact ⟨b0, b1, true, b3, b4, true, true, b7, b8, true, true, true, true, _, x6, x7, x8, x9, x10, _, x12, x13, x14, _, _, rfl, rfl, s3, h1, f0, f1, (fun _ e => by cases e), f3, f4, (fun _ => ⟨(f5 rfl).1, s4⟩), (fun _ e => by cases e), f7, f8, (fun _ => ⟨(f9 rfl).1, s5⟩), (fun _ => ⟨rfl, rfl, rfl⟩), (fun _ => ⟨po, rfl, q2, s1⟩), (fun _ => ⟨rfl, rfl⟩)⟩
-- Cs1step>>
  case dn =>
    intro L a w2 hI hre
    have hall := ready_all (L := L) (by obtain ⟨b0, b1, b2, b3, b4, b5, b6, b7, b8, b9, b10, b11, b12, x3, x6, x7, x8, x9, x10, x11, x12, x13, x14, x15, x16, rfl, _⟩ := hI; rfl) (by kernel_rfl) hre 13
    obtain ⟨b0, b1, b2, b3, b4, b5, b6, b7, b8, b9, b10, b11, b12, x3, x6, x7, x8, x9, x10, x11, x12, x13, x14, x15, x16, rfl, rfl, h0, h1, f0, f1, f2, f3, f4, f5, f6, f7, f8, f9, f10, f11, f12⟩ := hI
    have s5 : b5 = true := hall 5 (by omega) (by decide)
    have s8 : b9 = true := hall 9 (by omega) (by decide)
    have s10 : b11 = true := hall 11 (by omega) (by decide)
    have s11 : b12 = true := hall 12 (by omega) (by decide)
    subst s5 s8 s10 s11
    obtain ⟨po, q1, q2, q3⟩ := f11 rfl
    replace q3 : Loc w2 po #[.int .i64 t.kind, x11, x15, .slice none 0 0, .slice none 0 0] 30 := q3
    have r0 := (f5 rfl).2
    have r1 := (f9 rfl).2
    subst q1
    have hO : OutAt n w1.heap.size w2 po t.kind x11 x15 (.slice none 0 0) (.slice none 0 0) t.name t.text (t.attrs.take 0) (t.kids.take 0) [] [] := by
      refine ⟨q3, r0.mono (Nat.zero_le _), r1.mono (Nat.zero_le _), OwElems.naught _ _ _ _, OwElems.naught _ _ _ _, ?_, fun q hq => ?_⟩
      · rw [List.append_nil, List.append_nil]
        exact List.nodup_append.2 ⟨FB_nodup _, FB_nodup _, fun a ha b hb e => h1 a (.inl ⟨rfl, ha⟩) (.inl ⟨rfl, e ▸ hb⟩)⟩
      · have hq' : q ∈ FB x11 ∨ q ∈ FB x15 := by simpa using hq
        rcases hq' with h | h
        · exact ⟨(r0.lt q (by simpa [FB] using h)).1, (r0.lt q (by simpa [FB] using h)).2, fun e => own_notN r0 q3 (by rw [← e]; simpa [FB] using h)⟩
        · exact ⟨(r1.lt q (by simpa [FB] using h)).1, (r1.lt q (by simpa [FB] using h)).2, fun e => own_notN r1 q3 (by rw [← e]; simpa [FB] using h)⟩
    clear hall f0 f1 f2 f3 f4 f5 f6 f7 f8 f9 f10 f11 f12 hre h1
    obtain ⟨p2, k2', hv2, _, _⟩ := r0.byt.shape
    obtain ⟨p3, k3', hv3, _, _⟩ := r1.byt.shape
    subst hv2 hv3
    have hB2 : Below w0.heap.size w0 w2 := bstep hB1 h0
    have lr2 := l1.all h0
    have lb2 := l0.all h0
    have hlo : w1.heap.size ≤ w2.heap.size := h0.size
    have hpo := q3.lt
    have hpb : ¬ w0.heap.size = po := by omega
    have hpr : ¬ w0.heap.size + 1 = po := by omega
    clear r0 r1 q3 x0 x1 x2 x3 x4 hb hc h0 l0 l1
    obtain ⟨i0, hi0, hz0, hz1, hz2⟩ := info_parts Tryz.info85
    go_wp2_with fail
    go_loopw [4] (fun i wr => ∃ j : Nat, j ≤ t.attrs.length ∧ i = .int .i64 j ∧ ∃ va vn vc Fa, OutAt n w1.heap.size wr po t.kind (.slice p2 t.name.length k2') (.slice p3 t.text.length k3') (.slice va vn vc) (.slice none 0 0) t.name t.text (t.attrs.take j) (t.kids.take 0) Fa [] ∧ Below w0.heap.size w0 wr ∧ Loc wr w0.heap.size #[.int .i64 t.kind, .slice ab t.name.length cb, .slice ac t.text.length cc, .slice ad t.attrs.length cd, .slice ae t.kids.length ce] 30 ∧ Loc wr (w0.heap.size + 1) #[.int .i64 0, .slice none 0 0, .slice none 0 0, .slice none 0 0, .slice none 0 0] 30 ∧ w1.heap.size ≤ wr.heap.size) (fun i _ => t.attrs.length - (intOf i).toNat)
    case atStart => exact ⟨0, Nat.zero_le _, rfl, none, 0, 0, [], hO, hB2, lb2, lr2, hlo⟩
    case round =>
      clear hO hB2 lr2 lb2 hlo hpo
      obtain ⟨j, hj, rfl, va, vn, vc, Fa, hO, hBr, lb, lr, hlo⟩ := hrel
      have c3 : wr.cell? ⟨w0.heap.size, 3, none⟩ = some (.slice ad t.attrs.length cd) := lb.cell 3
      by_cases hjl : j < t.attrs.length
      · have hjl' : (j : Int) < (t.attrs.length : Int) := by omega
        obtain ⟨pb, poff, hpa, hpl, hun, _, C, hC, hcell, hra⟩ := hd.at hjl
        clear hun
        subst hpa
        obtain ⟨x, hx⟩ : ∃ x, x = t.attrs[j] := ⟨_, rfl⟩
        have hxm : x ∈ t.attrs := by rw [hx]; exact List.getElem_mem hjl
        have hxs := unhide HAX x hxm
        have HTK := hide (show t.attrs.take (j + 1) = t.attrs.take j ++ [x] by rw [List.take_succ_eq_append_getElem hjl, ← hx])
        rw [← hx] at hra
        obtain ⟨y0, y1, rfl, hy0, hy1⟩ := hra
        have u0 := hcell 0 (by omega)
        have u1 := hcell 1 (by omega)
        simp only [List.getElem?_cons_zero, List.getElem?_cons_succ, Nat.add_zero] at u0 u1
        obtain ⟨n1, n2, rfl, _, _⟩ := hy0.shape
        obtain ⟨v1, v2, rfl, _, _⟩ := hy1.shape
        have hvF : ∀ q ∈ FB (.slice va vn vc), q ∈ Fa := fun q hq => by
          obtain ⟨_, _, _, _, _, _, rfl⟩ := hO.attrs
          exact List.mem_append_left _ hq
        have hFlt : ∀ q ∈ Fa, q < wr.heap.size := fun q hq => (hO.rng q (by simp only [List.mem_append]; exact .inl (.inr hq))).2.1
        have hNd : Fa.Nodup := (List.nodup_append.1 (List.nodup_append.1 hO.nodup).1).2.1
        clear hC hcell hx c3
        have c3 : wr.cell? ⟨w0.heap.size, 3, none⟩ = some (.slice (some ⟨pb, poff, none⟩) t.attrs.length cd) := lb.cell 3
        go_wp2_with fail
        have hxb : poff + j * 2 + 1 = poff + j * 2 + 1 := rfl
        clear hxb
        have hbS : w0.heap.size ∉ FB (.slice va vn vc) ++ [po] := fun h => by
          rcases List.mem_append.1 h with h | h
          · have := (hO.rng _ (by simp only [List.mem_append]; exact .inl (.inr (hvF _ h)))).1; omega
          · have e : w0.heap.size = po := by simpa using h
            omega
        have hBw : ∀ {w : World}, Frm wr w (FB (.slice va vn vc) ++ [po]) → Below w0.heap.size w0 w := fun f => hBr.trans (f.below hBr.size (fun q hq => by
          rcases List.mem_append.1 hq with h | h
          · have := (hO.rng q (by simp only [List.mem_append]; exact .inl (.inr (hvF q h)))).1; omega
          · have e : q = po := by simpa using h
            omega))
        refine region_inv (by kernel_rfl) (Cs5 wr w0.heap.size po pb poff j cd vn vc va (.slice p2 t.name.length k2') (.slice p3 t.text.length k3') (.slice n1 x.1.length n2) (.slice v1 x.2.length v2) t.kind t.attrs x Fa (.agg #[.int .i64 t.kind, .slice ab t.name.length cb, .slice ac t.text.length cc, .slice (some ⟨pb, poff, none⟩) t.attrs.length cd, .slice ae t.kids.length ce]) (.pointer (some ⟨w0.heap.size + 1, 0, none⟩)) undef x6 x7 x8 x9 x10 (.slice p2 t.name.length k2') x12 x13 x14 (.slice p3 t.text.length k3') x16 (.int .i64 j) (.pointer (some ⟨w0.heap.size, 3, none⟩)) (.slice (some ⟨pb, poff, none⟩) t.attrs.length cd) (.int .i64 t.attrs.length) (.bool true) u22 u23 undef undef undef undef undef undef undef undef undef undef undef undef undef undef undef undef undef undef undef) ?sz5 ?h05 ?step5 ?dn5
        case sz5 =>
          rintro L a w ⟨b0, b1, b2, b3, b4, b5, b6, b7, b8, b9, b10, b11, b12, b13, b14, b15, b16, b17, b18, b19, b20, b21, b22, x24, x25, x26, x27, x28, x29, x30, x31, x32, x33, x34, x35, x36, x37, x38, x39, x40, x41, x42, x43, x44, x45, rfl, _⟩
          rfl
        case h05 =>
          refine ⟨false, false, false, false, false, false, false, false, false, false, false, false, false, false, false, false, false, false, false, false, false, false, false, u24, u25, u26, u27, u28, u29, u30, u31, u32, u33, u34, u35, u36, u37, u38, u39, u40, u41, u42, u43, u44, u45, rfl, rfl, Frm.ofBelow ((Below.refl _ _).drew) _, ?_, hO.loc.all ((Below.refl _ _).drew), fun _ => OwAttrs.frm hO.attrs (Frm.ofBelow ((Below.refl _ _).drew) []) (fun _ _ => by simp), ?_⟩
          · intro q h
            simp at h
          · simp
-- <<Cs5step
        case step5 =>
          intro L a w i o hI hi ho
          obtain ⟨b0, b1, b2, b3, b4, b5, b6, b7, b8, b9, b10, b11, b12, b13, b14, b15, b16, b17, b18, b19, b20, b21, b22, x24, x25, x26, x27, x28, x29, x30, x31, x32, x33, x34, x35, x36, x37, x38, x39, x40, x41, x42, x43, x44, x45, rfl, rfl, h0, h1, h2, h3, f0, f1, f2, f3, f4, f5, f6, f7, f8, f9, f10, f11, f12, f13, f14, f15, f16, f17, f18, f19, f20, f21, f22⟩ := hI
          rcases Cs5_cases (ready_lt hi) with rfl | rfl | rfl | rfl | rfl | rfl | rfl | rfl | rfl | rfl | rfl | rfl | rfl | rfl | rfl | rfl | rfl | rfl | rfl | rfl | rfl | rfl | rfl
          · obtain rfl := Option.some.inj ho
            go_simp
            exact ⟨true, b1, b2, b3, b4, b5, b6, b7, b8, b9, b10, b11, b12, b13, b14, b15, b16, b17, b18, b19, b20, b21, b22, _, x25, x26, x27, x28, x29, x30, x31, x32, x33, x34, x35, x36, x37, x38, x39, x40, x41, x42, x43, x44, x45, rfl, rfl, h0, h1, h2, h3, (fun _ => rfl), f1, f2, f3, f4, f5, f6, f7, f8, f9, f10, f11, f12, f13, f14, f15, f16, f17, f18, f19, f20, f21, f22⟩
          · have g0 := ready_pred hi ho 0
            obtain rfl := Option.some.inj ho
            have e0 := f0 (g0 (by kernel_rfl))
            subst e0
            have hbi : b1 = false := by simpa using ready_off rfl hi
            have hb22 : b22 = false := by
              cases b22 with
              | false => rfl
              | true => have := (f20 (f22 rfl)).1; rw [hbi] at this; cases this
            subst hb22
            replace h2 : Loc w po #[.int .i64 t.kind, .slice p2 t.name.length k2', .slice p3 t.text.length k3', .slice va vn vc, .slice none 0 0] 30 := h2
            have c0 : w.cell? ⟨po, 3, none⟩ = some (.slice va vn vc) := h2.cell 3
            go_simp
            exact ⟨b0, true, b2, b3, b4, b5, b6, b7, b8, b9, b10, b11, b12, b13, b14, b15, b16, b17, b18, b19, b20, b21, false, _, _, x26, x27, x28, x29, x30, x31, x32, x33, x34, x35, x36, x37, x38, x39, x40, x41, x42, x43, x44, x45, rfl, rfl, h0, h1, h2, h3, f0, (fun _ => rfl), f2, f3, f4, f5, f6, f7, f8, f9, f10, f11, f12, f13, f14, f15, f16, f17, f18, f19, (fun h => by have := (f20 h).1; rw [hbi] at this; cases this), f21, (fun h => by cases h)⟩
          · obtain rfl := Option.some.inj ho
            have hbi : b2 = false := by simpa using ready_off rfl hi
            have hb' : Below w.heap.size w (w.alloc (.cells #[] 5)) := (Below.refl _ _).alloc (Nat.le_refl _) _
            go_simp
            refine ⟨b0, b1, true, b3, b4, b5, b6, b7, b8, b9, b10, b11, b12, b13, b14, b15, b16, b17, b18, b19, b20, b21, b22, x24, x25, _, x27, x28, x29, x30, x31, x32, x33, x34, x35, x36, x37, x38, x39, x40, x41, x42, x43, x44, x45, rfl, rfl, h0.trans (Frm.ofBelow hb' _), ?_, h2.all hb', (fun e => OwAttrs.frm (h3 e) (Frm.ofBelow hb' []) (fun _ _ => by simp)), f0, f1, (fun _ _ => (own_none w).mono h0.size), f3, f4, f5, f6, f7, f8, (fun h => ⟨rfl, (f9 h).2.keep hb'⟩), (fun h e => (f10 h e).keep hb'), f11, f12, f13, f14, f15, f16, (fun h => ⟨(f17 h).1, (f17 h).2.keep hb'⟩), f18, (fun h => by obtain ⟨z0, z, q1, q2, q3⟩ := f19 h; exact ⟨z0, z, q1, q2, q3.all hb'⟩), (fun h => by obtain ⟨z0, z1, g9, cap9, F9, q1, q2, q3, q4⟩ := f20 h; exact ⟨z0, z1, g9, cap9, F9, q1, OwAttrs.frm q2 (Frm.ofBelow hb' []) (fun _ _ => by simp), q3, fun q hq => ⟨(q4 q hq).1, Nat.lt_of_lt_of_le (q4 q hq).2 hb'.size⟩⟩), f21, f22⟩
            intro q hA hB
            rcases hA with ⟨e, hq⟩ | ⟨_, _, hq⟩
            · have := (f9 e).1; rw [hbi] at this; cases this
            · have hz : q = w.heap.size := by simpa [FB, Value.ownBlock] using hq
              rcases hB with ⟨e, hq⟩ | ⟨e, e', hq⟩
              · have := ((f17 e).2.lt q (by simpa [FB] using hq)).2; omega
              · have := ((f10 e' e).lt q (by simpa [FB] using hq)).2; omega
          · obtain rfl := Option.some.inj ho
            go_simp
            exact ⟨b0, b1, b2, true, b4, b5, b6, b7, b8, b9, b10, b11, b12, b13, b14, b15, b16, b17, b18, b19, b20, b21, b22, x24, x25, x26, _, x28, x29, x30, x31, x32, x33, x34, x35, x36, x37, x38, x39, x40, x41, x42, x43, x44, x45, rfl, rfl, h0, h1, h2, h3, f0, f1, f2, (fun _ => rfl), f4, f5, f6, f7, f8, f9, f10, f11, f12, f13, f14, f15, f16, f17, f18, f19, f20, f21, f22⟩
          · have g3 := ready_pred hi ho 3
            obtain rfl := Option.some.inj ho
            have e3 := f3 (g3 (by kernel_rfl))
            subst e3
            have c0 : w.cell? ⟨w0.heap.size, 3, none⟩ = some (.slice (some ⟨pb, poff, none⟩) t.attrs.length cd) := (lb.frm h0 hbS).cell 3
            go_simp
            exact ⟨b0, b1, b2, b3, true, b5, b6, b7, b8, b9, b10, b11, b12, b13, b14, b15, b16, b17, b18, b19, b20, b21, b22, x24, x25, x26, _, _, x29, x30, x31, x32, x33, x34, x35, x36, x37, x38, x39, x40, x41, x42, x43, x44, x45, rfl, rfl, h0, h1, h2, h3, f0, f1, f2, f3, (fun _ => rfl), f5, f6, f7, f8, f9, f10, f11, f12, f13, f14, f15, f16, f17, f18, f19, f20, f21, f22⟩
          · obtain rfl := Option.some.inj ho
            go_simp
            exact ⟨b0, b1, b2, b3, b4, true, b6, b7, b8, b9, b10, b11, b12, b13, b14, b15, b16, b17, b18, b19, b20, b21, b22, x24, x25, x26, x27, x28, _, x30, x31, x32, x33, x34, x35, x36, x37, x38, x39, x40, x41, x42, x43, x44, x45, rfl, rfl, h0, h1, h2, h3, f0, f1, f2, f3, f4, (fun _ => rfl), f6, f7, f8, f9, f10, f11, f12, f13, f14, f15, f16, f17, f18, f19, f20, f21, f22⟩
          · have g4 := ready_pred hi ho 4
            have g5 := ready_pred hi ho 5
            obtain rfl := Option.some.inj ho
            have e4 := f4 (g4 (by kernel_rfl))
            subst e4
            have e5 := f5 (g5 (by kernel_rfl))
            subst e5
            go_simp
            exact ⟨b0, b1, b2, b3, b4, b5, true, b7, b8, b9, b10, b11, b12, b13, b14, b15, b16, b17, b18, b19, b20, b21, b22, x24, x25, x26, x27, _, _, _, x31, x32, x33, x34, x35, x36, x37, x38, x39, x40, x41, x42, x43, x44, x45, rfl, rfl, h0, h1, h2, h3, f0, f1, f2, f3, f4, f5, (fun _ => rfl), f7, f8, f9, f10, f11, f12, f13, f14, f15, f16, f17, f18, f19, f20, f21, f22⟩
          · have g6 := ready_pred hi ho 6
            obtain rfl := Option.some.inj ho
            have e6 := f6 (g6 (by kernel_rfl))
            subst e6
            go_simp
            exact ⟨b0, b1, b2, b3, b4, b5, b6, true, b8, b9, b10, b11, b12, b13, b14, b15, b16, b17, b18, b19, b20, b21, b22, x24, x25, x26, x27, x28, x29, _, _, x32, x33, x34, x35, x36, x37, x38, x39, x40, x41, x42, x43, x44, x45, rfl, rfl, h0, h1, h2, h3, f0, f1, f2, f3, f4, f5, f6, (fun _ => rfl), f8, f9, f10, f11, f12, f13, f14, f15, f16, f17, f18, f19, f20, f21, f22⟩
          · have g7 := ready_pred hi ho 7
            obtain rfl := Option.some.inj ho
            have e7 := f7 (g7 (by kernel_rfl))
            subst e7
            have c0 : w.cell? ⟨pb, poff + j * 2, none⟩ = some (.slice n1 x.1.length n2) := ((hBw h0).cell (p := ⟨pb, poff + j * 2, none⟩) hpl).trans u0
            go_simp
            exact ⟨b0, b1, b2, b3, b4, b5, b6, b7, true, b9, b10, b11, b12, b13, b14, b15, b16, b17, b18, b19, b20, b21, b22, x24, x25, x26, x27, x28, x29, x30, _, _, x33, x34, x35, x36, x37, x38, x39, x40, x41, x42, x43, x44, x45, rfl, rfl, h0, h1, h2, h3, f0, f1, f2, f3, f4, f5, f6, f7, (fun _ => rfl), f9, f10, f11, f12, f13, f14, f15, f16, f17, f18, f19, f20, f21, f22⟩
          · have gs := ready_pred hi ho 8
            have gr := ready_pred hi ho 2
            have g9' := ready_pred hi ho 9
            obtain rfl := Option.some.inj ho
            have es := f8 (gs (by kernel_rfl))
            have er : b2 = true := gr (by kernel_rfl)
            clear g9'
            subst es er
            have hbi : b9 = false := by simpa using ready_off rfl hi
            have hown := f2 rfl hbi
            have hdr : ∀ q ∈ FB x26, ((b9 = true ∧ q ∈ FB x33) ∨ (b9 = false ∧ true = true ∧ q ∈ FB x26)) := fun q hq => .inr ⟨hbi, rfl, hq⟩
            refine step_appAt (by rfl) (.tmp 26) (.tmp 32) (by rfl) wr.heap.size x26 [] (by rfl) hown (.slice n1 x.1.length n2) x.1 (by rfl) (hy0.keep (hBw h0)) (by simp; omega) h0.size ?_
            intro v' w' ho' hg hat
            rw [List.nil_append] at ho'
            have hF := Frm.ofGrown hg
            have hFS : Frm wr w' (FB (.slice va vn vc) ++ [po]) := h0.more hF (fun q hq => .inr (hown.lt q (by simpa using hq)).1)
            have hkp : ∀ {u : Value} {m : List Int}, Own w wr.heap.size u m → (∀ q ∈ FB u, q ∉ FB x26) → Own w' wr.heap.size u m := fun hu hd => hu.frm hF (fun q hq hq' => hd q hq hq')
            have hlk := h2.frm hF (fun hq => own_notN hown h2 (by simpa using hq))
            have hat' : ∀ q ∈ FB v', q ∈ FB x26 ∨ q = w.heap.size := fun q hq => by
              have hq' : v'.ownBlock = some q := by simpa [FB] using hq
              rcases hat with h | h
              · exact .inl (by rw [h] at hq'; simpa [FB] using hq')
              · rw [h] at hq'; exact .inr (Option.some.inj hq').symm
            refine ⟨b0, b1, true, b3, b4, b5, b6, b7, b8, true, b10, b11, b12, b13, b14, b15, b16, b17, b18, b19, b20, b21, b22, x24, x25, x26, x27, x28, x29, x30, x31, _, _, x34, x35, x36, x37, x38, x39, x40, x41, x42, x43, x44, x45, rfl, rfl, hFS, ?_, hlk, (fun e => OwAttrs.frm (h3 e) hF (fun q hq hq' => by have := hFlt q hq; have := (hown.lt q (by simpa using hq')).1; omega)), f0, f1, (fun _ e => by cases e), f3, f4, f5, f6, f7, f8, (fun _ => ⟨rfl, ho'⟩), (fun h e => hkp (f10 h e) (fun q hq hq' => h1 q (hdr q hq') (.inr ⟨e, h, hq⟩))), f11, f12, f13, f14, f15, f16, (fun h => by have := (f17 h).1.2; rw [hbi] at this; cases this), (fun h => by have := (f18 h).1; rw [hbi] at this; cases this), (fun h => by have := (f18 (f19 h).1).1; rw [hbi] at this; cases this), (fun h => by have := (f17 (f20 h).2.1).1.2; rw [hbi] at this; cases this), f21, f22⟩
            intro q hA hB
            rcases hA with ⟨_, hq⟩ | ⟨e, _⟩
            · rcases hat' q hq with h | h
              · exact h1 q (hdr q h) hB
              · rcases hB with ⟨e, hq⟩ | ⟨e, e', hq⟩
                · have := ((f17 e).2.lt q (by simpa [FB] using hq)).2; omega
                · have := ((f10 e' e).lt q (by simpa [FB] using hq)).2; omega
            · cases e
          · obtain rfl := Option.some.inj ho
            have hbi : b10 = false := by simpa using ready_off rfl hi
            have hb' : Below w.heap.size w (w.alloc (.cells #[] 5)) := (Below.refl _ _).alloc (Nat.le_refl _) _
            go_simp
            refine ⟨b0, b1, b2, b3, b4, b5, b6, b7, b8, b9, true, b11, b12, b13, b14, b15, b16, b17, b18, b19, b20, b21, b22, x24, x25, x26, x27, x28, x29, x30, x31, x32, x33, _, x35, x36, x37, x38, x39, x40, x41, x42, x43, x44, x45, rfl, rfl, h0.trans (Frm.ofBelow hb' _), ?_, h2.all hb', (fun e => OwAttrs.frm (h3 e) (Frm.ofBelow hb' []) (fun _ _ => by simp)), f0, f1, (fun h e => (f2 h e).keep hb'), f3, f4, f5, f6, f7, f8, (fun h => ⟨(f9 h).1, (f9 h).2.keep hb'⟩), (fun _ _ => (own_none w).mono h0.size), f11, f12, f13, f14, f15, f16, (fun h => ⟨⟨rfl, (f17 h).1.2⟩, (f17 h).2.keep hb'⟩), f18, (fun h => by obtain ⟨z0, z, q1, q2, q3⟩ := f19 h; exact ⟨z0, z, q1, q2, q3.all hb'⟩), (fun h => by obtain ⟨z0, z1, g9, cap9, F9, q1, q2, q3, q4⟩ := f20 h; exact ⟨z0, z1, g9, cap9, F9, q1, OwAttrs.frm q2 (Frm.ofBelow hb' []) (fun _ _ => by simp), q3, fun q hq => ⟨(q4 q hq).1, Nat.lt_of_lt_of_le (q4 q hq).2 hb'.size⟩⟩), f21, f22⟩
            intro q hA hB
            rcases hB with ⟨e, hq⟩ | ⟨_, _, hq⟩
            · have := (f17 e).1.1; rw [hbi] at this; cases this
            · have hz : q = w.heap.size := by simpa [FB, Value.ownBlock] using hq
              rcases hA with ⟨e, hq⟩ | ⟨e, e', hq⟩
              · have := ((f9 e).2.lt q (by simpa [FB] using hq)).2; omega
              · have := ((f2 e' e).lt q (by simpa [FB] using hq)).2; omega
          · obtain rfl := Option.some.inj ho
            go_simp
            exact ⟨b0, b1, b2, b3, b4, b5, b6, b7, b8, b9, b10, true, b12, b13, b14, b15, b16, b17, b18, b19, b20, b21, b22, x24, x25, x26, x27, x28, x29, x30, x31, x32, x33, x34, _, x36, x37, x38, x39, x40, x41, x42, x43, x44, x45, rfl, rfl, h0, h1, h2, h3, f0, f1, f2, f3, f4, f5, f6, f7, f8, f9, f10, (fun _ => rfl), f12, f13, f14, f15, f16, f17, f18, f19, f20, f21, f22⟩
          · have g11 := ready_pred hi ho 11
            obtain rfl := Option.some.inj ho
            have e11 := f11 (g11 (by kernel_rfl))
            subst e11
            have c0 : w.cell? ⟨w0.heap.size, 3, none⟩ = some (.slice (some ⟨pb, poff, none⟩) t.attrs.length cd) := (lb.frm h0 hbS).cell 3
            go_simp
            exact ⟨b0, b1, b2, b3, b4, b5, b6, b7, b8, b9, b10, b11, true, b13, b14, b15, b16, b17, b18, b19, b20, b21, b22, x24, x25, x26, x27, x28, x29, x30, x31, x32, x33, x34, _, _, x37, x38, x39, x40, x41, x42, x43, x44, x45, rfl, rfl, h0, h1, h2, h3, f0, f1, f2, f3, f4, f5, f6, f7, f8, f9, f10, f11, (fun _ => rfl), f13, f14, f15, f16, f17, f18, f19, f20, f21, f22⟩
          · obtain rfl := Option.some.inj ho
            go_simp
            exact ⟨b0, b1, b2, b3, b4, b5, b6, b7, b8, b9, b10, b11, b12, true, b14, b15, b16, b17, b18, b19, b20, b21, b22, x24, x25, x26, x27, x28, x29, x30, x31, x32, x33, x34, x35, x36, _, x38, x39, x40, x41, x42, x43, x44, x45, rfl, rfl, h0, h1, h2, h3, f0, f1, f2, f3, f4, f5, f6, f7, f8, f9, f10, f11, f12, (fun _ => rfl), f14, f15, f16, f17, f18, f19, f20, f21, f22⟩
          · have g12 := ready_pred hi ho 12
            have g13 := ready_pred hi ho 13
            obtain rfl := Option.some.inj ho
            have e12 := f12 (g12 (by kernel_rfl))
            subst e12
            have e13 := f13 (g13 (by kernel_rfl))
            subst e13
            go_simp
            exact ⟨b0, b1, b2, b3, b4, b5, b6, b7, b8, b9, b10, b11, b12, b13, true, b15, b16, b17, b18, b19, b20, b21, b22, x24, x25, x26, x27, x28, x29, x30, x31, x32, x33, x34, x35, _, _, _, x39, x40, x41, x42, x43, x44, x45, rfl, rfl, h0, h1, h2, h3, f0, f1, f2, f3, f4, f5, f6, f7, f8, f9, f10, f11, f12, f13, (fun _ => rfl), f15, f16, f17, f18, f19, f20, f21, f22⟩
          · have g14 := ready_pred hi ho 14
            obtain rfl := Option.some.inj ho
            have e14 := f14 (g14 (by kernel_rfl))
            subst e14
            go_simp
            exact ⟨b0, b1, b2, b3, b4, b5, b6, b7, b8, b9, b10, b11, b12, b13, b14, true, b16, b17, b18, b19, b20, b21, b22, x24, x25, x26, x27, x28, x29, x30, x31, x32, x33, x34, x35, x36, x37, _, _, x40, x41, x42, x43, x44, x45, rfl, rfl, h0, h1, h2, h3, f0, f1, f2, f3, f4, f5, f6, f7, f8, f9, f10, f11, f12, f13, f14, (fun _ => rfl), f16, f17, f18, f19, f20, f21, f22⟩
          · have g15 := ready_pred hi ho 15
            obtain rfl := Option.some.inj ho
            have e15 := f15 (g15 (by kernel_rfl))
            subst e15
            have c0 : w.cell? ⟨pb, poff + j * 2 + 1, none⟩ = some (.slice v1 x.2.length v2) := ((hBw h0).cell (p := ⟨pb, poff + j * 2 + 1, none⟩) hpl).trans u1
            go_simp
            exact ⟨b0, b1, b2, b3, b4, b5, b6, b7, b8, b9, b10, b11, b12, b13, b14, b15, true, b17, b18, b19, b20, b21, b22, x24, x25, x26, x27, x28, x29, x30, x31, x32, x33, x34, x35, x36, x37, x38, _, _, x41, x42, x43, x44, x45, rfl, rfl, h0, h1, h2, h3, f0, f1, f2, f3, f4, f5, f6, f7, f8, f9, f10, f11, f12, f13, f14, f15, (fun _ => rfl), f17, f18, f19, f20, f21, f22⟩
          · have gs := ready_pred hi ho 16
            have gr := ready_pred hi ho 10
            have g9' := ready_pred hi ho 9
            obtain rfl := Option.some.inj ho
            have es := f16 (gs (by kernel_rfl))
            have er : b10 = true := gr (by kernel_rfl)
            have e9 : b9 = true := g9' (by kernel_rfl)
            subst es er
            have hbi : b17 = false := by simpa using ready_off rfl hi
            have hown := f10 rfl hbi
            have hdr : ∀ q ∈ FB x34, ((b17 = true ∧ q ∈ FB x41) ∨ (b17 = false ∧ true = true ∧ q ∈ FB x34)) := fun q hq => .inr ⟨hbi, rfl, hq⟩
            refine step_appAt (by rfl) (.tmp 34) (.tmp 40) (by rfl) wr.heap.size x34 [] (by rfl) hown (.slice v1 x.2.length v2) x.2 (by rfl) (hy1.keep (hBw h0)) (by simp; omega) h0.size ?_
            intro v' w' ho' hg hat
            rw [List.nil_append] at ho'
            have hF := Frm.ofGrown hg
            have hFS : Frm wr w' (FB (.slice va vn vc) ++ [po]) := h0.more hF (fun q hq => .inr (hown.lt q (by simpa using hq)).1)
            have hkp : ∀ {u : Value} {m : List Int}, Own w wr.heap.size u m → (∀ q ∈ FB u, q ∉ FB x34) → Own w' wr.heap.size u m := fun hu hd => hu.frm hF (fun q hq hq' => hd q hq hq')
            have hlk := h2.frm hF (fun hq => own_notN hown h2 (by simpa using hq))
            have hat' : ∀ q ∈ FB v', q ∈ FB x34 ∨ q = w.heap.size := fun q hq => by
              have hq' : v'.ownBlock = some q := by simpa [FB] using hq
              rcases hat with h | h
              · exact .inl (by rw [h] at hq'; simpa [FB] using hq')
              · rw [h] at hq'; exact .inr (Option.some.inj hq').symm
            refine ⟨b0, b1, b2, b3, b4, b5, b6, b7, b8, b9, true, b11, b12, b13, b14, b15, b16, true, b18, b19, b20, b21, b22, x24, x25, x26, x27, x28, x29, x30, x31, x32, x33, x34, x35, x36, x37, x38, x39, _, _, x42, x43, x44, x45, rfl, rfl, hFS, ?_, hlk, (fun e => OwAttrs.frm (h3 e) hF (fun q hq hq' => by have := hFlt q hq; have := (hown.lt q (by simpa using hq')).1; omega)), f0, f1, (fun h e => hkp (f2 h e) (fun q hq hq' => h1 q (.inr ⟨e, h, hq⟩) (hdr q hq'))), f3, f4, f5, f6, f7, f8, (fun h => ⟨(f9 h).1, hkp (f9 h).2 (fun q hq hq' => h1 q (.inl ⟨h, hq⟩) (hdr q hq'))⟩), (fun _ e => by cases e), f11, f12, f13, f14, f15, f16, (fun _ => ⟨⟨rfl, e9⟩, ho'⟩), (fun h => by have := (f18 h).2.1; rw [hbi] at this; cases this), (fun h => by have := (f18 (f19 h).1).2.1; rw [hbi] at this; cases this), (fun h => by have := (f20 h).2.1; rw [hbi] at this; cases this), f21, f22⟩
            intro q hA hB
            rcases hB with ⟨_, hq⟩ | ⟨e, _⟩
            · rcases hat' q hq with h | h
              · exact h1 q hA (hdr q h)
              · rcases hA with ⟨e, hq⟩ | ⟨e, e', hq⟩
                · have := ((f9 e).2.lt q (by simpa [FB] using hq)).2; omega
                · have := ((f2 e' e).lt q (by simpa [FB] using hq)).2; omega
            · cases e
          · have g9 := ready_pred hi ho 9
            have g17 := ready_pred hi ho 17
            obtain rfl := Option.some.inj ho
            have e9 : b9 = true := g9 (by kernel_rfl)
            have e17 : b17 = true := g17 (by kernel_rfl)
            subst e9 e17
            have e2 := (f9 rfl).1
            have e10 := (f17 rfl).1.1
            subst e2 e10
            obtain ⟨p4, k4', hv4, _, _⟩ := (f9 rfl).2.byt.shape
            obtain ⟨p5, k5', hv5, _, _⟩ := (f17 rfl).2.byt.shape
            subst hv4 hv5
            have hbi : b18 = false := by simpa using ready_off rfl hi
            go_simp
            exact ⟨b0, b1, true, b3, b4, b5, b6, b7, b8, true, true, b11, b12, b13, b14, b15, b16, true, true, b19, b20, b21, b22, x24, x25, x26, x27, x28, x29, x30, x31, x32, _, x34, x35, x36, x37, x38, x39, x40, _, _, x43, x44, x45, rfl, rfl, h0, h1, h2, h3, f0, f1, f2, f3, f4, f5, f6, f7, f8, f9, f10, f11, f12, f13, f14, f15, f16, f17, (fun _ => ⟨rfl, rfl, rfl⟩), (fun h => by have := (f19 h).1; rw [hbi] at this; cases this), f20, f21, f22⟩
          · have g18 := ready_pred hi ho 18
            obtain rfl := Option.some.inj ho
            have e18 : b18 = true := g18 (by kernel_rfl)
            obtain ⟨e9, e17, e43⟩ := f18 e18
            subst e9 e17 e18 e43
            have e2 := (f9 rfl).1
            have e10 := (f17 rfl).1.1
            subst e2 e10
            obtain ⟨p4, k4', hv4, _, _⟩ := (f9 rfl).2.byt.shape
            obtain ⟨p5, k5', hv5, _, _⟩ := (f17 rfl).2.byt.shape
            subst hv4 hv5
            have hb' : Below w.heap.size w (w.alloc (.cells #[.slice p4 x.1.length k4', .slice p5 x.2.length k5'] 85)) := (Below.refl _ _).alloc (Nat.le_refl _) _
            go_simp
            exact ⟨b0, b1, true, b3, b4, b5, b6, b7, b8, true, true, b11, b12, b13, b14, b15, b16, true, true, true, b20, b21, b22, x24, x25, x26, x27, x28, x29, x30, x31, x32, _, x34, x35, x36, x37, x38, x39, x40, _, _, _, x44, x45, rfl, rfl, h0.trans (Frm.ofBelow hb' _), h1, h2.all hb', (fun e => OwAttrs.frm (h3 e) (Frm.ofBelow hb' []) (fun _ _ => by simp)), f0, f1, (fun _ e => by cases e), f3, f4, f5, f6, f7, f8, (fun _ => ⟨rfl, (f9 rfl).2.keep hb'⟩), (fun _ e => by cases e), f11, f12, f13, f14, f15, f16, (fun _ => ⟨⟨rfl, rfl⟩, (f17 rfl).2.keep hb'⟩), (fun _ => ⟨rfl, rfl, rfl⟩), (fun _ => ⟨rfl, w.heap.size, h0.size, rfl, Loc.made w _ _⟩), (fun h => by obtain ⟨z0, z1, g9, cap9, F9, q1, q2, q3, q4⟩ := f20 h; exact ⟨z0, z1, g9, cap9, F9, q1, OwAttrs.frm q2 (Frm.ofBelow hb' []) (fun _ _ => by simp), q3, fun q hq => ⟨(q4 q hq).1, Nat.lt_of_lt_of_le (q4 q hq).2 hb'.size⟩⟩), f21, f22⟩
          · have g1 := ready_pred hi ho 1
            have g17 := ready_pred hi ho 17
            have g19 := ready_pred hi ho 19
            obtain rfl := Option.some.inj ho
            have e1 : b1 = true := g1 (by kernel_rfl)
            have e17 : b17 = true := g17 (by kernel_rfl)
            have e19 : b19 = true := g19 (by kernel_rfl)
            have e26 := f1 e1
            obtain ⟨e18, z, z1, z2, z3⟩ := f19 e19
            obtain ⟨e9, _, _⟩ := f18 e18
            have hb20 : b20 = false := by simpa using ready_off rfl hi
            have hb22 : b22 = false := by
              cases b22 with
              | false => rfl
              | true => have := f22 rfl; rw [hb20] at this; cases this
            subst e1 e9 e17 e18 e19 e26 z2 hb22
            have o1 := (f9 rfl).2
            have o2 := (f17 rfl).2
            have r1 := o1.mono (Nat.zero_le _)
            have r2 := o2.mono (Nat.zero_le _)
            have hat := h3 hb20
            have hndx : (FB x33 ++ FB x41).Nodup := List.nodup_append.2 ⟨FB_nodup _, FB_nodup _, fun a ha b hb e => h1 a (.inl ⟨rfl, ha⟩) (.inl ⟨rfl, e ▸ hb⟩)⟩
            have hge : ∀ q ∈ FB x33 ++ FB x41, wr.heap.size ≤ q ∧ q < w.heap.size := fun q hq => by
              rcases List.mem_append.1 hq with h | h
              · exact o1.lt q (by simpa [FB] using h)
              · exact o2.lt q (by simpa [FB] using h)
            have hszw := h0.size
            refine step_push (R := OwAttr) (fun h f d => OwAttr.frm h f d) (by rfl) (.tmp 25) (.tmp 43) 27 (by rfl) 85 i0 (.agg #[.slice none 0 0, .slice none 0 0]) 2 48 Tryz.underlying27 hi0 hz0 hz1 hz2 rfl (by decide) _ (t.attrs.take j) Fa (by rfl) hat hNd ⟨z, 0, none⟩ 1 [x33, x41] x (FB x33 ++ FB x41) (by rfl) rfl (fun i u hu => World.news_of_block z3 i u (by simpa using hu)) (by intro y hy; obtain ⟨p4, k4', hv4, _, _⟩ := o1.byt.shape; obtain ⟨p5, k5', hv5, _, _⟩ := o2.byt.shape; simp at hy; rcases hy with rfl | rfl; (rw [hv4]; rfl); (rw [hv5]; rfl)) ⟨x33, x41, rfl, r1, r2, rfl⟩ hndx (fun g hg hg' => by have := hFlt g hg; have := (hge g hg').1; omega) (fun q hq => by rcases hq with hq | hq; (have := hFlt q hq; omega); (exact (hge q hq).2)) (by rw [List.length_take]; unfold maxLen; omega) (by rw [List.length_take]; omega) ?_
            intro g9 cap9 w' F9 hF9 hN9 hM9 hf9 hg9
            have hjl9 : (t.attrs.take j).length + 1 = j + 1 := by rw [List.length_take]; omega
            rw [hjl9] at hF9 ⊢
            have hpv : po ∉ FB (.slice va vn vc) := fun h => (hO.rng po (by simp only [List.mem_append]; exact .inl (.inr (hvF po h)))).2.2 rfl
            have hdv : ∀ q, wr.heap.size ≤ q → q ∉ FB (.slice va vn vc) := fun q hq h => by have := hFlt q (hvF q h); omega
            have hkw : ∀ q ∈ F9, (q ∈ Fa ∨ wr.heap.size ≤ q) ∧ q < w'.heap.size := fun q hq => by
              refine ⟨?_, OwAttrs.lt hF9 q hq⟩
              rcases hM9 q hq with h | h | h
              · exact .inl h
              · exact .inr (hge q h).1
              · right; omega
            exact ⟨b0, true, b2, b3, b4, b5, b6, b7, b8, true, b10, b11, b12, b13, b14, b15, b16, true, true, true, true, b21, false, x24, _, x26, x27, x28, x29, x30, x31, x32, x33, x34, x35, x36, x37, x38, x39, x40, x41, x42, _, _, x45, rfl, rfl, h0.more hf9 (fun q hq => .inl (List.mem_append_left _ hq)), h1, h2.frm hf9 hpv, (fun e => by cases e), f0, f1, (fun _ e => by cases e), f3, f4, f5, f6, f7, f8, (fun _ => ⟨(f9 rfl).1, o1.frm hf9 (fun q hq => hdv q (o1.lt q (by simpa [FB] using hq)).1)⟩), (fun _ e => by cases e), f11, f12, f13, f14, f15, f16, (fun _ => ⟨(f17 rfl).1, o2.frm hf9 (fun q hq => hdv q (o2.lt q (by simpa [FB] using hq)).1)⟩), (fun _ => ⟨rfl, rfl, (f18 rfl).2.2⟩), (fun _ => ⟨rfl, z, z1, rfl, z3.frm hf9 (hdv z z1)⟩), (fun _ => ⟨rfl, rfl, g9, cap9, F9, rfl, hF9, hN9, hkw⟩), f21, (fun _ => rfl)⟩
          · obtain rfl := Option.some.inj ho
            go_simp
            exact ⟨b0, b1, b2, b3, b4, b5, b6, b7, b8, b9, b10, b11, b12, b13, b14, b15, b16, b17, b18, b19, b20, true, b22, x24, x25, x26, x27, x28, x29, x30, x31, x32, x33, x34, x35, x36, x37, x38, x39, x40, x41, x42, x43, x44, _, rfl, rfl, h0, h1, h2, h3, f0, f1, f2, f3, f4, f5, f6, f7, f8, f9, f10, f11, f12, f13, f14, f15, f16, f17, f18, f19, f20, (fun _ => rfl), f22⟩
          · have g21 := ready_pred hi ho 21
            have g20 := ready_pred hi ho 20
            obtain rfl := Option.some.inj ho
            have e20 : b20 = true := g20 (by kernel_rfl)
            have e46 := f21 (g21 (by kernel_rfl))
            have hb22 : b22 = false := by simpa using ready_off rfl hi
            subst e20 e46 hb22
            obtain ⟨e1, e17, g9, cap9, F9, q1, q2, q3, q4⟩ := f20 rfl
            subst e1 e17 q1
            have e26 := f1 rfl
            subst e26
            have e9 := (f17 rfl).1.2
            subst e9
            have e2 := (f9 rfl).1
            have e10 := (f17 rfl).1.1
            subst e2 e10
            replace h2 : Loc w po #[.int .i64 t.kind, .slice p2 t.name.length k2', .slice p3 t.text.length k3', .slice va vn vc, .slice none 0 0] 30 := h2
            have c0 : w.cell? ⟨po, 3, none⟩ = some (.slice va vn vc) := h2.cell 3
            have z0 := h2.frozen 3
            have fs := Frm.set w po 3 (.slice (some ⟨g9, 0, none⟩) (j + 1) cap9)
            have o1 := (f9 rfl).2.frm fs (fun q hq hq' => own_notN (f9 rfl).2 h2 (by have e : q = po := (by simpa using hq'); rw [← e]; simpa [FB] using hq))
            have o2 := (f17 rfl).2.frm fs (fun q hq hq' => own_notN (f17 rfl).2 h2 (by have e : q = po := (by simpa using hq'); rw [← e]; simpa [FB] using hq))
            have q2' := OwAttrs.frm q2 fs (fun q hq hq' => attrs_notN q2 h2 (by have e : q = po := (by simpa using hq'); rw [← e]; exact hq))
            have h2' := h2.set 3 (.slice (some ⟨g9, 0, none⟩) (j + 1) cap9)
            have k19 : b19 = true → b18 = true ∧ ∃ z, wr.heap.size ≤ z ∧ x43 = .slice (some ⟨z, 0, none⟩) 1 1 ∧ Loc (w.setCell ⟨po, 3, none⟩ (.slice (some ⟨g9, 0, none⟩) (j + 1) cap9)) z #[x33, x41] 85 := fun h => by
              obtain ⟨a1, z, a2, a3, a4⟩ := f19 h
              refine ⟨a1, z, a2, a3, a4.other po 3 _ (fun e => ?_)⟩
              subst e
              unfold Loc at a4 h2
              rw [a4] at h2
              injection h2 with h2
              injection h2 with _ h2
              revert h2
              decide
            go_simp
            exact ⟨b0, true, true, b3, b4, b5, b6, b7, b8, true, true, b11, b12, b13, b14, b15, b16, true, b18, b19, true, b21, true, x24, _, x26, x27, x28, x29, x30, x31, x32, x33, x34, x35, x36, x37, x38, x39, x40, x41, x42, x43, _, _, rfl, rfl, h0.trans (fs.mono (fun q hq => List.mem_append_right _ hq)), h1, h2', (fun e => by cases e), f0, f1, (fun _ e => by cases e), f3, f4, f5, f6, f7, f8, (fun _ => ⟨rfl, o1⟩), (fun _ e => by cases e), f11, f12, f13, f14, f15, f16, (fun _ => ⟨⟨rfl, rfl⟩, o2⟩), (fun h => ⟨rfl, rfl, (f18 h).2.2⟩), k19, (fun _ => ⟨rfl, rfl, g9, cap9, F9, rfl, q2', q3, fun q hq => ⟨(q4 q hq).1, Nat.lt_of_lt_of_le (q4 q hq).2 fs.size⟩⟩), f21, (fun _ => rfl)⟩
-- Cs5step>>
        case dn5 =>
          intro L a w3 hI hre
          have hall := ready_all (L := L) (by obtain ⟨b0, b1, b2, b3, b4, b5, b6, b7, b8, b9, b10, b11, b12, b13, b14, b15, b16, b17, b18, b19, b20, b21, b22, x24, x25, x26, x27, x28, x29, x30, x31, x32, x33, x34, x35, x36, x37, x38, x39, x40, x41, x42, x43, x44, x45, rfl, _⟩ := hI; rfl) (by kernel_rfl) hre 23
          obtain ⟨b0, b1, b2, b3, b4, b5, b6, b7, b8, b9, b10, b11, b12, b13, b14, b15, b16, b17, b18, b19, b20, b21, b22, x24, x25, x26, x27, x28, x29, x30, x31, x32, x33, x34, x35, x36, x37, x38, x39, x40, x41, x42, x43, x44, x45, rfl, rfl, h0, h1, h2, h3, f0, f1, f2, f3, f4, f5, f6, f7, f8, f9, f10, f11, f12, f13, f14, f15, f16, f17, f18, f19, f20, f21, f22⟩ := hI
          have s19 : b20 = true := hall 20 (by omega) (by decide)
          have s21 : b22 = true := hall 22 (by omega) (by decide)
          subst s19 s21
          obtain ⟨_, _, g9, cap9, F9, q1, q2, q3, q4⟩ := f20 rfl
          subst q1
          replace h2 : Loc w3 po #[.int .i64 t.kind, .slice p2 t.name.length k2', .slice p3 t.text.length k3', .slice (some ⟨g9, 0, none⟩) (j + 1) cap9, .slice none 0 0] 30 := h2
          have hO3 := hO.setAttrs h0 (fun q hq hq' => by
            rcases List.mem_append.1 hq' with h | h
            · obtain ⟨n1, n2, n3⟩ := List.nodup_append.1 hO.nodup
              obtain ⟨n4, n5, n6⟩ := List.nodup_append.1 n1
              rcases List.mem_append.1 hq with hq | hq
              · exact n6 q hq q (hvF q h) rfl
              · cases hq
            · have e : q = po := by simpa using h
              rcases List.mem_append.1 hq with hq | hq
              · exact (hO.rng q (by simp only [List.mem_append] at hq ⊢; exact .inl (.inl hq))).2.2 e
              · cases hq) h2 q2 q3 q4 hlo
          rw [← unhide HTK] at hO3
          have hB3 := hBw h0
          have lb3 := lb.frm h0 hbS
          have lr3 := lr.frm h0 (fun h => by
            rcases List.mem_append.1 h with h | h
            · have := (hO.rng _ (by simp only [List.mem_append]; exact .inl (.inr (hvF _ h)))).1; omega
            · have e : w0.heap.size + 1 = po := by simpa using h
              omega)
          have hlo3 := Nat.le_trans hlo h0.size
          have HO3 := hide hO3
          clear hall f0 f1 f2 f3 f4 f5 f6 f7 f8 f9 f10 f11 f12 f13 f14 f15 f16 f17 f18 f19 f20 f21 f22 h0 h1 h2 h3 q2 q3 q4 hO hO3 hre
          go_wp2_with fail
          go_roundw
          case rel => exact ⟨j + 1, by omega, by go_num, _, _, _, F9, unhide HO3, hB3, lb3, lr3, hlo3⟩
          case measure => simp [intOf]; omega
      · have hje : t.attrs.take j = t.attrs := List.take_of_length_le (by omega)
        rw [hje] at hO
        have hjn : ¬ (j : Int) < (t.attrs.length : Int) := by omega
        obtain ⟨i0, hi0, hz0, hz1, hz2⟩ := info_parts Tryz.info30
        clear hje hd HAX
        go_wp2_with fail
        go_loopw [5] (fun i wr => ∃ j : Nat, j ≤ t.kids.length ∧ i = .int .i64 j ∧ ∃ ka km kc Fk, OutAt n w1.heap.size wr po t.kind (.slice p2 t.name.length k2') (.slice p3 t.text.length k3') (.slice va vn vc) (.slice ka km kc) t.name t.text t.attrs (t.kids.take j) Fa Fk ∧ Below w0.heap.size w0 wr ∧ Loc wr w0.heap.size #[.int .i64 t.kind, .slice ab t.name.length cb, .slice ac t.text.length cc, .slice ad t.attrs.length cd, .slice ae t.kids.length ce] 30 ∧ Loc wr (w0.heap.size + 1) #[.int .i64 0, .slice none 0 0, .slice none 0 0, .slice none 0 0, .slice none 0 0] 30 ∧ w1.heap.size ≤ wr.heap.size) (fun i _ => t.kids.length - (intOf i).toNat)
        case atStart => exact ⟨0, Nat.zero_le _, rfl, none, 0, 0, [], hO, hBr, lb, lr, hlo⟩
        case round =>
          clear hO hBr lb lr hlo c3 hjn
          obtain ⟨j, hj, rfl, ka, km, kc, Fk, hO, hBr, lb, lr, hlo⟩ := hrel
          have hndk : Fk.Nodup := (List.nodup_append.1 hO.nodup).2.1
          have hFlt : ∀ q ∈ Fk, q < wr.heap.size := fun q hq => (hO.rng q (List.mem_append_right _ hq)).2.1
          have hFlo : ∀ q ∈ Fk, w1.heap.size ≤ q := fun q hq => (hO.rng q (List.mem_append_right _ hq)).1
          have hpF : po ∉ Fk := fun h => (hO.rng po (List.mem_append_right _ h)).2.2 rfl
          have hdF : ∀ q ∈ FB (.slice p2 t.name.length k2') ++ FB (.slice p3 t.text.length k3') ++ Fa, q ∉ Fk := fun q hq hq' => (List.nodup_append.1 hO.nodup).2.2 q hq q hq' rfl
          have hkvF : ∀ q ∈ FB (.slice ka km kc), q ∈ Fk := fun q hq => by
            obtain ⟨_, _, _, _, _, _, rfl⟩ := hO.kids
            exact List.mem_append_left _ hq
          have hbF : w0.heap.size ∉ Fk := fun h => by have := hFlo _ h; omega
          have hrF : w0.heap.size + 1 ∉ Fk := fun h => by have := hFlo _ h; omega
          have hpo := hO.loc.lt
          have c4 : wr.cell? ⟨w0.heap.size, 4, none⟩ = some (.slice ae t.kids.length ce) := lb.cell 4
          by_cases hjl : j < t.kids.length
          · obtain ⟨pb, poff, hpa, hpl, hun, _, hC⟩ := he.at hjl
            clear hun
            subst hpa
            obtain ⟨kid, hkid⟩ : ∃ kid, kid = t.kids[j] := ⟨_, rfl⟩
            have hmem : kid ∈ t.kids := by rw [hkid]; exact List.getElem_mem hjl
            have HTK := hide (show t.kids.take (j + 1) = t.kids.take j ++ [kid] by rw [List.take_succ_eq_append_getElem hjl, ← hkid])
            have hlj : (t.kids.take j).length = j := by rw [List.length_take]; omega
            obtain ⟨d0, d1, d2, d3, d4, e0, e1, e2, e3, e4, hx⟩ := five_of hC
            rw [← hkid] at hx
            replace e0 := (hBr.cell (p := ⟨pb, poff + j * 5, none⟩) hpl).trans e0
            replace e1 := (hBr.cell (p := ⟨pb, poff + j * 5 + 1, none⟩) hpl).trans e1
            replace e2 := (hBr.cell (p := ⟨pb, poff + j * 5 + 2, none⟩) hpl).trans e2
            replace e3 := (hBr.cell (p := ⟨pb, poff + j * 5 + 3, none⟩) hpl).trans e3
            replace e4 := (hBr.cell (p := ⟨pb, poff + j * 5 + 4, none⟩) hpl).trans e4
            obtain ⟨_, _, _, _, ee, kk1, kk2, hkb, hkc, hkd, hke⟩ := id hx
            simp only [List.cons.injEq, and_true] at ee
            obtain ⟨rfl, rfl, rfl, rfl, rfl⟩ := ee
            obtain ⟨ab', cb', rfl, _, _⟩ := hkb.shape
            obtain ⟨ac', cc', rfl, _, _⟩ := hkc.shape
            obtain ⟨ad', cd', rfl, _, _⟩ := Elems.shape hkd
            obtain ⟨ae', ce', rfl, _, _⟩ := Elems.shape hke
            have hksz : szT (n + 1) kid ≤ 2097152 := by
              have h1 : szT (n + 1) kid ≤ (t.kids.map (szT (n + 1))).sum := sum_mem (List.mem_map.2 ⟨kid, hmem, rfl⟩)
              have h2 := unhide HSZ
              omega
            have hjl' : (j : Int) < (t.kids.length : Int) := by omega
            have hj0 : (0 : Int) ≤ (j : Int) := by omega
            have HX := hide hx
            have HK := hide (H kid hmem)
            have HS6 := hide hksz
            clear hC hx hmem hkid he H hkb hkc hkd hke
            have c4 : wr.cell? ⟨w0.heap.size, 4, none⟩ = some (.slice (some ⟨pb, poff, none⟩) t.kids.length ce) := c4
            go_wp2_with fail
            have hdr : Below wr.heap.size wr wr.drew := (Below.refl _ _).drew
            have hOd := hO.keep hdr
            have hBd := hBr.drew
            have c4d : wr.drew.cell? ⟨po, 4, none⟩ = some (.slice ka km kc) := hOd.loc.cell 4
            have b4d : wr.drew.cell? ⟨w0.heap.size, 4, none⟩ = some (.slice (some ⟨pb, poff, none⟩) t.kids.length ce) := c4
            have k0 : wr.drew.cell? ⟨pb, poff + j * 5, none⟩ = some (.int .i64 kid.kind) := e0
            have k1' : wr.drew.cell? ⟨pb, poff + j * 5 + 1, none⟩ = some (.slice ab' kid.name.length cb') := e1
            have k2q : wr.drew.cell? ⟨pb, poff + j * 5 + 2, none⟩ = some (.slice ac' kid.text.length cc') := e2
            have k3q : wr.drew.cell? ⟨pb, poff + j * 5 + 3, none⟩ = some (.slice ad' kid.attrs.length cd') := e3
            have k4 : wr.drew.cell? ⟨pb, poff + j * 5 + 4, none⟩ = some (.slice ae' kid.kids.length ce') := e4
            have he2 : ∀ args w, (callFunc 15 args).run Tryz.prog w = .ok (.enter 15 args) w := enters_of Tryz.func15 (by kernel_rfl) rfl
            clear e0 e1 e2 e3 e4 c4
            go_region_law
              (first
                | (refine step_call (by rfl) 15 [.tmp 59] #[30] (by rfl) he2 [.agg #[.int .i64 kid.kind, .slice ab' kid.name.length cb', .slice ac' kid.text.length cc', .slice ad' kid.attrs.length cd', .slice ae' kid.kids.length ce']] (by rfl) (unhide HK wr.drew _ _ _ _ _ ((unhide HX).keep hBd) (unhide HS6)) ?_; clear HK; rintro e w7 ⟨kd, a1, n1, c1, a2, n2, c2, a3, n3, c3, a4, n4, cz, rfl, G, hG, ndG, rG, hB7⟩; have c47 : w7.cell? ⟨po, 4, none⟩ = some (.slice ka km kc) := (hOd.loc.all hB7).cell 4; have hb8 : Below w7.heap.size w7 (w7.alloc (.cells #[.int .i64 kd, .slice a1 n1 c1, .slice a2 n2 c2, .slice a3 n3 c3, .slice a4 n4 cz] 30)) := (Below.refl _ _).alloc (Nat.le_refl _) _; have c48 : (w7.alloc (.cells #[.int .i64 kd, .slice a1 n1 c1, .slice a2 n2 c2, .slice a3 n3 c3, .slice a4 n4 cz] 30)).cell? ⟨po, 4, none⟩ = some (.slice ka km kc) := ((hOd.loc.all hB7).all hb8).cell 4; refine ⟨_, rfl, ?_⟩)
                | (refine step_push (R := OwNode (n + 1)) (fun h f d => OwNode.frm h f d) (by rfl) (.tmp 54) (.tmp 61) 28 (by rfl) 30 i0 (.agg #[.int .i64 0, .slice none 0 0, .slice none 0 0, .slice none 0 0, .slice none 0 0]) 5 104 Tryz.underlying28 hi0 hz0 hz1 hz2 rfl (by decide) _ (t.kids.take j) Fk (by rfl) (((hOd.keep hB7).keep hb8).kids) hndk ⟨w7.heap.size, 0, none⟩ 1 [.int .i64 kd, .slice a1 n1 c1, .slice a2 n2 c2, .slice a3 n3 c3, .slice a4 n4 cz] kid G (by rfl) rfl (five_lies w7 _ _ _ _ _ _) (by intro y hy; simp at hy; rcases hy with rfl | rfl | rfl | rfl | rfl <;> rfl) (hG.keep hb8) ndG (fun g hg hg' => by have h1 := (hOd.rng g (List.mem_append_right _ hg)).2.1; have := (rG g hg').1; omega) (fun q hq => by have h1 := hB7.size; have h2 := hb8.size; rcases hq with hq | hq; (have := (hOd.rng q (List.mem_append_right _ hq)).2.1; omega); (have := (rG q hq).2; omega)) (by rw [hlj]; unfold maxLen; omega) (by rw [hlj]; omega) ?_; intro g9 cap9 w9 F9 hF9 hN9 hM9 hf9 hg9; generalize ((t.kids.take j).length + 1) = n9 at hF9 ⊢; have hf9' : Frm wr.drew w9 Fk := ((Frm.ofBelow (bstep hB7 hb8) Fk)).more hf9 (fun q hq => .inl (hkvF q hq)); have c49 : w9.cell? ⟨po, 4, none⟩ = some (.slice ka km kc) := (hOd.loc.frm hf9' hpF).cell 4; have z49 := (hOd.loc.frm hf9' hpF).frozen 4))
            all_goals
              have hfq : ∀ q ∈ F9, (q ∈ Fk ∨ wr.drew.heap.size ≤ q) ∧ q < w9.heap.size := fun q hq => by
                refine ⟨?_, OwElems.lt hF9 (fun C x G h => OwNode.lt h) q hq⟩
                have s7 := hB7.size
                rcases hM9 q hq with h | h | h
                · exact .inl h
                · have := (rG q h).1; right; omega
                · right; simp only [World.size_alloc] at h; omega
              have hO9 := hOd.setKids hf9' hpF hdF hF9 hN9 hfq hlo
              have hB9 : Below w0.heap.size w0 w9 := hBd.trans (hf9'.below hBd.size (fun q hq => by have := hFlo q hq; omega))
              have hBX := hB9.setCell (p := ⟨po, 4, none⟩) (by show w0.heap.size ≤ po; omega) (.slice (some ⟨g9, 0, none⟩) n9 cap9)
              have lb9 := ((lb.all hdr).frm hf9' hbF).other po 4 (.slice (some ⟨g9, 0, none⟩) n9 cap9) hpb
              have lr9 := ((lr.all hdr).frm hf9' hrF).other po 4 (.slice (some ⟨g9, 0, none⟩) n9 cap9) hpr
              have hlo9 : w1.heap.size ≤ (w9.setCell ⟨po, 4, none⟩ (.slice (some ⟨g9, 0, none⟩) n9 cap9)).heap.size := by
                have h1 := hf9'.size
                have h2 : wr.heap.size = wr.drew.heap.size := rfl
                simp only [World.size_setCell]
                omega
              have HO9 := hide (show OutAt n w1.heap.size (w9.setCell ⟨po, 4, none⟩ (.slice (some ⟨g9, 0, none⟩) n9 cap9)) po t.kind (.slice p2 t.name.length k2') (.slice p3 t.text.length k3') (.slice va vn vc) (.slice (some ⟨g9, 0, none⟩) n9 cap9) t.name t.text t.attrs (t.kids.take (j + 1)) Fa F9 by
                rw [unhide HTK]
                exact hO9)
              clear hO9 hOd hO
              go_wp2_with fail
              go_roundw
              case rel => exact ⟨j + 1, by omega, by go_num, _, _, _, F9, unhide HO9, hBX, lb9, lr9, hlo9⟩
              case measure => simp [intOf]; omega
          · have hke : t.kids.take j = t.kids := List.take_of_length_le (by omega)
            rw [hke] at hO
            have hjl' : ¬ (j : Int) < (t.kids.length : Int) := by omega
            obtain ⟨y0', y1', y2', y3', y4'⟩ := hO.loc.five
            obtain ⟨g0, g1, g2, g3, g4⟩ := lr.five
            have i0' := lr.frozen 0
            have i1' := lr.frozen 1
            have i2' := lr.frozen 2
            have i3' := lr.frozen 3
            have i4' := lr.frozen 4
            obtain ⟨lX, fX⟩ := store5 lr (.int .i64 t.kind) (.slice p2 t.name.length k2') (.slice p3 t.text.length k3') (.slice va vn vc) (.slice ka km kc)
            have hOX := hO.frm fX (by simpa using fun e => hpr e.symm) (fun q hq hq' => by
              have := (hO.rng q hq).1
              have e : q = w0.heap.size + 1 := by simpa using hq'
              omega)
            have hBX := hBr.trans (fX.below hBr.size (fun q hq => by have e : q = w0.heap.size + 1 := (by simpa using hq); omega))
            have fin := hOX.node k1 k2
            have HF := hide (And.intro fin (And.intro hOX.nodup (And.intro hOX.rng hBX)))
            clear fin hOX hBX fX hO he H
            go_wp2_with fail
            obtain ⟨fin, nd, rg, bel⟩ := unhide HF
            exact bodyPost_ret (v := .agg #[.int .i64 t.kind, .slice p2 t.name.length k2', .slice p3 t.text.length k3', .slice va vn vc, .slice ka km kc]) (by simp [results, Tryz.results15, go_sem, g0, g1, g2, g3, g4]) rfl ⟨t.kind, p2, _, k2', p3, _, k3', va, vn, vc, ka, km, kc, rfl, _, fin, nd, fun q hq => ⟨by have := (rg q hq).1; omega, (rg q hq).2.1⟩, bel⟩

theorem cs_all : ∀ (n : Nat) (t : Tr n), CsAt n t
  | 0, t => t.elim
  | 1, t => by
    intro w a b c d e hrd hsz
    have hk := no_kids (t := t)
    have hrd2 : RdNode 2 w [a, b, c, d, e] (up1 t) := by
      obtain ⟨a1, b1, c1, d1, e0, k1, k2, hb, hc, hd, he⟩ := hrd
      rw [hk] at he
      exact ⟨a1, b1, c1, d1, e0, k1, k2, hb, hc, hd, elems_nil he⟩
    have hsz2 : szT 2 (up1 t) ≤ 2097152 := by
      have h1 : szT 2 (up1 t) = t.name.length + t.text.length + szA t.attrs + (([] : List (Tr 1)).length + (([] : List (Tr 1)).map (szT 1)).sum) := rfl
      have h2 : szT 1 t = t.name.length + t.text.length + szA t.attrs + (t.kids.length + (t.kids.map (szT 0)).sum) := rfl
      rw [h1]
      simp only [List.length_nil, List.map_nil, List.sum_nil]
      omega
    refine (l2copy_core 0 (up1 t) (fun k hm => by cases hm) w a b c d e hrd2 hsz2).mono ?_
    rintro e' w' ⟨kd, a1, n1, c1, a2, n2, c2, a3, n3, c3, a4, n4, c4, rfl, F, hO, nd, rg, hB⟩
    refine ⟨kd, a1, n1, c1, a2, n2, c2, a3, n3, c3, a4, n4, c4, rfl, F, ?_, nd, rg, hB⟩
    obtain ⟨a', b', c', d', Fc, Fd, e1, k1, k2, o1, o2, o3, o4, o5⟩ := hO
    refine ⟨a', b', c', d', Fc, Fd, e1, k1, k2, o1, o2, o3, ?_, o5⟩
    show OwElems w' 30 5 d' t.kids (OwNode 0 w') Fd
    rw [hk]
    exact owElems_nil (show OwElems w' 30 5 d' ([] : List (Tr 1)) (OwNode 1 w') Fd from o4)
  | n + 2, t => l2copy_core n t (fun k hm => cs_all (n + 1) k)
end Go.Proofs.YthgopknjppflhaaGreatDoor

/- spec.l5project, spec.Project. -/
namespace Go.Proofs.YthgopknjppflhaaGreatDoor
open Go.RowKit
set_option linter.unusedVariables false
set_option maxRecDepth 100000

set_option maxHeartbeats 3200000 in
theorem l5project_any (w : World) (sb : Nat) (a : Option Addr) (c : Nat) (l : List PlV) (F : List Nat) (h : StR w sb a c l F) (hu : (l.map PlV.id).Nodup) (hl : l.length ≤ 100000) (h2 : 2 ≤ l.length) (hK : ∀ p ∈ l, -9223372036854775808 ≤ p.kind ∧ p.kind ≤ 9223372036854775807) :
    Calls Tryz.prog 16 #[.pointer (some ⟨sb, 0, none⟩)] w fun e w' => ∃ (kd : Int) (a1 : Option Addr) (n1 c1 : Nat) (a2 : Option Addr) (n2 c2 : Nat) (a3 : Option Addr) (n3 c3 : Nat) (a4 : Option Addr) (n4 c4 : Nat), e = .returned (.agg #[.int .i64 kd, .slice a1 n1 c1, .slice a2 n2 c2, .slice a3 n3 c3, .slice a4 n4 c4]) ∧ RdNode 20 w' [.int .i64 kd, .slice a1 n1 c1, .slice a2 n2 c2, .slice a3 n3 c3, .slice a4 n4 c4] (prj l 19 0 120).1 ∧ Below w.heap.size w w' := by
  refine calls_via ?_
  intro Q HQ
  have lr := (Loc.made w #[.int .i64 0, .slice none 0 0, .slice none 0 0, .slice none 0 0, .slice none 0 0] 30).alloc (.cells #[.int .i64 120] 3)
  have lb := Loc.made (w.alloc (.cells #[.int .i64 0, .slice none 0 0, .slice none 0 0, .slice none 0 0, .slice none 0 0] 30)) #[.int .i64 120] 3
  have hA : Below w.heap.size w ((w.alloc (.cells #[.int .i64 0, .slice none 0 0, .slice none 0 0, .slice none 0 0, .slice none 0 0] 30)).alloc (.cells #[.int .i64 120] 3)) := ((Below.refl _ _).alloc (Nat.le_refl _) _).alloc (by simp) _
  simp only [World.size_alloc] at lb
  have HC := hide (l5node_any 19 w _ sb a c l F 0 120 1 (w.heap.size + 1) h hA (by omega) lb hu hl hK (by omega) (by omega) (by omega) (by decide) (by omega))
  have HX := hide (And.intro lr hA)
  clear lr lb hA h hu hK
  go_enter Tryz.func16, Tryz.ntmps16
  go_wp2_with fail
  refine (unhide HC).mono ?_
  rintro e w2 ⟨kd, a1, n1, c1, a2, n2, c2, a3, n3, c3, a4, n4, c4, rfl, G, hG, -, rG, -, hf⟩
  obtain ⟨lr, hA⟩ := unhide HX
  have lr2 := lr.frm hf (by simp)
  have hA2 := hA.trans (hf.below hA.size (fun q hq => by simp at hq; omega))
  have hrd := hG.rd hA2
  obtain ⟨z0, z1, z2, z3, z4⟩ := lr2.five
  have i0_ := lr2.frozen 0
  have i1_ := lr2.frozen 1
  have i2_ := lr2.frozen 2
  have i3_ := lr2.frozen 3
  have i4_ := lr2.frozen 4
  obtain ⟨lX, fX⟩ := store5 lr2 (.int .i64 kd) (.slice a1 n1 c1) (.slice a2 n2 c2) (.slice a3 n3 c3) (.slice a4 n4 c4)
  have hGX := hG.frm fX (fun q hq => by have := (rG q hq).1; simp at this ⊢; omega)
  have hAX := hA2.trans (fX.below hA2.size (fun q hq => by simp at hq; omega))
  have HE := hide (unhide HQ _ _ ⟨kd, a1, n1, c1, a2, n2, c2, a3, n3, c3, a4, n4, c4, rfl, hGX.rd hAX, hAX⟩)
  clear lX fX hGX hAX hrd lr2 hA2 hf rG hG lr hA HX HC HQ
  go_wp2_with fail
  exact bodyPost_ret (v := .agg #[.int .i64 kd, .slice a1 n1 c1, .slice a2 n2 c2, .slice a3 n3 c3, .slice a4 n4 c4]) (by simp [results, Tryz.results16, go_sem, z0, z1, z2, z3, z4]) rfl (unhide HE)

set_option maxHeartbeats 6400000 in
theorem pjS_any (w : World) (a : Option Addr) (c : Nat) (l : List PlV) (F : List Nat) (h : OwPlsM w (.slice a l.length c) l F) (hK : ∀ p ∈ l, -9223372036854775808 ≤ p.kind ∧ p.kind ≤ 9223372036854775807) :
    Calls Tryz.prog 5 #[.agg #[.slice a l.length c]] w fun e w' => PjA w l e w' := by
  refine calls_via ?_
  intro Q HQ
  have ls := (Loc.made w #[.slice a l.length c] 35).alloc (.cells #[.int .i64 0, .slice none 0 0, .slice none 0 0, .slice none 0 0, .slice none 0 0] 30)
  have lr := Loc.made (w.alloc (.cells #[.slice a l.length c] 35)) #[.int .i64 0, .slice none 0 0, .slice none 0 0, .slice none 0 0, .slice none 0 0] 30
  have hA : Below w.heap.size w ((w.alloc (.cells #[.slice a l.length c] 35)).alloc (.cells #[.int .i64 0, .slice none 0 0, .slice none 0 0, .slice none 0 0, .slice none 0 0] 30)) := ((Below.refl _ _).alloc (Nat.le_refl _) _).alloc (by simp) _
  simp only [World.size_alloc] at lr
  have hO := OwPlsM.frm h (Frm.ofBelow hA []) (fun _ _ => by simp)
  have HC := hide (l5ok_any _ a c l F hO hK)
  have HX := hide (And.intro ls (And.intro lr (And.intro hA hO)))
  have x0 := ls.cell 0
  simp at x0
  clear ls lr hA hO h
  go_enter Tryz.func5, Tryz.ntmps5
  go_wp2_with fail
  refine (unhide HC).mono ?_
  rintro e w3 ⟨rfl, hb3⟩
  obtain ⟨ls, lr, hA, hO⟩ := unhide HX
  replace ls := ls.all hb3
  replace lr := lr.all hb3
  replace hO := OwPlsM.frm hO (Frm.ofBelow hb3 []) (fun _ _ => by simp)
  replace hA := bstep hA hb3
  clear x0 HX HC hb3
  obtain ⟨z0, z1, z2, z3, z4⟩ := lr.five
  have i0_ := lr.frozen 0
  have i1_ := lr.frozen 1
  have i2_ := lr.frozen 2
  have i3_ := lr.frozen 3
  have i4_ := lr.frozen 4
  cases hst : stB l with
  | false =>
    obtain ⟨lX, fX⟩ := store5 lr (.int .i64 0) (.slice none 0 0) (.slice none 0 0) (.slice none 0 0) (.slice none 0 0)
    have HE := hide (unhide HQ _ _ (PjA.no hst (hA.trans (fX.below hA.size (fun q hq => by simp at hq; omega)))))
    clear lX fX hst ls lr hO hA HQ
    go_wp2_with fail
    exact bodyPost_ret (v := .tuple #[.agg #[.int .i64 0, .slice none 0 0, .slice none 0 0, .slice none 0 0, .slice none 0 0], .bool false]) (by simp [results, Tryz.results5, go_sem, z0, z1, z2, z3, z4]) rfl (unhide HE)
  | true =>
    obtain ⟨hFr, hl⟩ := st_fr hst
    have h2 : 2 ≤ l.length := hFr.two
    have HP := hide (l5project_any w3 w.heap.size a c l F ⟨ls, hO⟩ hFr.uniq (by omega) h2 hK)
    have HY := hide (And.intro lr (And.intro hA hst))
    clear ls lr hO hA hFr hst hl
    go_wp2_with fail
    refine (unhide HP).mono ?_
    rintro e w4 ⟨kd, a1, n1, c1, a2, n2, c2, a3, n3, c3, a4, n4, c4, rfl, hrd, hb4⟩
    obtain ⟨lr, hA, hst⟩ := unhide HY
    have hsz := pjR_sz l
    rw [pjR_yes hst] at hsz
    have HC := hide (cs_all 20 (prj l 19 0 120).1 w4 _ _ _ _ _ hrd (by omega))
    have HY := hide (And.intro (lr.all hb4) (And.intro (bstep hA hb4) hst))
    clear lr hA hst hrd hsz HP z0 z1 z2 z3 z4 i0_ i1_ i2_ i3_ i4_ hb4
    go_wp2_with fail
    refine (unhide HC).mono ?_
    rintro e w5 ⟨kd', b1, m1, d1, b2, m2, d2, b3, m3, d3, b4, m4, d4, rfl, G, hG, ndG, rG, hb5⟩
    obtain ⟨lr, hA, hst⟩ := unhide HY
    have lr5 := lr.all hb5
    have hA5 := bstep hA hb5
    have s3 := hA.size
    obtain ⟨z0, z1, z2, z3, z4⟩ := lr5.five
    have i0_ := lr5.frozen 0
    have i1_ := lr5.frozen 1
    have i2_ := lr5.frozen 2
    have i3_ := lr5.frozen 3
    have i4_ := lr5.frozen 4
    have hlr := lr.lt
    obtain ⟨lX, fX⟩ := store5 lr5 (.int .i64 kd') (.slice b1 m1 d1) (.slice b2 m2 d2) (.slice b3 m3 d3) (.slice b4 m4 d4)
    have hGX := OwNode.frm hG fX (fun q hq => by have := (rG q hq).1; simp; omega)
    have hAX := hA5.trans (fX.below hA5.size (fun q hq => by simp at hq; omega))
    have HE := hide (unhide HQ (.returned (.tuple #[.agg #[.int .i64 kd', .slice b1 m1 d1, .slice b2 m2 d2, .slice b3 m3 d3, .slice b4 m4 d4], .bool true])) _ ⟨kd', b1, m1, d1, b2, m2, d2, b3, m3, d3, b4, m4, d4, by rw [hst], G, by rw [pjR_yes hst]; exact hGX, ndG, rG.mono (by omega) fX.size, hAX⟩)
    clear lX fX hGX hAX lr5 hA5 rG hG lr hA HY HC HQ hst hb5 hlr
    go_wp2_with fail
    exact bodyPost_ret (v := .tuple #[.agg #[.int .i64 kd', .slice b1 m1 d1, .slice b2 m2 d2, .slice b3 m3 d3, .slice b4 m4 d4], .bool true]) (by simp [results, Tryz.results5, go_sem, z0, z1, z2, z3, z4]) rfl (unhide HE)

end Go.Proofs.YthgopknjppflhaaGreatDoor

/- The law's own helpers that write a count into a row of bytes and look for it again, by their contracts. -/
namespace Go.Proofs.YthgopknjppflhaaGreatDoor
open Go.RowKit
set_option linter.unusedVariables false

/-- n bytes that count on from k. -/
def markz (k : Int) (n : Nat) : List Int := (List.range n).map fun i : Nat => k + (i : Int)
theorem markz_len (k : Int) (n : Nat) : (markz k n).length = n := by simp [markz]
theorem markz_ok (k : Int) (n : Nat) (h0 : 0 ≤ k) (h1 : k + (n : Int) ≤ 9223372036854775807) : okZ (markz k n) := fun x hx => by
  obtain ⟨i, hi, rfl⟩ := List.mem_map.1 hx
  have := List.mem_range.1 hi
  omega
theorem markz_step (k : Int) (l : List Int) (j : Nat) (h : j < l.length) : (valz (markz k j ++ l.drop j)).set j (.int .i64 (k + (j : Int))) = valz (markz k (j + 1) ++ l.drop (j + 1)) := by
  have e : markz k (j + 1) = markz k j ++ [k + (j : Int)] := by simp [markz, List.range_succ]
  have hl : (valz (markz k j)).length = j := by simp [valz, markz_len]
  rw [valz_app, List.set_append_right _ _ (by omega), hl, Nat.sub_self, e, List.drop_eq_getElem_cons h, valz_app, valz_app, List.append_assoc]
  rfl

theorem markZ_nil (w : World) (a : Option Addr) (cap : Nat) (k : Int) :
    Calls Tryz.prog 60 #[.slice a 0 cap, .int .i64 k] w fun e w' => e = .returned (.int .i64 k) ∧ w' = w := by
  go_enter Tryz.func60, Tryz.ntmps60
  go_wp2
  refine wp_loop_rounds 1 ?_
  rw [rounds_succ]
  go_wp2
  go_ret
  exact ⟨rfl, rfl⟩

set_option maxHeartbeats 1600000 in
set_option maxRecDepth 1000000 in
theorem markZ_row (w : World) (base g cap : Nat) (l : List Int) (k : Int) (hw : w.ownsRow base 3 1 (.slice (some ⟨g, 0, none⟩) l.length cap) l.length (valz l)) (hs : l.length ≤ 16777216) (h0 : 0 ≤ k) (h1 : k ≤ 1000000000) :
    Calls Tryz.prog 60 #[.slice (some ⟨g, 0, none⟩) l.length cap, .int .i64 k] w fun e w' => e = .returned (.int .i64 (k + l.length)) ∧
      w'.ownsRow base 3 1 (.slice (some ⟨g, 0, none⟩) l.length cap) l.length (valz (markz k l.length)) ∧ w.grownBy w' (some g) := by
  generalize hn : l.length = n at *
  have HN := hide hn
  clear hn
  go_enter Tryz.func60, Tryz.ntmps60
  go_wp2
  go_loopw [1, 5] (fun c i wr => ∃ j : Nat, j ≤ n ∧ i = .int .i64 j ∧ c = .int .i64 (k + (j : Int)) ∧ wr.ownsRow base 3 1 (.slice (some ⟨g, 0, none⟩) n cap) n (valz (markz k j ++ l.drop j)) ∧ w.grownBy wr (some g)) (fun _ i _ => n - (intOf i).toNat)
  case atStart => exact ⟨0, Nat.zero_le _, rfl, by simp, by simpa [markz] using hw, World.grownBy.refl _ _⟩
  case round =>
    obtain ⟨j, hj, rfl, rfl, hr, hg⟩ := hrel
    by_cases hlt : j < n
    · have hlen := unhide HN
      have hjl : j < l.length := by omega
      obtain ⟨y, hy⟩ : ∃ y, wr.cell? ⟨g, j, none⟩ = some (.int .i64 y) := ⟨(markz k j ++ l.drop j).getD j 0, by rw [hr.cellAt j (by omega), valz_at (by simp [markz_len]; omega)]⟩
      have hfr := hr.frozenAt j
      have hst := hr.stored j (.int .i64 (k + (j : Int)))
      rw [markz_step k l j hjl] at hst
      have HS := hide hst
      clear hst hr hlen
      have hlt' : (j : Int) < (n : Int) := by omega
      go_wp2
      have R := unhide HS
      go_roundw
      case rel => exact ⟨j + 1, by omega, by go_num, by go_num, R.1, grown_trans hg R.2⟩
      case measure => simp [intOf]; omega
    · have e : j = n := by omega
      subst e
      have hr' : wr.ownsRow base 3 1 (.slice (some ⟨g, 0, none⟩) j cap) j (valz (markz k j)) := by
        have := unhide HN
        rw [List.drop_of_length_le (by omega), List.append_nil] at hr
        exact hr
      clear hr
      go_wp2
      go_ret
      exact ⟨rfl, hr', hg⟩

theorem markZ_any (w : World) (base : Nat) (v : Value) (l : List Int) (k : Int) (h : OwnZ w base v l) (hs : l.length ≤ 16777216) (h0 : 0 ≤ k) (h1 : k ≤ 1000000000) :
    Calls Tryz.prog 60 #[v, .int .i64 k] w fun e w' => e = .returned (.int .i64 (k + l.length)) ∧ OwnZ w' base v (markz k l.length) ∧ w.grownBy w' v.ownBlock := by
  obtain ⟨hok, hlen, ⟨rfl, hz⟩ | ⟨g, cap, cur, rfl, hr⟩⟩ := h
  · have e : l = [] := List.eq_nil_of_length_eq_zero hz
    subst e
    refine (markZ_nil w none 0 k).mono ?_
    rintro e w' ⟨rfl, rfl⟩
    exact ⟨by simp, ⟨markz_ok _ _ h0 (by first | omega | (simp; omega)), World.ownsRow_nil _ _ _ _⟩, World.grownBy.refl _ _⟩
  · refine (markZ_row w base g cap l k ⟨hlen, .inr ⟨g, cap, cur, rfl, hr⟩⟩ hs h0 h1).mono ?_
    rintro e w' ⟨rfl, ho, hg⟩
    refine ⟨rfl, ⟨markz_ok _ _ h0 (by first | omega | (simp; omega)), ?_⟩, hg⟩
    rw [markz_len]
    exact ho

end Go.Proofs.YthgopknjppflhaaGreatDoor

/- What laws.markPlaceS lays: plain mathematics; laws.markByteS over a block that bears a conversion's mark. -/
namespace Go.Proofs.YthgopknjppflhaaGreatDoor
open Go.RowKit
set_option linter.unusedVariables false
set_option maxRecDepth 100000

/-- A place with a count in it, from k on. -/
def mkPl (p : PlV) (k : Int) : PlV where
  idN := k
  idR := k + 1
  parN := k + 1 + 1
  parR := k + 1 + 1 + 1
  key := markz (k + 1 + 1 + 1 + 1) p.key.length
  kind := k + 1 + 1 + 1 + 1 + (p.key.length : Int)
  name := marks (k + 1 + 1 + 1 + 1 + (p.key.length : Int) + 1) p.name.length
  text := marks (k + 1 + 1 + 1 + 1 + (p.key.length : Int) + 1 + (p.name.length : Int)) p.text.length
  attrs := mkA p.attrs (k + 1 + 1 + 1 + 1 + (p.key.length : Int) + 1 + (p.name.length : Int) + (p.text.length : Int))
def szP (p : PlV) : Nat := 5 + p.key.length + p.name.length + p.text.length + cntA p.attrs
def cntPls : List PlV → Nat
  | [] => 0
  | x :: r => szP x + cntPls r
def mkPls : List PlV → Int → List PlV
  | [], _ => []
  | x :: r, k => mkPl x k :: mkPls r (k + ((szP x : Nat) : Int))
theorem mkPls_len : ∀ (l : List PlV) (k : Int), (mkPls l k).length = l.length
  | [], _ => rfl
  | x :: r, k => by simp [mkPls, mkPls_len r]
theorem mkPls_app : ∀ (a b : List PlV) (k : Int), mkPls (a ++ b) k = mkPls a k ++ mkPls b (k + (cntPls a : Nat))
  | [], b, k => by simp [mkPls, cntPls]
  | x :: r, b, k => by
    simp only [List.cons_append, mkPls, mkPls_app r b, cntPls, List.cons.injEq, true_and]
    congr 2
    omega
theorem cntPls_app : ∀ (a b : List PlV), cntPls (a ++ b) = cntPls a + cntPls b
  | [], b => by simp [cntPls]
  | x :: r, b => by simp only [List.cons_append, cntPls, cntPls_app r b]; omega
theorem cntPls_take (l : List PlV) (j : Nat) (h : j < l.length) : cntPls (l.take (j + 1)) = cntPls (l.take j) + szP l[j] := by
  rw [List.take_succ_eq_append_getElem h, cntPls_app]
  simp [cntPls]
theorem cntPls_le (l : List PlV) (j : Nat) : cntPls (l.take j) ≤ cntPls l := by
  have := cntPls_app (l.take j) (l.drop j)
  rw [List.take_append_drop] at this
  omega
theorem mkPls_at (l : List PlV) (k : Int) (j : Nat) (h : j < l.length) (h' : j < (mkPls l k).length) : (mkPls l k)[j] = mkPl l[j] (k + (cntPls (l.take j) : Nat)) := by
  have e : mkPls l k = mkPls (l.take j) k ++ mkPls (l.drop j) (k + (cntPls (l.take j) : Nat)) := by rw [← mkPls_app, List.take_append_drop]
  have e2 : l.drop j = l[j] :: l.drop (j + 1) := List.drop_eq_getElem_cons h
  have hl : (mkPls (l.take j) k).length = j := by rw [mkPls_len]; simp; omega
  have : (mkPls l k)[j]? = some (mkPl l[j] (k + (cntPls (l.take j) : Nat))) := by
    rw [e, List.getElem?_append_right (by omega), hl, Nat.sub_self, e2, mkPls]
    rfl
  rw [List.getElem?_eq_getElem h'] at this
  exact Option.some.inj this
/-- A store into a row that may bear a mark behind its cells. -/
theorem RowM.set {w : World} {base g cap : Nat} {l : List Int} (h : RowM w base (.slice (some ⟨g, 0, none⟩) l.length cap) l) (j : Nat) (y : Int) (hy : 0 ≤ y ∧ y ≤ 255) (hj : j < l.length) : RowM (w.setCell ⟨g, j, none⟩ (.int .u8 y)) base (.slice (some ⟨g, 0, none⟩) l.length cap) (l.set j y) := by
  have hok : okB (l.set j y) := fun x hx => by
    rcases List.mem_or_eq_of_mem_set hx with h' | rfl
    · exact h.1 x h'
    · exact hy
  rcases h.2 with ⟨e, _⟩ | ⟨g', cap', cur, fz, e, hb, hg, hf, h1, h2, h3, h4⟩
  · cases e
  · cases e
    refine ⟨hok, .inr ⟨g, cap, cur.setIfInBounds j (.int .u8 y), fz, by rw [List.length_set], hb, heap_set_mark w g j cur _ fz _ hg, hf, by rw [List.length_set]; exact h1, h2, by simpa using h3, ?_⟩⟩
    rw [List.length_set, Array.toList_setIfInBounds, List.take_set, h4]
    simp [vals, List.map_set]
theorem RowM.cell {w : World} {base g cap : Nat} {l : List Int} (h : RowM w base (.slice (some ⟨g, 0, none⟩) l.length cap) l) (j : Nat) (hj : j < l.length) : ∃ y, w.cell? ⟨g, j, none⟩ = some (.int .u8 y) ∧ w.frozen? ⟨g, j, none⟩ = false := by
  rcases h.2 with ⟨e, _⟩ | ⟨g', cap', cur, fz, e, hb, hg, hf, h1, h2, h3, h4⟩
  · cases e
  · cases e
    refine ⟨l.getD j 0, ?_, frozen_mark w g j cur _ fz hg (hf j (by omega))⟩
    rw [cell_of_row w g j cur _ fz hg]
    have := take_at h4 hj
    rw [vals_at hj] at this
    simpa using this
theorem marks_set (k : Int) (l : List Int) (j : Nat) (h : j < l.length) : (marks k j ++ l.drop j).set j ((k + (j : Int)) % 256) = marks k (j + 1) ++ l.drop (j + 1) := by
  have e : marks k (j + 1) = marks k j ++ [(k + (j : Int)) % 256] := by simp [marks, List.range_succ]
  rw [List.set_append_right _ _ (by simp [marks_len]), marks_len, Nat.sub_self, e, List.drop_eq_getElem_cons h, List.append_assoc]
  rfl

set_option maxHeartbeats 1600000 in
set_option maxRecDepth 1000000 in
theorem markB_rowm (w : World) (base g cap : Nat) (l : List Int) (k : Int) (hw : RowM w base (.slice (some ⟨g, 0, none⟩) l.length cap) l) (hs : l.length ≤ 16777216) (h0 : 0 ≤ k) (h1 : k ≤ 1000000000) :
    Calls Tryz.prog 32 #[.slice (some ⟨g, 0, none⟩) l.length cap, .int .i64 k] w fun e w' => e = .returned (.int .i64 (k + l.length)) ∧
      RowM w' base (.slice (some ⟨g, 0, none⟩) l.length cap) (marks k l.length) ∧ Frm w w' [g] := by
  generalize hn : l.length = n at *
  have HN := hide hn
  have HW := hide hw
  clear hn hw
  go_enter Tryz.func32, Tryz.ntmps32
  go_wp2
  go_loopw [1, 5] (fun c i wr => ∃ j : Nat, j ≤ n ∧ i = .int .i64 j ∧ c = .int .i64 (k + (j : Int)) ∧ RowM wr base (.slice (some ⟨g, 0, none⟩) n cap) (marks k j ++ l.drop j) ∧ Frm w wr [g]) (fun _ i _ => n - (intOf i).toNat)
  case atStart => exact ⟨0, Nat.zero_le _, rfl, by simp, by simpa [marks] using unhide HW, Frm.refl _ _⟩
  case round =>
    obtain ⟨j, hj, rfl, rfl, hr, hg⟩ := hrel
    by_cases hlt : j < n
    · have hlen := unhide HN
      have hjl : j < l.length := by omega
      have hle : (marks k j ++ l.drop j).length = n := by simp [marks_len]; omega
      rw [← hle] at hr
      obtain ⟨y, hy, hfr⟩ := hr.cell j (by omega)
      have hst := hr.set j ((k + (j : Int)) % 256) (by omega) (by omega)
      rw [marks_set k l j hjl, hle] at hst
      have hsf := set_frm wr g j (.int .u8 ((k + (j : Int)) % 256))
      have HS := hide hst
      have HF := hide hsf
      clear hst hr hlen hsf hle
      have hlt' : (j : Int) < (n : Int) := by omega
      go_wp2
      have R := unhide HS
      go_roundw
      case rel => exact ⟨j + 1, by omega, by go_num, by go_num, R, hg.trans (unhide HF)⟩
      case measure => simp [intOf]; omega
    · have e : j = n := by omega
      subst e
      have hr' : RowM wr base (.slice (some ⟨g, 0, none⟩) j cap) (marks k j) := by
        have := unhide HN
        rw [List.drop_of_length_le (by omega), List.append_nil] at hr
        exact hr
      clear hr
      go_wp2
      go_ret
      exact ⟨rfl, hr', hg⟩
theorem markB_m (w : World) (base : Nat) (v : Value) (l : List Int) (k : Int) (h : RowM w base v l) (hs : l.length ≤ 16777216) (h0 : 0 ≤ k) (h1 : k ≤ 1000000000) :
    Calls Tryz.prog 32 #[v, .int .i64 k] w fun e w' => e = .returned (.int .i64 (k + l.length)) ∧ RowM w' base v (marks k l.length) ∧ Frm w w' (FB v) := by
  rcases h.2 with ⟨rfl, rfl⟩ | ⟨g, cap, cur, fz, rfl, hr⟩
  · refine (markB_nil w none 0 k).mono ?_
    rintro e w' ⟨rfl, rfl⟩
    exact ⟨by simp, rowm_nil _ _, Frm.refl _ _⟩
  · exact markB_rowm w base g cap l k h hs h0 h1
end Go.Proofs.YthgopknjppflhaaGreatDoor

/- laws.markPlaceS, laws.markState, by their contracts. -/
namespace Go.Proofs.YthgopknjppflhaaGreatDoor
open Go.RowKit
set_option linter.unusedVariables false
set_option maxRecDepth 100000

theorem OwPlM.len {w : World} {C : List Value} {o : PlV} {F : List Nat} (h : OwPlM w C o F) : C.length = 9 := by
  obtain ⟨k, n, t, a, Fa, rfl, _⟩ := h; rfl
theorem ownz_frm {w w' : World} {v : Value} {l : List Int} {S : List Nat} (h : OwnZ w 0 v l) (f : Frm w w' S) (hd : ∀ g ∈ FB v, g ∉ S) : OwnZ w' 0 v l := ⟨h.1, ownsRow_frm h.2 f hd⟩

set_option maxHeartbeats 20000000 in
theorem markPls_any (w : World) (v : Value) (l : List PlV) (F : List Nat) (k : Int) (h : OwPlsM w v l F) (hF : F.Nodup) (hs : cntPls l ≤ 8388608) (hsA : ∀ x ∈ l, cntA x.attrs ≤ 4194304) (h0 : 0 ≤ k) (h1 : k ≤ 800000000) :
    Calls Tryz.prog 31 #[v, .int .i64 k] w fun e w' => e = .returned (.int .i64 (k + (cntPls l : Nat))) ∧ OwPlsM w' v (mkPls l k) F ∧ Frm w w' F := by
  have hml := OwElems.len h
  unfold maxLen at hml
  obtain ⟨Cs, Fs, hCl, hFl, hR, hrow, rfl⟩ := h
  have hFv := nodup_part hF
  have hFn := (List.nodup_append.1 hF).2.1
  by_cases hl0 : l = []
  · subst hl0
    obtain ⟨a, cap, rfl⟩ := own_nil_shape hrow
    have HW := hide (show OwPlsM w (.slice a ([] : List PlV).length cap) (mkPls [] k) _ from ⟨Cs, Fs, hCl, hFl, hR, hrow, rfl⟩)
    clear hrow hR
    go_enter Tryz.func31, Tryz.ntmps31
    go_wp2_with fail
    refine wp_loop_rounds 1 ?_
    rw [rounds_succ]
    go_wp2_with fail
    go_ret
    exact ⟨by simp [cntPls], unhide HW, Frm.refl _ _⟩
  have hv : ∃ g cap, v = .slice (some ⟨g, 0, none⟩) l.length cap := by
    rcases hrow.2 with ⟨_, h⟩ | ⟨g, cap, cur, rfl, _⟩
    · exact absurd (List.eq_nil_of_length_eq_zero h) hl0
    · exact ⟨g, cap, rfl⟩
  obtain ⟨g, cap, rfl⟩ := hv
  have hgF : ∀ i, g ∉ Fs.getD i [] := fun i hi => hFv g (by simp [FB, Value.ownBlock]) (mem_flat hi)
  have hFB : FB (.slice (some ⟨g, 0, none⟩) l.length cap) = [g] := rfl
  rw [hFB] at hF hFv ⊢
  have HR := hide hR
  have HROW := hide hrow
  have hm' : (l.length : Int) ≤ 9223372036854775807 := by omega
  clear hR hrow hFB
  go_enter Tryz.func31, Tryz.ntmps31
  go_wp2_with fail
  go_loopw [1, 5] (fun c i wr => ∃ j : Nat, j ≤ l.length ∧ i = .int .i64 j ∧ c = .int .i64 (k + (cntPls (l.take j) : Nat)) ∧ ∃ Ds : List (List Value), Ds.length = l.length ∧ wr.ownsRow 0 54 9 (.slice (some ⟨g, 0, none⟩) l.length cap) l.length Ds.flatten ∧
      (∀ i (hi : i < (mkPls l k).length), i < j → OwPlM wr (Ds.getD i []) (mkPls l k)[i] (Fs.getD i [])) ∧ (∀ i (hi : i < l.length), j ≤ i → OwPlM wr (Ds.getD i []) l[i] (Fs.getD i [])) ∧ Frm w wr ([g] ++ Fs.flatten)) (fun _ i _ => l.length - (intOf i).toNat)
  case atStart => exact ⟨0, Nat.zero_le _, rfl, by simp [cntPls], Cs, hCl, unhide HROW, fun i hi hj => by omega, fun i hi _ => (unhide HR i hi).2, Frm.refl _ _⟩
  case round =>
    obtain ⟨j, hj, rfl, rfl, Ds, hDl, hr, hdone, htodo, hf⟩ := hrel
    have hD : ∀ i, i < Ds.length → (Ds.getD i []).length = 9 := fun i hi => by
      by_cases hij : i < j
      · exact (hdone i (by rw [mkPls_len]; omega) hij).len
      · exact (htodo i (by omega) (by omega)).len
    by_cases hjl : j < l.length
    · obtain ⟨kv, nv, tv, av, Fa, hab, hk, hn, ht, ha, hFj⟩ := htodo j hjl (Nat.le_refl _)
      have hct := cntPls_take l j hjl
      have hcl := cntPls_le l (j + 1)
      unfold szP at hct
      have hat := mkPls_at l k j hjl (by rw [mkPls_len]; exact hjl)
      obtain ⟨x, hx⟩ : ∃ x, x = l[j] := ⟨_, rfl⟩
      rw [← hx] at hk hn ht ha hct hat hab
      obtain ⟨q, hq⟩ : ∃ q : Int, q = k + (cntPls (l.take j) : Nat) := ⟨_, rfl⟩
      rw [← hq] at hat ⊢
      have hq0 : 0 ≤ q := by omega
      have hq1 : q ≤ 817000000 := by omega
      obtain ⟨pk, ck, rfl, _, _⟩ := hk.ints.shape
      obtain ⟨pn, cn, rfl⟩ := hn.shape
      obtain ⟨pt, ct, rfl, _, _⟩ := ht.byt.shape
      obtain ⟨pa, ca, rfl, _, _⟩ := Elems.shape ha.rd
      have hFjn := nodup_at (i := j) hFn
      rw [hFj] at hFjn
      obtain ⟨na, nb', nc', nd0⟩ := nodup4 hFjn
      have nd' := nd0.2
      have R0 := RowJ.start hDl hD j hjl hr
      rw [hab] at R0
      have c0 := R0.cell 0 (by omega)
      have f0 := R0.frozen (j * 9)
      have c1 := R0.cell 1 (by omega)
      have f1 := R0.frozen (j * 9 + 1)
      have c2 := R0.cell 2 (by omega)
      have f2 := R0.frozen (j * 9 + 2)
      have c3 := R0.cell 3 (by omega)
      have f3 := R0.frozen (j * 9 + 3)
      simp only [List.getElem?_cons_zero, List.getElem?_cons_succ, Nat.add_zero] at c0 c1 c2 c3
      have R1 := ((((R0.put 0 (by omega) (.int .i64 q)).put 1 (by omega) (.int .i64 (q + 1))).put 2 (by omega) (.int .i64 (q + 1 + 1))).put 3 (by omega) (.int .i64 (q + 1 + 1 + 1)))
      simp only [Nat.add_zero, List.set_cons_zero, List.set_cons_succ] at R1
      have F1 : Frm wr ((((wr.setCell ⟨g, j * 9, none⟩ (.int .i64 q)).setCell ⟨g, j * 9 + 1, none⟩ (.int .i64 (q + 1))).setCell ⟨g, j * 9 + 2, none⟩ (.int .i64 (q + 1 + 1))).setCell ⟨g, j * 9 + 3, none⟩ (.int .i64 (q + 1 + 1 + 1))) [g] := ((((set_frm wr g (j * 9) (.int .i64 q)).trans (set_frm _ g (j * 9 + 1) (.int .i64 (q + 1)))).trans (set_frm _ g (j * 9 + 2) (.int .i64 (q + 1 + 1)))).trans (set_frm _ g (j * 9 + 3) (.int .i64 (q + 1 + 1 + 1))))
      have c4 := R1.cell 4 (by omega)
      simp only [List.getElem?_cons_zero, List.getElem?_cons_succ] at c4
      have HX := hide hx
      have HQ := hide hq
      have HT := hide hat
      have HCT := hide hct
      have HFJ := hide hFj
      have HDN := hide hdone
      have HTD := hide htodo
      have hx0 : x.key.length ≤ 16777216 := by omega
      have hx1 : x.name.length ≤ 16777216 := by omega
      have hx2 : x.text.length ≤ 16777216 := by omega
      have hx3 : cntA x.attrs ≤ 4194304 := hsA x (by rw [hx]; exact List.getElem_mem _)
      have hjl' : (j : Int) < (l.length : Int) := by omega
      have hgn : g ∉ Fs.getD j [] := hgF j
      rw [unhide HFJ] at hgn
      simp only [List.mem_append, not_or] at hgn
      obtain ⟨⟨⟨hgk, hgnn⟩, hgt⟩, hga⟩ := hgn
      have hk1 := ownz_frm hk F1 (fun p hp hp' => by simp at hp'; subst hp'; exact hgk hp)
      have hn1 := hn.frm F1 (fun p hp hp' => by simp at hp'; subst hp'; exact hgnn hp)
      have ht1 := ht.frm F1 (fun p hp hp' => by simp at hp'; subst hp'; exact hgt hp)
      have ha1 := OwAttrs.frm ha F1 (fun p hp hp' => by simp at hp'; subst hp'; exact hga hp)
      clear hx hq hat hct hFj hdone htodo hcl hr hab hk hn ht ha hFjn R0
      go_wp2_with fail
      generalize ((((wr.setCell ⟨g, j * 9, none⟩ (.int .i64 q)).setCell ⟨g, j * 9 + 1, none⟩ (.int .i64 (q + 1))).setCell ⟨g, j * 9 + 2, none⟩ (.int .i64 (q + 1 + 1))).setCell ⟨g, j * 9 + 3, none⟩ (.int .i64 (q + 1 + 1 + 1))) = w1 at *
      clear c0 c1 c2 c3 f0 f1 f2 f3 c4
      refine (markZ_any w1 0 _ x.key (q + 1 + 1 + 1 + 1) hk1 hx0 (by omega) (by omega)).mono ?_
      rintro e w2 ⟨rfl, hk2, hg2⟩
      have F2 : Frm w1 w2 (FB (.slice pk x.key.length ck)) := Frm.ofGrown hg2
      have R2 := R1.frm F2 hgk
      have hn2 := hn1.frm F2 (fun p hp hp' => (na p hp').1 hp)
      have ht2 := ht1.frm F2 (fun p hp hp' => (na p hp').2.1 hp)
      have ha2 := OwAttrs.frm ha1 F2 (fun p hp hp' => (na p hp').2.2 hp)
      have c5 := R2.cell 5 (by omega)
      have f5 := R2.frozen (j * 9 + 5)
      have R3 := R2.put 5 (by omega) (.int .i64 (q + 1 + 1 + 1 + 1 + (x.key.length : Int)))
      have F3 := set_frm w2 g (j * 9 + 5) (.int .i64 (q + 1 + 1 + 1 + 1 + (x.key.length : Int)))
      have c6 := R3.cell 6 (by omega)
      simp only [List.set_cons_zero, List.set_cons_succ, List.getElem?_cons_zero, List.getElem?_cons_succ] at c5 c6 R3
      have hk3 := ownz_frm hk2 F3 (fun p hp hp' => by simp at hp'; subst hp'; exact hgk hp)
      have hn3 := hn2.frm F3 (fun p hp hp' => by simp at hp'; subst hp'; exact hgnn hp)
      have ht3 := ht2.frm F3 (fun p hp hp' => by simp at hp'; subst hp'; exact hgt hp)
      have ha3 := OwAttrs.frm ha2 F3 (fun p hp hp' => by simp at hp'; subst hp'; exact hga hp)
      clear R1 R2 hk1 hn1 ht1 ha1 hk2 hn2 ht2 ha2 hg2
      go_wp2_with fail
      generalize (w2.setCell ⟨g, j * 9 + 5, none⟩ (.int .i64 (q + 1 + 1 + 1 + 1 + (x.key.length : Int)))) = w3 at *
      clear c5 f5 c6
      refine (markB_m w3 0 _ x.name (q + 1 + 1 + 1 + 1 + (x.key.length : Int) + 1) hn3 hx1 (by omega) (by omega)).mono ?_
      rintro e w4 ⟨rfl, hn4, F4⟩
      have R4 := R3.frm F4 hgnn
      have hk4 := ownz_frm hk3 F4 (fun p hp hp' => (na p hp).1 hp')
      have ht4 := ht3.frm F4 (fun p hp hp' => (nb' p hp').1 hp)
      have ha4 := OwAttrs.frm ha3 F4 (fun p hp hp' => (nb' p hp').2 hp)
      have c7 := R4.cell 7 (by omega)
      simp only [List.getElem?_cons_zero, List.getElem?_cons_succ] at c7
      clear R3 hk3 hn3 ht3 ha3
      go_wp2_with fail
      clear c7
      refine (markB_any w4 0 _ x.text (q + 1 + 1 + 1 + 1 + (x.key.length : Int) + 1 + (x.name.length : Int)) ht4 hx2 (by omega) (by omega)).mono ?_
      rintro e w5 ⟨rfl, ht5, hg5⟩
      have F5 : Frm w4 w5 (FB (.slice pt x.text.length ct)) := Frm.ofGrown hg5
      have R5 := R4.frm F5 hgt
      have hk5 := ownz_frm hk4 F5 (fun p hp hp' => (na p hp).2.1 hp')
      have hn5 := hn4.frm F5 (fun p hp hp' => (nb' p hp).1 hp')
      have ha5 := OwAttrs.frm ha4 F5 (fun p hp hp' => nc' p hp' hp)
      have c8 := R5.cell 8 (by omega)
      simp only [List.getElem?_cons_zero, List.getElem?_cons_succ] at c8
      clear R4 hk4 hn4 ht4 ha4 hg5
      go_wp2_with fail
      clear c8
      refine (markA_any w5 _ x.attrs Fa (q + 1 + 1 + 1 + 1 + (x.key.length : Int) + 1 + (x.name.length : Int) + (x.text.length : Int)) ha5 nd' hx3 (by omega) (by omega)).mono ?_
      rintro e w6 ⟨rfl, ha6, F6⟩
      have R6 := R5.frm F6 hga
      have hk6 := ownz_frm hk5 F6 (fun p hp hp' => (na p hp).2.2 hp')
      have hn6 := hn5.frm F6 (fun p hp hp' => (nb' p hp).2 hp')
      have ht6 := ht5.frm F6 (fun p hp hp' => nc' p hp hp')
      have FJ : Frm wr w6 ([g] ++ Fs.getD j []) := by
        have m0 : ∀ p, p ∈ [g] → p ∈ [g] ++ Fs.getD j [] := fun p hp => List.mem_append_left _ hp
        have m1 : ∀ p, p ∈ FB (Value.slice pk x.key.length ck) → p ∈ [g] ++ Fs.getD j [] := fun p hp => by rw [unhide HFJ]; simp [hp]
        have m2 : ∀ p, p ∈ FB (Value.slice pn x.name.length cn) → p ∈ [g] ++ Fs.getD j [] := fun p hp => by rw [unhide HFJ]; simp [hp]
        have m3 : ∀ p, p ∈ FB (Value.slice pt x.text.length ct) → p ∈ [g] ++ Fs.getD j [] := fun p hp => by rw [unhide HFJ]; simp [hp]
        have m4 : ∀ p, p ∈ Fa → p ∈ [g] ++ Fs.getD j [] := fun p hp => by rw [unhide HFJ]; simp [hp]
        exact (((((F1.mono m0).trans (F2.mono m1)).trans (F3.mono m0)).trans (F4.mono m2)).trans (F5.mono m3)).trans (F6.mono m4)
      clear R5 hk5 hn5 ht5 ha5 F1 F2 F3 F4 F5 F6
      go_wp2_with fail
      go_roundw
      case rel =>
        refine ⟨j + 1, by omega, by go_num, ?_, Ds.set j _, by rw [List.length_set]; exact hDl, R6.row, fun i hi hij => ?_, fun i hi hij => ?_, hf.trans (FJ.mono (fun p hp => ?_))⟩
        · rw [unhide HCT, unhide HQ]; go_num
        · by_cases e : i = j
          · subst e
            rw [unhide HT, getD_set_at _ _ _ (by omega)]
            exact ⟨_, _, _, _, Fa, by simp only [mkPl], hk6, hn6, ht6, ha6, unhide HFJ⟩
          · rw [getD_set_ne _ _ _ _ e]
            exact (unhide HDN i hi (by omega)).frm FJ (fun p hp hp' => by
              rcases List.mem_append.1 hp' with h | h
              · simp at h; subst h; exact hgF i hp
              · exact nodup_flat hFn e p hp h)
        · rw [getD_set_ne _ _ _ _ (by omega)]
          exact (unhide HTD i hi (by omega)).frm FJ (fun p hp hp' => by
            rcases List.mem_append.1 hp' with h | h
            · simp at h; subst h; exact hgF i hp
            · exact nodup_flat hFn (by omega) p hp h)
        · rcases List.mem_append.1 hp with h | h
          · exact List.mem_append_left _ h
          · exact List.mem_append_right _ (mem_flat h)
      case measure => simp [intOf]; omega
    · have e : j = l.length := by omega
      subst e
      have HW := hide (show OwPlsM wr (.slice (some ⟨g, 0, none⟩) l.length cap) (mkPls l k) ([g] ++ Fs.flatten) from
        ⟨Ds, Fs, by rw [mkPls_len]; exact hDl, by rw [mkPls_len]; exact hFl, fun i hi => ⟨hD i (by rw [mkPls_len] at hi; omega), hdone i hi (by rw [mkPls_len] at hi; exact hi)⟩, by rw [mkPls_len]; exact hr, rfl⟩)
      clear hdone htodo hr hD
      go_wp2_with fail
      go_ret
      exact ⟨by first | rfl | (rw [List.take_length]; rfl), unhide HW, hf⟩
set_option maxHeartbeats 3200000 in
theorem markSt_any (w : World) (v : Value) (l : List PlV) (F : List Nat) (k : Int) (h : OwPlsM w v l F) (hF : F.Nodup) (hs : cntPls l ≤ 8388608) (hsA : ∀ x ∈ l, cntA x.attrs ≤ 4194304) (h0 : 0 ≤ k) (h1 : k ≤ 800000000) :
    Calls Tryz.prog 10 #[.agg #[v], .int .i64 k] w fun e w' => e = .returned (.int .i64 (k + (cntPls l : Nat))) ∧ OwPlsM w' v (mkPls l k) F ∧ Frm w w' F := by
  have hA : Frm w (w.alloc (.cells #[v] 35)) F := Frm.ofBelow ((Below.refl _ _).alloc (Nat.le_refl _) _) F
  have h' := OwPlsM.frm h (Frm.ofBelow ((Below.refl w.heap.size w).alloc (Nat.le_refl _) (.cells #[v] 35)) []) (fun _ _ => by simp)
  have c0 := (Loc.made w #[v] 35).cell 0
  simp only [List.getElem?_toArray, List.getElem?_cons_zero] at c0
  have H := hide (markPls_any _ v l F k h' hF hs hsA h0 h1)
  have HA := hide hA
  clear h h' hA
  go_enter Tryz.func10, Tryz.ntmps10
  go_wp2_with fail
  refine (unhide H).mono ?_
  rintro e w2 ⟨rfl, ho, hf⟩
  have HO := hide ho
  clear ho
  go_wp2_with fail
  go_ret
  exact ⟨rfl, unhide HO, (unhide HA).trans hf⟩
end Go.Proofs.YthgopknjppflhaaGreatDoor
