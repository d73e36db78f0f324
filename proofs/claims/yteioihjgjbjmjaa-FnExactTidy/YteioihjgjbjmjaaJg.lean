/- Own texts joined: TidyS, Eq, EqT, ToT4. -/
import Derived.Test.YteioihjgjbjmjaaJa
import Derived.Test.YteioihjgjbjmjaaJb
import Derived.Test.YteioihjgjbjmjaaJc
import Derived.Test.YteioihjgjbjmjaaJd
import Derived.Test.YteioihjgjbjmjaaJe
import Derived.Test.YteioihjgjbjmjaaJf
import Derived.Test.YteioihjgjbjmjaaChecked
import Derived.Deep.QuietTactic
import Derived.BigQuiet
import Derived.Deep.RegionHeld3

/- spec.l2tidy tells a tree tidied, in memory of its own. -/
namespace Go.Proofs.Yteioihjgjbjmjaa
open Go.RowKit Go.Shelf
set_option linter.unusedVariables false
set_option maxRecDepth 100000

/-- What l2tidy tells of a tree. -/
def TsAt (n : Nat) (t : Tr n) : Prop := ∀ (w : World) (a b c d e : Value), RdNode n w [a, b, c, d, e] t → szT n t ≤ 2097152 →
    Calls Try.prog 38 #[.agg #[a, b, c, d, e]] w fun e w' => ∃ (kd : Int) (a1 : Option Addr) (n1 c1 : Nat) (a2 : Option Addr) (n2 c2 : Nat) (a3 : Option Addr) (n3 c3 : Nat) (a4 : Option Addr) (n4 c4 : Nat), e = .returned (.agg #[.int .i64 kd, .slice a1 n1 c1, .slice a2 n2 c2, .slice a3 n3 c3, .slice a4 n4 c4]) ∧ ∃ F, OwNode n w' [.int .i64 kd, .slice a1 n1 c1, .slice a2 n2 c2, .slice a3 n3 c3, .slice a4 n4 c4] (tidyT n t) F ∧ F.Nodup ∧ Rng F w.heap.size w'.heap.size ∧ Below w.heap.size w w'

/-- How far spec's way has come. -/
def wtJ {α : Type} : Mb α → Nat
  | .inl _ => 1
  | .inr l => l.length
def WayS (n : Nat) (A rest all : List (Mb (Tr (n + 1)))) : Prop := tidyS A rest = tidyS [] all ∧ A.length + (rest.map wtJ).sum ≤ 4194304
theorem kids_wtJ (n : Nat) : ∀ l : List (Tr (n + 1)), ((l.map (mb n)).map wtJ).sum ≤ l.length + (l.map (szT (n + 1))).sum
  | [] => by simp
  | k :: l => by
    have h0 := kids_wtJ n l
    have h2 := text_sz n k
    have h3 : wtJ (mb n k) ≤ 1 + szT (n + 1) k := by
      unfold mb
      split
      · show k.text.length ≤ _; omega
      · show 1 ≤ _; omega
    simp only [List.map_cons, List.sum_cons, List.length_cons]
    omega
theorem WayS.text {n : Nat} {A rest all : List (Mb (Tr (n + 1)))} {l : List Int} (h : WayS n A (.inr l :: rest) all) : A.length + l.length ≤ 4194304 ∧ WayS n (joinL A l) rest all := by
  have h2 := h.2
  simp only [List.map_cons, List.sum_cons, wtJ] at h2
  have h3 := joinL_len l A
  exact ⟨by omega, h.1, by omega⟩
theorem WayS.elem {n : Nat} {A rest all : List (Mb (Tr (n + 1)))} {k : Tr (n + 1)} (h : WayS n A (.inl k :: rest) all) : A.length + 1 ≤ 4194304 ∧ WayS n (A ++ [.inl k]) rest all := by
  have h2 := h.2
  simp only [List.map_cons, List.sum_cons, wtJ] at h2
  exact ⟨by omega, h.1, by rw [List.length_append, List.length_singleton]; omega⟩
theorem tidyT_kind : ∀ (n : Nat) (t : Tr (n + 1)), (tidyT (n + 1) t).kind = t.kind
  | 0, _ => rfl
  | _ + 1, _ => rfl

/-- The attributes turned, and were stored. -/
theorem OutAt.setAttrs {n lo po : Nat} {w w' : World} {kd : Int} {nm tx at' kv : Value} {ln lt : List Int} {la la' : List (List Int × List Int)} {A : List (Tr (n + 1))} {Fa Fk S : List Nat} {at2 : Value} {Fa' : List Nat} (h : OutAt n lo w po kd nm tx at' kv ln lt la A Fa Fk) (f : Frm w w' S) (hd : ∀ q ∈ FB nm ++ FB tx ++ Fk, q ∉ S)
    (hl : Loc w' po #[.int .i64 kd, nm, tx, at2, kv] 32) (hk : OwAttrs w' at2 la' Fa') (hN : Fa'.Nodup) (hF : ∀ q ∈ Fa', (q ∈ Fa ∨ w.heap.size ≤ q) ∧ q < w'.heap.size) (hlo : lo ≤ w.heap.size) : OutAt n lo w' po kd nm tx at2 kv ln lt la' A Fa' Fk := by
  have hpl := h.loc.lt
  refine ⟨hl, h.name.frm f (fun q hq => hd q (by simp only [List.mem_append]; exact .inl (.inl hq))), h.text.frm f (fun q hq => hd q (by simp only [List.mem_append]; exact .inl (.inr hq))), hk, OwKids.frm h.kids f (fun q hq => hd q (by simp only [List.mem_append]; exact .inr hq)), ?_, ?_⟩
  · obtain ⟨n1, n2, n3⟩ := List.nodup_append.1 h.nodup
    obtain ⟨n4, n5, n6⟩ := List.nodup_append.1 n1
    refine List.nodup_append.2 ⟨List.nodup_append.2 ⟨n4, hN, fun a ha b hb e => ?_⟩, n2, fun a ha b hb e => ?_⟩
    · rcases (hF b hb).1 with h' | h'
      · exact n6 a ha b h' e
      · have := (h.rng a (by simp only [List.mem_append] at ha ⊢; exact .inl (.inl ha))).2.1; omega
    · rcases List.mem_append.1 ha with ha | ha
      · exact n3 a (List.mem_append_left _ ha) b hb e
      · rcases (hF a ha).1 with h' | h'
        · exact n3 a (List.mem_append_right _ h') b hb e
        · have := (h.rng b (List.mem_append_right _ hb)).2.1; omega
  · intro q hq
    simp only [List.mem_append] at hq
    rcases hq with (hq | hq) | hq
    · have := h.rng q (by simp only [List.mem_append]; exact .inl (.inl hq))
      exact ⟨this.1, Nat.lt_of_lt_of_le this.2.1 f.size, this.2.2⟩
    · refine ⟨?_, (hF q hq).2, fun e => attrs_notN hk hl (e ▸ hq)⟩
      rcases (hF q hq).1 with h' | h'
      · exact (h.rng q (by simp only [List.mem_append]; exact .inl (.inr h'))).1
      · omega
    · have := h.rng q (by simp only [List.mem_append]; exact .inr hq)
      exact ⟨this.1, Nat.lt_of_lt_of_le this.2.1 f.size, this.2.2⟩

-- <<Ts5def
def Ts5 (wr : World) (bn po pb poff j cd vn vc : Nat) (va : Option Addr) (nm tx nv vv : Value) (kd : Int) (la : List (List Int × List Int)) (x : List Int × List Int) (Fa : List Nat) (s0 s2 s5 s6 s7 s8 s9 s10 s11 s12 s13 s14 s15 s16 s17 s18 s19 s20 s21 s22 s23 s24 s47 s48 s49 s50 s51 s52 s53 s54 s55 s56 s57 s58 s59 s60 s61 s62 s63 s64 s65 s66 s67 s68 s69 s70 s71 s72 s73 s74 s75 : Value) (L : Array Bool) (a : Act) (w : World) : Prop :=
  ∃ b0 b1 b2 b3 b4 b5 b6 b7 b8 b9 b10 b11 b12 b13 b14 b15 b16 b17 b18 b19 b20 b21 b22 x25 x26 x27 x28 x29 x30 x31 x32 x33 x34 x35 x36 x37 x38 x39 x40 x41 x42 x43 x44 x45 x46, L = #[b0, b1, b2, b3, b4, b5, b6, b7, b8, b9, b10, b11, b12, b13, b14, b15, b16, b17, b18, b19, b20, b21, b22] ∧ a = { tmps := #[s0, .pointer (some ⟨bn, 0, none⟩), s2, .pointer (some ⟨po, 0, none⟩), .int .i64 j, s5, s6, s7, s8, s9, s10, s11, s12, s13, s14, s15, s16, s17, s18, s19, s20, s21, s22, s23, s24, x25, x26, x27, x28, x29, x30, x31, x32, x33, x34, x35, x36, x37, x38, x39, x40, x41, x42, x43, x44, x45, x46, s47, s48, s49, s50, s51, s52, s53, s54, s55, s56, s57, s58, s59, s60, s61, s62, s63, s64, s65, s66, s67, s68, s69, s70, s71, s72, s73, s74, s75], defers := [] } ∧ Frm wr w (FB (.slice va vn vc) ++ [po]) ∧ (∀ q, ((b9 = true ∧ q ∈ FB x34) ∨ (b9 = false ∧ b2 = true ∧ q ∈ FB x27)) → ((b17 = true ∧ q ∈ FB x42) ∨ (b17 = false ∧ b10 = true ∧ q ∈ FB x35)) → False) ∧ Loc w po #[.int .i64 kd, nm, tx, (if b22 = true then x45 else .slice va vn vc), .slice none 0 0] 32 ∧ (b20 = false → OwAttrs w (.slice va vn vc) (la.take j) Fa) ∧ (b0 = true → x25 = .pointer (some ⟨po, 3, none⟩)) ∧ (b1 = true → x26 = .slice va vn vc) ∧ (b2 = true → b9 = false → Own w wr.heap.size x27 []) ∧ (b3 = true → x28 = .pointer (some ⟨bn, 3, none⟩)) ∧ (b4 = true → x29 = .slice (some ⟨pb, poff, none⟩) la.length cd) ∧ (b5 = true → x30 = .int .i64 j) ∧ (b6 = true → x31 = .pointer (some ⟨pb, poff + j * 2, none⟩)) ∧ (b7 = true → x32 = .pointer (some ⟨pb, poff + j * 2, none⟩)) ∧ (b8 = true → x33 = nv) ∧ (b9 = true → b2 = true ∧ Own w wr.heap.size x34 x.1) ∧ (b10 = true → b17 = false → Own w wr.heap.size x35 []) ∧ (b11 = true → x36 = .pointer (some ⟨bn, 3, none⟩)) ∧ (b12 = true → x37 = .slice (some ⟨pb, poff, none⟩) la.length cd) ∧ (b13 = true → x38 = .int .i64 j) ∧ (b14 = true → x39 = .pointer (some ⟨pb, poff + j * 2, none⟩)) ∧ (b15 = true → x40 = .pointer (some ⟨pb, poff + j * 2 + 1, none⟩)) ∧ (b16 = true → x41 = vv) ∧ (b17 = true → (b10 = true ∧ b9 = true) ∧ Own w wr.heap.size x42 x.2) ∧ (b18 = true → b9 = true ∧ b17 = true ∧ x43 = .agg #[x34, x42]) ∧ (b19 = true → b18 = true ∧ ∃ z, wr.heap.size ≤ z ∧ x44 = .slice (some ⟨z, 0, none⟩) 1 1 ∧ Loc w z #[x34, x42] 88) ∧ (b20 = true → b1 = true ∧ b17 = true ∧ ∃ g9 cap9 F9, x45 = .slice (some ⟨g9, 0, none⟩) (j + 1) cap9 ∧ OwAttrs w x45 (la.take j ++ [x]) F9 ∧ F9.Nodup ∧ ∀ q ∈ F9, (q ∈ Fa ∨ wr.heap.size ≤ q) ∧ q < w.heap.size) ∧ (b21 = true → x46 = .pointer (some ⟨po, 3, none⟩)) ∧ (b22 = true → b20 = true)
theorem Ts5_cases {i : Nat} (h : i < 23) : i = 0 ∨ i = 1 ∨ i = 2 ∨ i = 3 ∨ i = 4 ∨ i = 5 ∨ i = 6 ∨ i = 7 ∨ i = 8 ∨ i = 9 ∨ i = 10 ∨ i = 11 ∨ i = 12 ∨ i = 13 ∨ i = 14 ∨ i = 15 ∨ i = 16 ∨ i = 17 ∨ i = 18 ∨ i = 19 ∨ i = 20 ∨ i = 21 ∨ i = 22 := by omega
-- Ts5def>>

-- <<Ts1def
def Ts1 (w1 : World) (bn pr : Nat) (T0 nmv txv : Value) (kd : Int) (ln lt : List Int) (L : Array Bool) (a : Act) (w : World) : Prop :=
  ∃ b0 b1 b2 b3 b4 b5 b6 b7 b8 b9 b10 b11 b12 x3 x7 x8 x9 x10 x11 x12 x13 x14 x15 x16 x17, L = #[b0, b1, b2, b3, b4, b5, b6, b7, b8, b9, b10, b11, b12] ∧ a = { tmps := #[T0, .pointer (some ⟨bn, 0, none⟩), .pointer (some ⟨pr, 0, none⟩), x3, undef, undef, undef, x7, x8, x9, x10, x11, x12, x13, x14, x15, x16, x17, undef, undef, undef, undef, undef, undef, undef, undef, undef, undef, undef, undef, undef, undef, undef, undef, undef, undef, undef, undef, undef, undef, undef, undef, undef, undef, undef, undef, undef, undef, undef, undef, undef, undef, undef, undef, undef, undef, undef, undef, undef, undef, undef, undef, undef, undef, undef, undef, undef, undef, undef, undef, undef, undef, undef, undef, undef, undef], defers := [] } ∧ Below w1.heap.size w1 w ∧ (∀ q, ((b5 = true ∧ q ∈ FB x12) ∨ (b5 = false ∧ b2 = true ∧ q ∈ FB x9)) → ((b9 = true ∧ q ∈ FB x16) ∨ (b9 = false ∧ b6 = true ∧ q ∈ FB x13)) → False) ∧ (b0 = true → x7 = .pointer (some ⟨bn, 0, none⟩)) ∧ (b1 = true → x8 = .int .i64 kd) ∧ (b2 = true → b5 = false → Own w w1.heap.size x9 []) ∧ (b3 = true → x10 = .pointer (some ⟨bn, 1, none⟩)) ∧ (b4 = true → x11 = nmv) ∧ (b5 = true → b2 = true ∧ Own w w1.heap.size x12 ln) ∧ (b6 = true → b9 = false → Own w w1.heap.size x13 []) ∧ (b7 = true → x14 = .pointer (some ⟨bn, 2, none⟩)) ∧ (b8 = true → x15 = txv) ∧ (b9 = true → b6 = true ∧ Own w w1.heap.size x16 lt) ∧ (b10 = true → b5 = true ∧ b9 = true ∧ x17 = .agg #[.int .i64 kd, x12, x16, .slice none 0 0, .slice none 0 0]) ∧ (b11 = true → ∃ po, x3 = .pointer (some ⟨po, 0, none⟩) ∧ w1.heap.size ≤ po ∧ Loc w po (if b12 = true then #[.int .i64 kd, x12, x16, .slice none 0 0, .slice none 0 0] else #[.int .i64 0, .slice none 0 0, .slice none 0 0, .slice none 0 0, .slice none 0 0]) 32) ∧ (b12 = true → b11 = true ∧ b10 = true)
theorem Ts1_cases {i : Nat} (h : i < 13) : i = 0 ∨ i = 1 ∨ i = 2 ∨ i = 3 ∨ i = 4 ∨ i = 5 ∨ i = 6 ∨ i = 7 ∨ i = 8 ∨ i = 9 ∨ i = 10 ∨ i = 11 ∨ i = 12 := by omega
-- Ts1def>>

set_option maxHeartbeats 6400000 in
theorem l2tidy_core (n : Nat) (t : Tr (n + 2)) (H : ∀ k ∈ t.kids, k.kind ≠ 1 → TsAt (n + 1) k) : TsAt (n + 2) t := by
  intro w0 a b c d e hrd hsz
  have hszT : szT (n + 2) t = t.name.length + t.text.length + szA t.attrs + (t.kids.length + (t.kids.map (szT (n + 1))).sum) := rfl
  obtain ⟨_, _, _, _, e0, k1, k2, hb, hc, hd, he⟩ := hrd
  simp only [List.cons.injEq, and_true] at e0
  obtain ⟨rfl, rfl, rfl, rfl, rfl⟩ := e0
  obtain ⟨ab, cb, rfl, _, _⟩ := hb.shape
  obtain ⟨ac, cc, rfl, _, _⟩ := hc.shape
  obtain ⟨ad, cd, rfl, _, _⟩ := Elems.shape hd
  obtain ⟨ae, ce, rfl, _, _⟩ := Elems.shape he
  obtain ⟨l0, l1, hB1⟩ := two w0 #[.int .i64 t.kind, .slice ab t.name.length cb, .slice ac t.text.length cc, .slice ad t.attrs.length cd, .slice ae t.kids.length ce] #[.int .i64 0, .slice none 0 0, .slice none 0 0, .slice none 0 0, .slice none 0 0] 32 32
  obtain ⟨x0, x1, x2, x3, x4⟩ := l0.five
  have hal : t.attrs.length ≤ 4194304 := by unfold szA at hszT; omega
  have hnl : t.name.length ≤ 4194304 := by omega
  have htl : t.text.length ≤ 4194304 := by omega
  have hax : ∀ x ∈ t.attrs, x.1.length ≤ 4194304 ∧ x.2.length ≤ 4194304 := fun x hx => by have := attr_le hx; omega
  have hkl : t.kids.length ≤ 2097152 := by omega
  have hmK : (t.kids.length : Int) ≤ 9223372036854775807 := by omega
  have hmA : (t.attrs.length : Int) ≤ 9223372036854775807 := by omega
  have HSZ := hide hszT
  clear hszT
  go_enter Try.func38, Try.ntmps38
  go_wp2_with fail
  generalize hW1 : (w0.alloc (.cells #[.int .i64 t.kind, .slice ab t.name.length cb, .slice ac t.text.length cc, .slice ad t.attrs.length cd, .slice ae t.kids.length ce] 32)).alloc (.cells #[.int .i64 0, .slice none 0 0, .slice none 0 0, .slice none 0 0, .slice none 0 0] 32) = w1 at *
  have hs1 : w0.heap.size + 2 ≤ w1.heap.size := by rw [← hW1]; simp
  clear hW1
  have HAX := hide hax
  clear hax
  refine region_inv (by kernel_rfl) (Ts1 w1 w0.heap.size (w0.heap.size + 1) (.agg #[.int .i64 t.kind, .slice ab t.name.length cb, .slice ac t.text.length cc, .slice ad t.attrs.length cd, .slice ae t.kids.length ce]) (.slice ab t.name.length cb) (.slice ac t.text.length cc) t.kind t.name t.text) ?sz ?h0 ?step ?dn
  case sz =>
      rintro L a w ⟨b0, b1, b2, b3, b4, b5, b6, b7, b8, b9, b10, b11, b12, x3, x7, x8, x9, x10, x11, x12, x13, x14, x15, x16, x17, rfl, _⟩
      rfl
  case h0 =>
      refine ⟨false, false, false, false, false, false, false, false, false, false, false, false, false, undef, undef, undef, undef, undef, undef, undef, undef, undef, undef, undef, undef, rfl, rfl, (Below.refl _ _).drew, ?_⟩
      simp
-- <<Ts1step
  case step =>
      intro L a w i o hI hi ho
      obtain ⟨b0, b1, b2, b3, b4, b5, b6, b7, b8, b9, b10, b11, b12, x3, x7, x8, x9, x10, x11, x12, x13, x14, x15, x16, x17, rfl, rfl, h0, h1, f0, f1, f2, f3, f4, f5, f6, f7, f8, f9, f10, f11, f12⟩ := hI
      have F12a : b12 = true → b5 = true := fun h => (f10 (f12 h).2).1
      have F12b : b12 = true → b9 = true := fun h => (f10 (f12 h).2).2.1
      rcases Ts1_cases (ready_lt hi) with rfl | rfl | rfl | rfl | rfl | rfl | rfl | rfl | rfl | rfl | rfl | rfl | rfl
      · obtain rfl := Option.some.inj ho
        go_simp
        exact ⟨true, b1, b2, b3, b4, b5, b6, b7, b8, b9, b10, b11, b12, x3, _, x8, x9, x10, x11, x12, x13, x14, x15, x16, x17, rfl, rfl, h0, h1, (fun _ => rfl), f1, f2, f3, f4, f5, f6, f7, f8, f9, f10, f11, f12⟩
      · have g0 := ready_pred hi ho 0
        obtain rfl := Option.some.inj ho
        have e0 := f0 (g0 (by kernel_rfl))
        subst e0
        have c0 : w.cell? ⟨w0.heap.size, 0, none⟩ = some (.int .i64 t.kind) := (l0.all h0).cell 0
        go_simp
        exact ⟨b0, true, b2, b3, b4, b5, b6, b7, b8, b9, b10, b11, b12, x3, _, _, x9, x10, x11, x12, x13, x14, x15, x16, x17, rfl, rfl, h0, h1, f0, (fun _ => rfl), f2, f3, f4, f5, f6, f7, f8, f9, f10, f11, f12⟩
      · obtain rfl := Option.some.inj ho
        have hb2 : b2 = false := by simpa using ready_off rfl hi
        have hb' : Below w.heap.size w (w.alloc (.cells #[] 5)) := (Below.refl _ _).alloc (Nat.le_refl _) _
        go_simp
        refine ⟨b0, b1, true, b3, b4, b5, b6, b7, b8, b9, b10, b11, b12, x3, x7, x8, _, x10, x11, x12, x13, x14, x15, x16, x17, rfl, rfl, bstep h0 hb', ?_, f0, f1, (fun _ _ => (own_none w).mono h0.size), f3, f4, (fun h => ⟨rfl, (f5 h).2.keep hb'⟩), (fun h e => (f6 h e).keep hb'), f7, f8, (fun h => ⟨(f9 h).1, (f9 h).2.keep hb'⟩), f10, (fun h => by obtain ⟨po, q1, q2, q3⟩ := f11 h; exact ⟨po, q1, q2, q3.all hb'⟩), f12⟩
        intro q hA hB
        rcases hA with ⟨e, hq⟩ | ⟨_, _, hq⟩
        · rw [(f5 e).1] at hb2; cases hb2
        · have hz : q = w.heap.size := by simpa [FB, Value.ownBlock] using hq
          rcases hB with ⟨e, hq⟩ | ⟨e, e', hq⟩
          · have := ((f9 e).2.lt q (by simpa [FB] using hq)).2; omega
          · have := ((f6 e' e).lt q (by simpa [FB] using hq)).2; omega
      · obtain rfl := Option.some.inj ho
        go_simp
        exact ⟨b0, b1, b2, true, b4, b5, b6, b7, b8, b9, b10, b11, b12, x3, x7, x8, x9, _, x11, x12, x13, x14, x15, x16, x17, rfl, rfl, h0, h1, f0, f1, f2, (fun _ => rfl), f4, f5, f6, f7, f8, f9, f10, f11, f12⟩
      · have g3 := ready_pred hi ho 3
        obtain rfl := Option.some.inj ho
        have e3 := f3 (g3 (by kernel_rfl))
        subst e3
        have c0 : w.cell? ⟨w0.heap.size, 1, none⟩ = some (.slice ab t.name.length cb) := (l0.all h0).cell 1
        go_simp
        exact ⟨b0, b1, b2, b3, true, b5, b6, b7, b8, b9, b10, b11, b12, x3, x7, x8, x9, _, _, x12, x13, x14, x15, x16, x17, rfl, rfl, h0, h1, f0, f1, f2, f3, (fun _ => rfl), f5, f6, f7, f8, f9, f10, f11, f12⟩
      · have gs := ready_pred hi ho 4
        have gr := ready_pred hi ho 2
        obtain rfl := Option.some.inj ho
        have es := f4 (gs (by kernel_rfl))
        have er : b2 = true := gr (by kernel_rfl)
        subst es er
        have hbi : b5 = false := by simpa using ready_off rfl hi
        have hown := f2 rfl hbi
        have hdr : ∀ q ∈ FB x9, ((b5 = true ∧ q ∈ FB x12) ∨ (b5 = false ∧ true = true ∧ q ∈ FB x9)) := fun q hq => .inr ⟨hbi, rfl, hq⟩
        refine step_appAt (by rfl) (.tmp 9) (.tmp 11) (by rfl) w1.heap.size x9 [] (by rfl) hown (.slice ab t.name.length cb) t.name (by rfl) (hb.keep (bstep hB1 h0)) (by simp; omega) h0.size ?_
        intro v' w' ho' hg hat
        rw [List.nil_append] at ho'
        have hF := Frm.ofGrown hg
        have hbw : Below w1.heap.size w1 w' := h0.trans (hF.below h0.size (fun q hq => (hown.lt q (by simpa using hq)).1))
        have hkp : ∀ {u : Value} {m : List Int}, Own w w1.heap.size u m → (∀ q ∈ FB u, q ∉ FB x9) → Own w' w1.heap.size u m := fun hu hd => hu.frm hF (fun q hq hq' => hd q hq hq')
        have hlk : ∀ {po : Nat} {cs : Array Value}, Loc w po cs 32 → Loc w' po cs 32 := fun hl => hl.frm hF (fun hq => own_notN hown hl (by simpa using hq))
        have hat' : ∀ q ∈ FB v', q ∈ FB x9 ∨ q = w.heap.size := fun q hq => by
          have hq' : v'.ownBlock = some q := by simpa [FB] using hq
          rcases hat with h | h
          · exact .inl (by rw [h] at hq'; simpa [FB] using hq')
          · rw [h] at hq'; exact .inr (Option.some.inj hq').symm
        refine ⟨b0, b1, true, b3, b4, true, b6, b7, b8, b9, b10, b11, b12, x3, x7, x8, x9, x10, _, _, x13, x14, x15, x16, x17, rfl, rfl, hbw, ?_, f0, f1, (fun _ e => by cases e), f3, f4, (fun _ => ⟨rfl, ho'⟩), (fun h e => hkp (f6 h e) (fun q hq hq' => h1 q (hdr q hq') (.inr ⟨e, h, hq⟩))), f7, f8, (fun h => ⟨(f9 h).1, hkp (f9 h).2 (fun q hq hq' => h1 q (hdr q hq') (.inl ⟨h, hq⟩))⟩), (fun h => by rw [(f10 h).1] at hbi; cases hbi), (fun h => by obtain ⟨po, q1, q2, q3⟩ := f11 h; refine ⟨po, q1, q2, ?_⟩; have hb12 : b12 = false := (by cases b12 with | false => rfl | true => exact absurd (F12a rfl) (by rw [hbi]; simp)); subst hb12; exact hlk q3), f12⟩
        intro q hA hB
        rcases hA with ⟨_, hq⟩ | ⟨e, _⟩
        · rcases hat' q hq with h | h
          · exact h1 q (hdr q h) hB
          · rcases hB with ⟨e, hq⟩ | ⟨e, e', hq⟩
            · have := ((f9 e).2.lt q (by simpa [FB] using hq)).2; omega
            · have := ((f6 e' e).lt q (by simpa [FB] using hq)).2; omega
        · cases e
      · obtain rfl := Option.some.inj ho
        have hb6 : b6 = false := by simpa using ready_off rfl hi
        have hb' : Below w.heap.size w (w.alloc (.cells #[] 5)) := (Below.refl _ _).alloc (Nat.le_refl _) _
        go_simp
        refine ⟨b0, b1, b2, b3, b4, b5, true, b7, b8, b9, b10, b11, b12, x3, x7, x8, x9, x10, x11, x12, _, x14, x15, x16, x17, rfl, rfl, bstep h0 hb', ?_, f0, f1, (fun h e => (f2 h e).keep hb'), f3, f4, (fun h => ⟨(f5 h).1, (f5 h).2.keep hb'⟩), (fun _ _ => (own_none w).mono h0.size), f7, f8, (fun h => ⟨rfl, (f9 h).2.keep hb'⟩), f10, (fun h => by obtain ⟨po, q1, q2, q3⟩ := f11 h; exact ⟨po, q1, q2, q3.all hb'⟩), f12⟩
        intro q hA hB
        rcases hB with ⟨e, hq⟩ | ⟨_, _, hq⟩
        · rw [(f9 e).1] at hb6; cases hb6
        · have hz : q = w.heap.size := by simpa [FB, Value.ownBlock] using hq
          rcases hA with ⟨e, hq⟩ | ⟨e, e', hq⟩
          · have := ((f5 e).2.lt q (by simpa [FB] using hq)).2; omega
          · have := ((f2 e' e).lt q (by simpa [FB] using hq)).2; omega
      · obtain rfl := Option.some.inj ho
        go_simp
        exact ⟨b0, b1, b2, b3, b4, b5, b6, true, b8, b9, b10, b11, b12, x3, x7, x8, x9, x10, x11, x12, x13, _, x15, x16, x17, rfl, rfl, h0, h1, f0, f1, f2, f3, f4, f5, f6, (fun _ => rfl), f8, f9, f10, f11, f12⟩
      · have g7 := ready_pred hi ho 7
        obtain rfl := Option.some.inj ho
        have e7 := f7 (g7 (by kernel_rfl))
        subst e7
        have c0 : w.cell? ⟨w0.heap.size, 2, none⟩ = some (.slice ac t.text.length cc) := (l0.all h0).cell 2
        go_simp
        exact ⟨b0, b1, b2, b3, b4, b5, b6, b7, true, b9, b10, b11, b12, x3, x7, x8, x9, x10, x11, x12, x13, _, _, x16, x17, rfl, rfl, h0, h1, f0, f1, f2, f3, f4, f5, f6, f7, (fun _ => rfl), f9, f10, f11, f12⟩
      · have gs := ready_pred hi ho 8
        have gr := ready_pred hi ho 6
        obtain rfl := Option.some.inj ho
        have es := f8 (gs (by kernel_rfl))
        have er : b6 = true := gr (by kernel_rfl)
        subst es er
        have hbi : b9 = false := by simpa using ready_off rfl hi
        have hown := f6 rfl hbi
        have hdr : ∀ q ∈ FB x13, ((b9 = true ∧ q ∈ FB x16) ∨ (b9 = false ∧ true = true ∧ q ∈ FB x13)) := fun q hq => .inr ⟨hbi, rfl, hq⟩
        refine step_appAt (by rfl) (.tmp 13) (.tmp 15) (by rfl) w1.heap.size x13 [] (by rfl) hown (.slice ac t.text.length cc) t.text (by rfl) (hc.keep (bstep hB1 h0)) (by simp; omega) h0.size ?_
        intro v' w' ho' hg hat
        rw [List.nil_append] at ho'
        have hF := Frm.ofGrown hg
        have hbw : Below w1.heap.size w1 w' := h0.trans (hF.below h0.size (fun q hq => (hown.lt q (by simpa using hq)).1))
        have hkp : ∀ {u : Value} {m : List Int}, Own w w1.heap.size u m → (∀ q ∈ FB u, q ∉ FB x13) → Own w' w1.heap.size u m := fun hu hd => hu.frm hF (fun q hq hq' => hd q hq hq')
        have hlk : ∀ {po : Nat} {cs : Array Value}, Loc w po cs 32 → Loc w' po cs 32 := fun hl => hl.frm hF (fun hq => own_notN hown hl (by simpa using hq))
        have hat' : ∀ q ∈ FB v', q ∈ FB x13 ∨ q = w.heap.size := fun q hq => by
          have hq' : v'.ownBlock = some q := by simpa [FB] using hq
          rcases hat with h | h
          · exact .inl (by rw [h] at hq'; simpa [FB] using hq')
          · rw [h] at hq'; exact .inr (Option.some.inj hq').symm
        refine ⟨b0, b1, b2, b3, b4, b5, true, b7, b8, true, b10, b11, b12, x3, x7, x8, x9, x10, x11, x12, x13, x14, _, _, x17, rfl, rfl, hbw, ?_, f0, f1, (fun h e => hkp (f2 h e) (fun q hq hq' => h1 q (.inr ⟨e, h, hq⟩) (hdr q hq'))), f3, f4, (fun h => ⟨(f5 h).1, hkp (f5 h).2 (fun q hq hq' => h1 q (.inl ⟨h, hq⟩) (hdr q hq'))⟩), (fun _ e => by cases e), f7, f8, (fun _ => ⟨rfl, ho'⟩), (fun h => by rw [(f10 h).2.1] at hbi; cases hbi), (fun h => by obtain ⟨po, q1, q2, q3⟩ := f11 h; refine ⟨po, q1, q2, ?_⟩; have hb12 : b12 = false := (by cases b12 with | false => rfl | true => exact absurd (F12b rfl) (by rw [hbi]; simp)); subst hb12; exact hlk q3), f12⟩
        intro q hA hB
        rcases hB with ⟨_, hq⟩ | ⟨e, _⟩
        · rcases hat' q hq with h | h
          · exact h1 q hA (hdr q h)
          · rcases hA with ⟨e, hq⟩ | ⟨e, e', hq⟩
            · have := ((f5 e).2.lt q (by simpa [FB] using hq)).2; omega
            · have := ((f2 e' e).lt q (by simpa [FB] using hq)).2; omega
        · cases e
      · have g1 := ready_pred hi ho 1
        have g5 := ready_pred hi ho 5
        have g9 := ready_pred hi ho 9
        obtain rfl := Option.some.inj ho
        have e1 := f1 (g1 (by kernel_rfl))
        have e5 : b5 = true := g5 (by kernel_rfl)
        have e9 : b9 = true := g9 (by kernel_rfl)
        subst e1 e5 e9
        have e2 := (f5 rfl).1
        have e6 := (f9 rfl).1
        subst e2 e6
        obtain ⟨p2, k2', hv2, _, _⟩ := (f5 rfl).2.byt.shape
        obtain ⟨p3, k3', hv3, _, _⟩ := (f9 rfl).2.byt.shape
        subst hv2 hv3
        go_simp
        exact ⟨b0, b1, true, b3, b4, true, true, b7, b8, true, true, b11, b12, x3, x7, _, x9, x10, x11, _, x13, x14, x15, _, _, rfl, rfl, h0, h1, f0, f1, f2, f3, f4, f5, f6, f7, f8, f9, (fun _ => ⟨rfl, rfl, rfl⟩), f11, (fun h => ⟨(f12 h).1, rfl⟩)⟩
      · obtain rfl := Option.some.inj ho
        have hb11 : b11 = false := by simpa using ready_off rfl hi
        have hb12 : b12 = false := by
          cases b12 with
          | false => rfl
          | true => rw [(f12 rfl).1] at hb11; cases hb11
        subst hb12
        have hb' : Below w.heap.size w (w.alloc (.cells #[.int .i64 0, .slice none 0 0, .slice none 0 0, .slice none 0 0, .slice none 0 0] 32)) := (Below.refl _ _).alloc (Nat.le_refl _) _
        go_simp
        exact ⟨b0, b1, b2, b3, b4, b5, b6, b7, b8, b9, b10, true, false, _, x7, x8, x9, x10, x11, x12, x13, x14, x15, x16, x17, rfl, rfl, bstep h0 hb', h1, f0, f1, (fun h e => (f2 h e).keep hb'), f3, f4, (fun h => ⟨(f5 h).1, (f5 h).2.keep hb'⟩), (fun h e => (f6 h e).keep hb'), f7, f8, (fun h => ⟨(f9 h).1, (f9 h).2.keep hb'⟩), f10, (fun _ => ⟨w.heap.size, rfl, h0.size, Loc.made w _ _⟩), (fun h => by cases h)⟩
      · have g10 := ready_pred hi ho 10
        have g11 := ready_pred hi ho 11
        obtain rfl := Option.some.inj ho
        have e11 : b11 = true := g11 (by kernel_rfl)
        have e10 : b10 = true := g10 (by kernel_rfl)
        obtain ⟨e5, e9, e17⟩ := f10 e10
        have hb12 : b12 = false := by simpa using ready_off rfl hi
        subst e5 e9 e10 e11 e17 hb12
        have e2 := (f5 rfl).1
        have e6 := (f9 rfl).1
        subst e2 e6
        obtain ⟨po, q1, q2, q3⟩ := f11 rfl
        replace q3 : Loc w po #[.int .i64 0, .slice none 0 0, .slice none 0 0, .slice none 0 0, .slice none 0 0] 32 := q3
        subst q1
        obtain ⟨p2, k2', hv2, _, _⟩ := (f5 rfl).2.byt.shape
        obtain ⟨p3, k3', hv3, _, _⟩ := (f9 rfl).2.byt.shape
        subst hv2 hv3
        obtain ⟨y0, y1, y2, y3, y4⟩ := q3.five
        have u0 := q3.frozen 0
        have u1 := q3.frozen 1
        have u2 := q3.frozen 2
        have u3 := q3.frozen 3
        have u4 := q3.frozen 4
        obtain ⟨s1, s2⟩ := store5 q3 (.int .i64 t.kind) (.slice p2 t.name.length k2') (.slice p3 t.text.length k3') (.slice none 0 0) (.slice none 0 0)
        have s3 := h0.trans (s2.below h0.size (fun g hg => by have e : g = po := (by simpa using hg); omega))
        have s4 := (f5 rfl).2.frm s2 (fun g hg hg' => own_notN (f5 rfl).2 q3 (by have e : g = po := (by simpa using hg'); rw [← e]; simpa [FB] using hg))
        have s5 := (f9 rfl).2.frm s2 (fun g hg hg' => own_notN (f9 rfl).2 q3 (by have e : g = po := (by simpa using hg'); rw [← e]; simpa [FB] using hg))
        go_simp
        exact ⟨b0, b1, true, b3, b4, true, true, b7, b8, true, true, true, true, _, x7, x8, x9, x10, x11, _, x13, x14, x15, _, _, rfl, rfl, s3, h1, f0, f1, (fun _ e => by cases e), f3, f4, (fun _ => ⟨(f5 rfl).1, s4⟩), (fun _ e => by cases e), f7, f8, (fun _ => ⟨(f9 rfl).1, s5⟩), (fun _ => ⟨rfl, rfl, rfl⟩), (fun _ => ⟨po, rfl, q2, s1⟩), (fun _ => ⟨rfl, rfl⟩)⟩
-- Ts1step>>
  case dn =>
    intro L a w2 hI hre
    have hall := ready_all (L := L) (by obtain ⟨b0, b1, b2, b3, b4, b5, b6, b7, b8, b9, b10, b11, b12, x3, x7, x8, x9, x10, x11, x12, x13, x14, x15, x16, x17, rfl, _⟩ := hI; rfl) (by kernel_rfl) hre 13
    obtain ⟨b0, b1, b2, b3, b4, b5, b6, b7, b8, b9, b10, b11, b12, x3, x7, x8, x9, x10, x11, x12, x13, x14, x15, x16, x17, rfl, rfl, h0, h1, f0, f1, f2, f3, f4, f5, f6, f7, f8, f9, f10, f11, f12⟩ := hI
    have s5 : b5 = true := hall 5 (by omega) (by decide)
    have s9 : b9 = true := hall 9 (by omega) (by decide)
    have s11 : b11 = true := hall 11 (by omega) (by decide)
    have s12 : b12 = true := hall 12 (by omega) (by decide)
    subst s5 s9 s11 s12
    obtain ⟨po, q1, q2, q3⟩ := f11 rfl
    replace q3 : Loc w2 po #[.int .i64 t.kind, x12, x16, .slice none 0 0, .slice none 0 0] 32 := q3
    have r0 := (f5 rfl).2
    have r1 := (f9 rfl).2
    subst q1
    have hO : OutAt n w1.heap.size w2 po t.kind x12 x16 (.slice none 0 0) (.slice none 0 0) t.name t.text (t.attrs.take 0) (([] : List (Mb (Tr (n + 1)))).map (unMb n)) [] [] := by
      refine ⟨q3, r0.mono (Nat.zero_le _), r1.mono (Nat.zero_le _), OwElems.none _ _ _ _, OwElems.none _ _ _ _, ?_, fun q hq => ?_⟩
      · rw [List.append_nil, List.append_nil]
        exact List.nodup_append.2 ⟨FB_nodup _, FB_nodup _, fun a ha b hb e => h1 a (.inl ⟨rfl, ha⟩) (.inl ⟨rfl, e ▸ hb⟩)⟩
      · have hq' : q ∈ FB x12 ∨ q ∈ FB x16 := by simpa using hq
        rcases hq' with h | h
        · exact ⟨(r0.lt q (by simpa [FB] using h)).1, (r0.lt q (by simpa [FB] using h)).2, fun e => own_notN r0 q3 (by rw [← e]; simpa [FB] using h)⟩
        · exact ⟨(r1.lt q (by simpa [FB] using h)).1, (r1.lt q (by simpa [FB] using h)).2, fun e => own_notN r1 q3 (by rw [← e]; simpa [FB] using h)⟩
    clear hall f0 f1 f2 f3 f4 f5 f6 f7 f8 f9 f10 f11 f12 hre h1
    obtain ⟨p2, k2', hv2, _, _⟩ := r0.byt.shape
    obtain ⟨p3, k3', hv3, _, _⟩ := r1.byt.shape
    subst hv2 hv3
    have hB2 : Below w0.heap.size w0 w2 := bstep hB1 h0
    have lr2 := l1.all h0
    have lb2 := l0.all h0
    have hlo : w1.heap.size ≤ w2.heap.size := h0.size
    have hpo := q3.lt
    have hpb : ¬ w0.heap.size = po := by omega
    have hpr : ¬ w0.heap.size + 1 = po := by omega
    clear r0 r1 q3 x0 x1 x2 x3 x4 hb hc h0 l0 l1
    obtain ⟨i0, hi0, hz0, hz1, hz2⟩ := info_parts Try.info88
    go_wp2_with fail
    go_loopw [4] (fun i wr => ∃ j : Nat, j ≤ t.attrs.length ∧ i = .int .i64 j ∧ ∃ va vn vc Fa, OutAt n w1.heap.size wr po t.kind (.slice p2 t.name.length k2') (.slice p3 t.text.length k3') (.slice va vn vc) (.slice none 0 0) t.name t.text (t.attrs.take j) (([] : List (Mb (Tr (n + 1)))).map (unMb n)) Fa [] ∧ Below w0.heap.size w0 wr ∧ Loc wr w0.heap.size #[.int .i64 t.kind, .slice ab t.name.length cb, .slice ac t.text.length cc, .slice ad t.attrs.length cd, .slice ae t.kids.length ce] 32 ∧ Loc wr (w0.heap.size + 1) #[.int .i64 0, .slice none 0 0, .slice none 0 0, .slice none 0 0, .slice none 0 0] 32 ∧ w1.heap.size ≤ wr.heap.size) (fun i _ => t.attrs.length - (intOf i).toNat)
    case atStart => exact ⟨0, Nat.zero_le _, rfl, none, 0, 0, [], hO, hB2, lb2, lr2, hlo⟩
    case round =>
      clear hO hB2 lr2 lb2 hlo hpo
      obtain ⟨j, hj, rfl, va, vn, vc, Fa, hO, hBr, lb, lr, hlo⟩ := hrel
      have c3 : wr.cell? ⟨w0.heap.size, 3, none⟩ = some (.slice ad t.attrs.length cd) := lb.cell 3
      by_cases hjl : j < t.attrs.length
      · have hjl' : (j : Int) < (t.attrs.length : Int) := by omega
        obtain ⟨pb, poff, hpa, hpl, hun, _, C, hC, hcell, hra⟩ := hd.at hjl
        clear hun
        subst hpa
        obtain ⟨x, hx⟩ : ∃ x, x = t.attrs[j] := ⟨_, rfl⟩
        have hxm : x ∈ t.attrs := by rw [hx]; exact List.getElem_mem hjl
        have hxs := unhide HAX x hxm
        have HTK := hide (show t.attrs.take (j + 1) = t.attrs.take j ++ [x] by rw [List.take_succ_eq_append_getElem hjl, ← hx])
        rw [← hx] at hra
        obtain ⟨y0, y1, rfl, hy0, hy1⟩ := hra
        have u0 := hcell 0 (by omega)
        have u1 := hcell 1 (by omega)
        simp only [List.getElem?_cons_zero, List.getElem?_cons_succ, Nat.add_zero] at u0 u1
        obtain ⟨n1, n2, rfl, _, _⟩ := hy0.shape
        obtain ⟨v1, v2, rfl, _, _⟩ := hy1.shape
        have hvF : ∀ q ∈ FB (.slice va vn vc), q ∈ Fa := fun q hq => by
          obtain ⟨_, _, _, _, _, _, rfl⟩ := hO.attrs
          exact List.mem_append_left _ hq
        have hFlt : ∀ q ∈ Fa, q < wr.heap.size := fun q hq => (hO.rng q (by simp only [List.mem_append]; exact .inl (.inr hq))).2.1
        have hNd : Fa.Nodup := (List.nodup_append.1 (List.nodup_append.1 hO.nodup).1).2.1
        clear hC hcell hx c3
        have c3 : wr.cell? ⟨w0.heap.size, 3, none⟩ = some (.slice (some ⟨pb, poff, none⟩) t.attrs.length cd) := lb.cell 3
        go_wp2_with fail
        have hxb : poff + j * 2 + 1 = poff + j * 2 + 1 := rfl
        clear hxb
        have hbS : w0.heap.size ∉ FB (.slice va vn vc) ++ [po] := fun h => by
          rcases List.mem_append.1 h with h | h
          · have := (hO.rng _ (by simp only [List.mem_append]; exact .inl (.inr (hvF _ h)))).1; omega
          · have e : w0.heap.size = po := by simpa using h
            omega
        have hBw : ∀ {w : World}, Frm wr w (FB (.slice va vn vc) ++ [po]) → Below w0.heap.size w0 w := fun f => hBr.trans (f.below hBr.size (fun q hq => by
          rcases List.mem_append.1 hq with h | h
          · have := (hO.rng q (by simp only [List.mem_append]; exact .inl (.inr (hvF q h)))).1; omega
          · have e : q = po := by simpa using h
            omega))
        refine region_inv (by kernel_rfl) (Ts5 wr w0.heap.size po pb poff j cd vn vc va (.slice p2 t.name.length k2') (.slice p3 t.text.length k3') (.slice n1 x.1.length n2) (.slice v1 x.2.length v2) t.kind t.attrs x Fa (.agg #[.int .i64 t.kind, .slice ab t.name.length cb, .slice ac t.text.length cc, .slice (some ⟨pb, poff, none⟩) t.attrs.length cd, .slice ae t.kids.length ce]) (.pointer (some ⟨w0.heap.size + 1, 0, none⟩)) undef undef x7 x8 x9 x10 x11 (.slice p2 t.name.length k2') x13 x14 x15 (.slice p3 t.text.length k3') x17 (.int .i64 j) (.pointer (some ⟨w0.heap.size, 3, none⟩)) (.slice (some ⟨pb, poff, none⟩) t.attrs.length cd) (.int .i64 t.attrs.length) (.bool true) u23 u24 undef undef undef undef undef undef undef undef undef undef undef undef undef undef undef undef undef undef undef undef undef undef undef undef undef undef undef undef undef) ?sz5 ?h05 ?step5 ?dn5
        case sz5 =>
          rintro L a w ⟨b0, b1, b2, b3, b4, b5, b6, b7, b8, b9, b10, b11, b12, b13, b14, b15, b16, b17, b18, b19, b20, b21, b22, x25, x26, x27, x28, x29, x30, x31, x32, x33, x34, x35, x36, x37, x38, x39, x40, x41, x42, x43, x44, x45, x46, rfl, _⟩
          rfl
        case h05 =>
          refine ⟨false, false, false, false, false, false, false, false, false, false, false, false, false, false, false, false, false, false, false, false, false, false, false, u25, u26, u27, u28, u29, u30, u31, u32, u33, u34, u35, u36, u37, u38, u39, u40, u41, u42, u43, u44, u45, u46, rfl, rfl, Frm.ofBelow ((Below.refl _ _).drew) _, ?_, hO.loc.all ((Below.refl _ _).drew), fun _ => OwAttrs.frm hO.attrs (Frm.ofBelow ((Below.refl _ _).drew) []) (fun _ _ => by simp), ?_⟩
          · intro q h
            simp at h
          · simp
-- <<Ts5step
        case step5 =>
          intro L a w i o hI hi ho
          obtain ⟨b0, b1, b2, b3, b4, b5, b6, b7, b8, b9, b10, b11, b12, b13, b14, b15, b16, b17, b18, b19, b20, b21, b22, x25, x26, x27, x28, x29, x30, x31, x32, x33, x34, x35, x36, x37, x38, x39, x40, x41, x42, x43, x44, x45, x46, rfl, rfl, h0, h1, h2, h3, f0, f1, f2, f3, f4, f5, f6, f7, f8, f9, f10, f11, f12, f13, f14, f15, f16, f17, f18, f19, f20, f21, f22⟩ := hI
          rcases Ts5_cases (ready_lt hi) with rfl | rfl | rfl | rfl | rfl | rfl | rfl | rfl | rfl | rfl | rfl | rfl | rfl | rfl | rfl | rfl | rfl | rfl | rfl | rfl | rfl | rfl | rfl
          · obtain rfl := Option.some.inj ho
            go_simp
            exact ⟨true, b1, b2, b3, b4, b5, b6, b7, b8, b9, b10, b11, b12, b13, b14, b15, b16, b17, b18, b19, b20, b21, b22, _, x26, x27, x28, x29, x30, x31, x32, x33, x34, x35, x36, x37, x38, x39, x40, x41, x42, x43, x44, x45, x46, rfl, rfl, h0, h1, h2, h3, (fun _ => rfl), f1, f2, f3, f4, f5, f6, f7, f8, f9, f10, f11, f12, f13, f14, f15, f16, f17, f18, f19, f20, f21, f22⟩
          · have g0 := ready_pred hi ho 0
            obtain rfl := Option.some.inj ho
            have e0 := f0 (g0 (by kernel_rfl))
            subst e0
            have hbi : b1 = false := by simpa using ready_off rfl hi
            have hb22 : b22 = false := by
              cases b22 with
              | false => rfl
              | true => have := (f20 (f22 rfl)).1; rw [hbi] at this; cases this
            subst hb22
            replace h2 : Loc w po #[.int .i64 t.kind, .slice p2 t.name.length k2', .slice p3 t.text.length k3', .slice va vn vc, .slice none 0 0] 32 := h2
            have c0 : w.cell? ⟨po, 3, none⟩ = some (.slice va vn vc) := h2.cell 3
            go_simp
            exact ⟨b0, true, b2, b3, b4, b5, b6, b7, b8, b9, b10, b11, b12, b13, b14, b15, b16, b17, b18, b19, b20, b21, false, _, _, x27, x28, x29, x30, x31, x32, x33, x34, x35, x36, x37, x38, x39, x40, x41, x42, x43, x44, x45, x46, rfl, rfl, h0, h1, h2, h3, f0, (fun _ => rfl), f2, f3, f4, f5, f6, f7, f8, f9, f10, f11, f12, f13, f14, f15, f16, f17, f18, f19, (fun h => by have := (f20 h).1; rw [hbi] at this; cases this), f21, (fun h => by cases h)⟩
          · obtain rfl := Option.some.inj ho
            have hbi : b2 = false := by simpa using ready_off rfl hi
            have hb' : Below w.heap.size w (w.alloc (.cells #[] 5)) := (Below.refl _ _).alloc (Nat.le_refl _) _
            go_simp
            refine ⟨b0, b1, true, b3, b4, b5, b6, b7, b8, b9, b10, b11, b12, b13, b14, b15, b16, b17, b18, b19, b20, b21, b22, x25, x26, _, x28, x29, x30, x31, x32, x33, x34, x35, x36, x37, x38, x39, x40, x41, x42, x43, x44, x45, x46, rfl, rfl, h0.trans (Frm.ofBelow hb' _), ?_, h2.all hb', (fun e => OwAttrs.frm (h3 e) (Frm.ofBelow hb' []) (fun _ _ => by simp)), f0, f1, (fun _ _ => (own_none w).mono h0.size), f3, f4, f5, f6, f7, f8, (fun h => ⟨rfl, (f9 h).2.keep hb'⟩), (fun h e => (f10 h e).keep hb'), f11, f12, f13, f14, f15, f16, (fun h => ⟨(f17 h).1, (f17 h).2.keep hb'⟩), f18, (fun h => by obtain ⟨z0, z, q1, q2, q3⟩ := f19 h; exact ⟨z0, z, q1, q2, q3.all hb'⟩), (fun h => by obtain ⟨z0, z1, g9, cap9, F9, q1, q2, q3, q4⟩ := f20 h; exact ⟨z0, z1, g9, cap9, F9, q1, OwAttrs.frm q2 (Frm.ofBelow hb' []) (fun _ _ => by simp), q3, fun q hq => ⟨(q4 q hq).1, Nat.lt_of_lt_of_le (q4 q hq).2 hb'.size⟩⟩), f21, f22⟩
            intro q hA hB
            rcases hA with ⟨e, hq⟩ | ⟨_, _, hq⟩
            · have := (f9 e).1; rw [hbi] at this; cases this
            · have hz : q = w.heap.size := by simpa [FB, Value.ownBlock] using hq
              rcases hB with ⟨e, hq⟩ | ⟨e, e', hq⟩
              · have := ((f17 e).2.lt q (by simpa [FB] using hq)).2; omega
              · have := ((f10 e' e).lt q (by simpa [FB] using hq)).2; omega
          · obtain rfl := Option.some.inj ho
            go_simp
            exact ⟨b0, b1, b2, true, b4, b5, b6, b7, b8, b9, b10, b11, b12, b13, b14, b15, b16, b17, b18, b19, b20, b21, b22, x25, x26, x27, _, x29, x30, x31, x32, x33, x34, x35, x36, x37, x38, x39, x40, x41, x42, x43, x44, x45, x46, rfl, rfl, h0, h1, h2, h3, f0, f1, f2, (fun _ => rfl), f4, f5, f6, f7, f8, f9, f10, f11, f12, f13, f14, f15, f16, f17, f18, f19, f20, f21, f22⟩
          · have g3 := ready_pred hi ho 3
            obtain rfl := Option.some.inj ho
            have e3 := f3 (g3 (by kernel_rfl))
            subst e3
            have c0 : w.cell? ⟨w0.heap.size, 3, none⟩ = some (.slice (some ⟨pb, poff, none⟩) t.attrs.length cd) := (lb.frm h0 hbS).cell 3
            go_simp
            exact ⟨b0, b1, b2, b3, true, b5, b6, b7, b8, b9, b10, b11, b12, b13, b14, b15, b16, b17, b18, b19, b20, b21, b22, x25, x26, x27, _, _, x30, x31, x32, x33, x34, x35, x36, x37, x38, x39, x40, x41, x42, x43, x44, x45, x46, rfl, rfl, h0, h1, h2, h3, f0, f1, f2, f3, (fun _ => rfl), f5, f6, f7, f8, f9, f10, f11, f12, f13, f14, f15, f16, f17, f18, f19, f20, f21, f22⟩
          · obtain rfl := Option.some.inj ho
            go_simp
            exact ⟨b0, b1, b2, b3, b4, true, b6, b7, b8, b9, b10, b11, b12, b13, b14, b15, b16, b17, b18, b19, b20, b21, b22, x25, x26, x27, x28, x29, _, x31, x32, x33, x34, x35, x36, x37, x38, x39, x40, x41, x42, x43, x44, x45, x46, rfl, rfl, h0, h1, h2, h3, f0, f1, f2, f3, f4, (fun _ => rfl), f6, f7, f8, f9, f10, f11, f12, f13, f14, f15, f16, f17, f18, f19, f20, f21, f22⟩
          · have g4 := ready_pred hi ho 4
            have g5 := ready_pred hi ho 5
            obtain rfl := Option.some.inj ho
            have e4 := f4 (g4 (by kernel_rfl))
            subst e4
            have e5 := f5 (g5 (by kernel_rfl))
            subst e5
            go_simp
            exact ⟨b0, b1, b2, b3, b4, b5, true, b7, b8, b9, b10, b11, b12, b13, b14, b15, b16, b17, b18, b19, b20, b21, b22, x25, x26, x27, x28, _, _, _, x32, x33, x34, x35, x36, x37, x38, x39, x40, x41, x42, x43, x44, x45, x46, rfl, rfl, h0, h1, h2, h3, f0, f1, f2, f3, f4, f5, (fun _ => rfl), f7, f8, f9, f10, f11, f12, f13, f14, f15, f16, f17, f18, f19, f20, f21, f22⟩
          · have g6 := ready_pred hi ho 6
            obtain rfl := Option.some.inj ho
            have e6 := f6 (g6 (by kernel_rfl))
            subst e6
            go_simp
            exact ⟨b0, b1, b2, b3, b4, b5, b6, true, b8, b9, b10, b11, b12, b13, b14, b15, b16, b17, b18, b19, b20, b21, b22, x25, x26, x27, x28, x29, x30, _, _, x33, x34, x35, x36, x37, x38, x39, x40, x41, x42, x43, x44, x45, x46, rfl, rfl, h0, h1, h2, h3, f0, f1, f2, f3, f4, f5, f6, (fun _ => rfl), f8, f9, f10, f11, f12, f13, f14, f15, f16, f17, f18, f19, f20, f21, f22⟩
          · have g7 := ready_pred hi ho 7
            obtain rfl := Option.some.inj ho
            have e7 := f7 (g7 (by kernel_rfl))
            subst e7
            have c0 : w.cell? ⟨pb, poff + j * 2, none⟩ = some (.slice n1 x.1.length n2) := ((hBw h0).cell (p := ⟨pb, poff + j * 2, none⟩) hpl).trans u0
            go_simp
            exact ⟨b0, b1, b2, b3, b4, b5, b6, b7, true, b9, b10, b11, b12, b13, b14, b15, b16, b17, b18, b19, b20, b21, b22, x25, x26, x27, x28, x29, x30, x31, _, _, x34, x35, x36, x37, x38, x39, x40, x41, x42, x43, x44, x45, x46, rfl, rfl, h0, h1, h2, h3, f0, f1, f2, f3, f4, f5, f6, f7, (fun _ => rfl), f9, f10, f11, f12, f13, f14, f15, f16, f17, f18, f19, f20, f21, f22⟩
          · have gs := ready_pred hi ho 8
            have gr := ready_pred hi ho 2
            have g9' := ready_pred hi ho 9
            obtain rfl := Option.some.inj ho
            have es := f8 (gs (by kernel_rfl))
            have er : b2 = true := gr (by kernel_rfl)
            clear g9'
            subst es er
            have hbi : b9 = false := by simpa using ready_off rfl hi
            have hown := f2 rfl hbi
            have hdr : ∀ q ∈ FB x27, ((b9 = true ∧ q ∈ FB x34) ∨ (b9 = false ∧ true = true ∧ q ∈ FB x27)) := fun q hq => .inr ⟨hbi, rfl, hq⟩
            refine step_appAt (by rfl) (.tmp 27) (.tmp 33) (by rfl) wr.heap.size x27 [] (by rfl) hown (.slice n1 x.1.length n2) x.1 (by rfl) (hy0.keep (hBw h0)) (by simp; omega) h0.size ?_
            intro v' w' ho' hg hat
            rw [List.nil_append] at ho'
            have hF := Frm.ofGrown hg
            have hFS : Frm wr w' (FB (.slice va vn vc) ++ [po]) := h0.more hF (fun q hq => .inr (hown.lt q (by simpa using hq)).1)
            have hkp : ∀ {u : Value} {m : List Int}, Own w wr.heap.size u m → (∀ q ∈ FB u, q ∉ FB x27) → Own w' wr.heap.size u m := fun hu hd => hu.frm hF (fun q hq hq' => hd q hq hq')
            have hlk := h2.frm hF (fun hq => own_notN hown h2 (by simpa using hq))
            have hat' : ∀ q ∈ FB v', q ∈ FB x27 ∨ q = w.heap.size := fun q hq => by
              have hq' : v'.ownBlock = some q := by simpa [FB] using hq
              rcases hat with h | h
              · exact .inl (by rw [h] at hq'; simpa [FB] using hq')
              · rw [h] at hq'; exact .inr (Option.some.inj hq').symm
            refine ⟨b0, b1, true, b3, b4, b5, b6, b7, b8, true, b10, b11, b12, b13, b14, b15, b16, b17, b18, b19, b20, b21, b22, x25, x26, x27, x28, x29, x30, x31, x32, _, _, x35, x36, x37, x38, x39, x40, x41, x42, x43, x44, x45, x46, rfl, rfl, hFS, ?_, hlk, (fun e => OwAttrs.frm (h3 e) hF (fun q hq hq' => by have := hFlt q hq; have := (hown.lt q (by simpa using hq')).1; omega)), f0, f1, (fun _ e => by cases e), f3, f4, f5, f6, f7, f8, (fun _ => ⟨rfl, ho'⟩), (fun h e => hkp (f10 h e) (fun q hq hq' => h1 q (hdr q hq') (.inr ⟨e, h, hq⟩))), f11, f12, f13, f14, f15, f16, (fun h => by have := (f17 h).1.2; rw [hbi] at this; cases this), (fun h => by have := (f18 h).1; rw [hbi] at this; cases this), (fun h => by have := (f18 (f19 h).1).1; rw [hbi] at this; cases this), (fun h => by have := (f17 (f20 h).2.1).1.2; rw [hbi] at this; cases this), f21, f22⟩
            intro q hA hB
            rcases hA with ⟨_, hq⟩ | ⟨e, _⟩
            · rcases hat' q hq with h | h
              · exact h1 q (hdr q h) hB
              · rcases hB with ⟨e, hq⟩ | ⟨e, e', hq⟩
                · have := ((f17 e).2.lt q (by simpa [FB] using hq)).2; omega
                · have := ((f10 e' e).lt q (by simpa [FB] using hq)).2; omega
            · cases e
          · obtain rfl := Option.some.inj ho
            have hbi : b10 = false := by simpa using ready_off rfl hi
            have hb' : Below w.heap.size w (w.alloc (.cells #[] 5)) := (Below.refl _ _).alloc (Nat.le_refl _) _
            go_simp
            refine ⟨b0, b1, b2, b3, b4, b5, b6, b7, b8, b9, true, b11, b12, b13, b14, b15, b16, b17, b18, b19, b20, b21, b22, x25, x26, x27, x28, x29, x30, x31, x32, x33, x34, _, x36, x37, x38, x39, x40, x41, x42, x43, x44, x45, x46, rfl, rfl, h0.trans (Frm.ofBelow hb' _), ?_, h2.all hb', (fun e => OwAttrs.frm (h3 e) (Frm.ofBelow hb' []) (fun _ _ => by simp)), f0, f1, (fun h e => (f2 h e).keep hb'), f3, f4, f5, f6, f7, f8, (fun h => ⟨(f9 h).1, (f9 h).2.keep hb'⟩), (fun _ _ => (own_none w).mono h0.size), f11, f12, f13, f14, f15, f16, (fun h => ⟨⟨rfl, (f17 h).1.2⟩, (f17 h).2.keep hb'⟩), f18, (fun h => by obtain ⟨z0, z, q1, q2, q3⟩ := f19 h; exact ⟨z0, z, q1, q2, q3.all hb'⟩), (fun h => by obtain ⟨z0, z1, g9, cap9, F9, q1, q2, q3, q4⟩ := f20 h; exact ⟨z0, z1, g9, cap9, F9, q1, OwAttrs.frm q2 (Frm.ofBelow hb' []) (fun _ _ => by simp), q3, fun q hq => ⟨(q4 q hq).1, Nat.lt_of_lt_of_le (q4 q hq).2 hb'.size⟩⟩), f21, f22⟩
            intro q hA hB
            rcases hB with ⟨e, hq⟩ | ⟨_, _, hq⟩
            · have := (f17 e).1.1; rw [hbi] at this; cases this
            · have hz : q = w.heap.size := by simpa [FB, Value.ownBlock] using hq
              rcases hA with ⟨e, hq⟩ | ⟨e, e', hq⟩
              · have := ((f9 e).2.lt q (by simpa [FB] using hq)).2; omega
              · have := ((f2 e' e).lt q (by simpa [FB] using hq)).2; omega
          · obtain rfl := Option.some.inj ho
            go_simp
            exact ⟨b0, b1, b2, b3, b4, b5, b6, b7, b8, b9, b10, true, b12, b13, b14, b15, b16, b17, b18, b19, b20, b21, b22, x25, x26, x27, x28, x29, x30, x31, x32, x33, x34, x35, _, x37, x38, x39, x40, x41, x42, x43, x44, x45, x46, rfl, rfl, h0, h1, h2, h3, f0, f1, f2, f3, f4, f5, f6, f7, f8, f9, f10, (fun _ => rfl), f12, f13, f14, f15, f16, f17, f18, f19, f20, f21, f22⟩
          · have g11 := ready_pred hi ho 11
            obtain rfl := Option.some.inj ho
            have e11 := f11 (g11 (by kernel_rfl))
            subst e11
            have c0 : w.cell? ⟨w0.heap.size, 3, none⟩ = some (.slice (some ⟨pb, poff, none⟩) t.attrs.length cd) := (lb.frm h0 hbS).cell 3
            go_simp
            exact ⟨b0, b1, b2, b3, b4, b5, b6, b7, b8, b9, b10, b11, true, b13, b14, b15, b16, b17, b18, b19, b20, b21, b22, x25, x26, x27, x28, x29, x30, x31, x32, x33, x34, x35, _, _, x38, x39, x40, x41, x42, x43, x44, x45, x46, rfl, rfl, h0, h1, h2, h3, f0, f1, f2, f3, f4, f5, f6, f7, f8, f9, f10, f11, (fun _ => rfl), f13, f14, f15, f16, f17, f18, f19, f20, f21, f22⟩
          · obtain rfl := Option.some.inj ho
            go_simp
            exact ⟨b0, b1, b2, b3, b4, b5, b6, b7, b8, b9, b10, b11, b12, true, b14, b15, b16, b17, b18, b19, b20, b21, b22, x25, x26, x27, x28, x29, x30, x31, x32, x33, x34, x35, x36, x37, _, x39, x40, x41, x42, x43, x44, x45, x46, rfl, rfl, h0, h1, h2, h3, f0, f1, f2, f3, f4, f5, f6, f7, f8, f9, f10, f11, f12, (fun _ => rfl), f14, f15, f16, f17, f18, f19, f20, f21, f22⟩
          · have g12 := ready_pred hi ho 12
            have g13 := ready_pred hi ho 13
            obtain rfl := Option.some.inj ho
            have e12 := f12 (g12 (by kernel_rfl))
            subst e12
            have e13 := f13 (g13 (by kernel_rfl))
            subst e13
            go_simp
            exact ⟨b0, b1, b2, b3, b4, b5, b6, b7, b8, b9, b10, b11, b12, b13, true, b15, b16, b17, b18, b19, b20, b21, b22, x25, x26, x27, x28, x29, x30, x31, x32, x33, x34, x35, x36, _, _, _, x40, x41, x42, x43, x44, x45, x46, rfl, rfl, h0, h1, h2, h3, f0, f1, f2, f3, f4, f5, f6, f7, f8, f9, f10, f11, f12, f13, (fun _ => rfl), f15, f16, f17, f18, f19, f20, f21, f22⟩
          · have g14 := ready_pred hi ho 14
            obtain rfl := Option.some.inj ho
            have e14 := f14 (g14 (by kernel_rfl))
            subst e14
            go_simp
            exact ⟨b0, b1, b2, b3, b4, b5, b6, b7, b8, b9, b10, b11, b12, b13, b14, true, b16, b17, b18, b19, b20, b21, b22, x25, x26, x27, x28, x29, x30, x31, x32, x33, x34, x35, x36, x37, x38, _, _, x41, x42, x43, x44, x45, x46, rfl, rfl, h0, h1, h2, h3, f0, f1, f2, f3, f4, f5, f6, f7, f8, f9, f10, f11, f12, f13, f14, (fun _ => rfl), f16, f17, f18, f19, f20, f21, f22⟩
          · have g15 := ready_pred hi ho 15
            obtain rfl := Option.some.inj ho
            have e15 := f15 (g15 (by kernel_rfl))
            subst e15
            have c0 : w.cell? ⟨pb, poff + j * 2 + 1, none⟩ = some (.slice v1 x.2.length v2) := ((hBw h0).cell (p := ⟨pb, poff + j * 2 + 1, none⟩) hpl).trans u1
            go_simp
            exact ⟨b0, b1, b2, b3, b4, b5, b6, b7, b8, b9, b10, b11, b12, b13, b14, b15, true, b17, b18, b19, b20, b21, b22, x25, x26, x27, x28, x29, x30, x31, x32, x33, x34, x35, x36, x37, x38, x39, _, _, x42, x43, x44, x45, x46, rfl, rfl, h0, h1, h2, h3, f0, f1, f2, f3, f4, f5, f6, f7, f8, f9, f10, f11, f12, f13, f14, f15, (fun _ => rfl), f17, f18, f19, f20, f21, f22⟩
          · have gs := ready_pred hi ho 16
            have gr := ready_pred hi ho 10
            have g9' := ready_pred hi ho 9
            obtain rfl := Option.some.inj ho
            have es := f16 (gs (by kernel_rfl))
            have er : b10 = true := gr (by kernel_rfl)
            have e9 : b9 = true := g9' (by kernel_rfl)
            subst es er
            have hbi : b17 = false := by simpa using ready_off rfl hi
            have hown := f10 rfl hbi
            have hdr : ∀ q ∈ FB x35, ((b17 = true ∧ q ∈ FB x42) ∨ (b17 = false ∧ true = true ∧ q ∈ FB x35)) := fun q hq => .inr ⟨hbi, rfl, hq⟩
            refine step_appAt (by rfl) (.tmp 35) (.tmp 41) (by rfl) wr.heap.size x35 [] (by rfl) hown (.slice v1 x.2.length v2) x.2 (by rfl) (hy1.keep (hBw h0)) (by simp; omega) h0.size ?_
            intro v' w' ho' hg hat
            rw [List.nil_append] at ho'
            have hF := Frm.ofGrown hg
            have hFS : Frm wr w' (FB (.slice va vn vc) ++ [po]) := h0.more hF (fun q hq => .inr (hown.lt q (by simpa using hq)).1)
            have hkp : ∀ {u : Value} {m : List Int}, Own w wr.heap.size u m → (∀ q ∈ FB u, q ∉ FB x35) → Own w' wr.heap.size u m := fun hu hd => hu.frm hF (fun q hq hq' => hd q hq hq')
            have hlk := h2.frm hF (fun hq => own_notN hown h2 (by simpa using hq))
            have hat' : ∀ q ∈ FB v', q ∈ FB x35 ∨ q = w.heap.size := fun q hq => by
              have hq' : v'.ownBlock = some q := by simpa [FB] using hq
              rcases hat with h | h
              · exact .inl (by rw [h] at hq'; simpa [FB] using hq')
              · rw [h] at hq'; exact .inr (Option.some.inj hq').symm
            refine ⟨b0, b1, b2, b3, b4, b5, b6, b7, b8, b9, true, b11, b12, b13, b14, b15, b16, true, b18, b19, b20, b21, b22, x25, x26, x27, x28, x29, x30, x31, x32, x33, x34, x35, x36, x37, x38, x39, x40, _, _, x43, x44, x45, x46, rfl, rfl, hFS, ?_, hlk, (fun e => OwAttrs.frm (h3 e) hF (fun q hq hq' => by have := hFlt q hq; have := (hown.lt q (by simpa using hq')).1; omega)), f0, f1, (fun h e => hkp (f2 h e) (fun q hq hq' => h1 q (.inr ⟨e, h, hq⟩) (hdr q hq'))), f3, f4, f5, f6, f7, f8, (fun h => ⟨(f9 h).1, hkp (f9 h).2 (fun q hq hq' => h1 q (.inl ⟨h, hq⟩) (hdr q hq'))⟩), (fun _ e => by cases e), f11, f12, f13, f14, f15, f16, (fun _ => ⟨⟨rfl, e9⟩, ho'⟩), (fun h => by have := (f18 h).2.1; rw [hbi] at this; cases this), (fun h => by have := (f18 (f19 h).1).2.1; rw [hbi] at this; cases this), (fun h => by have := (f20 h).2.1; rw [hbi] at this; cases this), f21, f22⟩
            intro q hA hB
            rcases hB with ⟨_, hq⟩ | ⟨e, _⟩
            · rcases hat' q hq with h | h
              · exact h1 q hA (hdr q h)
              · rcases hA with ⟨e, hq⟩ | ⟨e, e', hq⟩
                · have := ((f9 e).2.lt q (by simpa [FB] using hq)).2; omega
                · have := ((f2 e' e).lt q (by simpa [FB] using hq)).2; omega
            · cases e
          · have g9 := ready_pred hi ho 9
            have g17 := ready_pred hi ho 17
            obtain rfl := Option.some.inj ho
            have e9 : b9 = true := g9 (by kernel_rfl)
            have e17 : b17 = true := g17 (by kernel_rfl)
            subst e9 e17
            have e2 := (f9 rfl).1
            have e10 := (f17 rfl).1.1
            subst e2 e10
            obtain ⟨p4, k4', hv4, _, _⟩ := (f9 rfl).2.byt.shape
            obtain ⟨p5, k5', hv5, _, _⟩ := (f17 rfl).2.byt.shape
            subst hv4 hv5
            have hbi : b18 = false := by simpa using ready_off rfl hi
            go_simp
            exact ⟨b0, b1, true, b3, b4, b5, b6, b7, b8, true, true, b11, b12, b13, b14, b15, b16, true, true, b19, b20, b21, b22, x25, x26, x27, x28, x29, x30, x31, x32, x33, _, x35, x36, x37, x38, x39, x40, x41, _, _, x44, x45, x46, rfl, rfl, h0, h1, h2, h3, f0, f1, f2, f3, f4, f5, f6, f7, f8, f9, f10, f11, f12, f13, f14, f15, f16, f17, (fun _ => ⟨rfl, rfl, rfl⟩), (fun h => by have := (f19 h).1; rw [hbi] at this; cases this), f20, f21, f22⟩
          · have g18 := ready_pred hi ho 18
            obtain rfl := Option.some.inj ho
            have e18 : b18 = true := g18 (by kernel_rfl)
            obtain ⟨e9, e17, e43⟩ := f18 e18
            subst e9 e17 e18 e43
            have e2 := (f9 rfl).1
            have e10 := (f17 rfl).1.1
            subst e2 e10
            obtain ⟨p4, k4', hv4, _, _⟩ := (f9 rfl).2.byt.shape
            obtain ⟨p5, k5', hv5, _, _⟩ := (f17 rfl).2.byt.shape
            subst hv4 hv5
            have hb' : Below w.heap.size w (w.alloc (.cells #[.slice p4 x.1.length k4', .slice p5 x.2.length k5'] 88)) := (Below.refl _ _).alloc (Nat.le_refl _) _
            go_simp
            exact ⟨b0, b1, true, b3, b4, b5, b6, b7, b8, true, true, b11, b12, b13, b14, b15, b16, true, true, true, b20, b21, b22, x25, x26, x27, x28, x29, x30, x31, x32, x33, _, x35, x36, x37, x38, x39, x40, x41, _, _, _, x45, x46, rfl, rfl, h0.trans (Frm.ofBelow hb' _), h1, h2.all hb', (fun e => OwAttrs.frm (h3 e) (Frm.ofBelow hb' []) (fun _ _ => by simp)), f0, f1, (fun _ e => by cases e), f3, f4, f5, f6, f7, f8, (fun _ => ⟨rfl, (f9 rfl).2.keep hb'⟩), (fun _ e => by cases e), f11, f12, f13, f14, f15, f16, (fun _ => ⟨⟨rfl, rfl⟩, (f17 rfl).2.keep hb'⟩), (fun _ => ⟨rfl, rfl, rfl⟩), (fun _ => ⟨rfl, w.heap.size, h0.size, rfl, Loc.made w _ _⟩), (fun h => by obtain ⟨z0, z1, g9, cap9, F9, q1, q2, q3, q4⟩ := f20 h; exact ⟨z0, z1, g9, cap9, F9, q1, OwAttrs.frm q2 (Frm.ofBelow hb' []) (fun _ _ => by simp), q3, fun q hq => ⟨(q4 q hq).1, Nat.lt_of_lt_of_le (q4 q hq).2 hb'.size⟩⟩), f21, f22⟩
          · have g1 := ready_pred hi ho 1
            have g17 := ready_pred hi ho 17
            have g19 := ready_pred hi ho 19
            obtain rfl := Option.some.inj ho
            have e1 : b1 = true := g1 (by kernel_rfl)
            have e17 : b17 = true := g17 (by kernel_rfl)
            have e19 : b19 = true := g19 (by kernel_rfl)
            have e26 := f1 e1
            obtain ⟨e18, z, z1, z2, z3⟩ := f19 e19
            obtain ⟨e9, _, _⟩ := f18 e18
            have hb20 : b20 = false := by simpa using ready_off rfl hi
            have hb22 : b22 = false := by
              cases b22 with
              | false => rfl
              | true => have := f22 rfl; rw [hb20] at this; cases this
            subst e1 e9 e17 e18 e19 e26 z2 hb22
            have o1 := (f9 rfl).2
            have o2 := (f17 rfl).2
            have r1 := o1.mono (Nat.zero_le _)
            have r2 := o2.mono (Nat.zero_le _)
            have hat := h3 hb20
            have hndx : (FB x34 ++ FB x42).Nodup := List.nodup_append.2 ⟨FB_nodup _, FB_nodup _, fun a ha b hb e => h1 a (.inl ⟨rfl, ha⟩) (.inl ⟨rfl, e ▸ hb⟩)⟩
            have hge : ∀ q ∈ FB x34 ++ FB x42, wr.heap.size ≤ q ∧ q < w.heap.size := fun q hq => by
              rcases List.mem_append.1 hq with h | h
              · exact o1.lt q (by simpa [FB] using h)
              · exact o2.lt q (by simpa [FB] using h)
            have hszw := h0.size
            refine step_push (R := OwAttr) (fun h f d => OwAttr.frm h f d) (by rfl) (.tmp 26) (.tmp 44) 29 (by rfl) 88 i0 (.agg #[.slice none 0 0, .slice none 0 0]) 2 48 Try.underlying29 hi0 hz0 hz1 hz2 rfl (by decide) _ (t.attrs.take j) Fa (by rfl) hat hNd ⟨z, 0, none⟩ 1 [x34, x42] x (FB x34 ++ FB x42) (by rfl) rfl (fun i u hu => World.news_of_block z3 i u (by simpa using hu)) (by intro y hy; obtain ⟨p4, k4', hv4, _, _⟩ := o1.byt.shape; obtain ⟨p5, k5', hv5, _, _⟩ := o2.byt.shape; simp at hy; rcases hy with rfl | rfl; (rw [hv4]; rfl); (rw [hv5]; rfl)) ⟨x34, x42, rfl, r1, r2, rfl⟩ hndx (fun g hg hg' => by have := hFlt g hg; have := (hge g hg').1; omega) (fun q hq => by rcases hq with hq | hq; (have := hFlt q hq; omega); (exact (hge q hq).2)) (by rw [List.length_take]; unfold maxLen; omega) (by rw [List.length_take]; omega) ?_
            intro g9 cap9 w' F9 hF9 hN9 hM9 hf9 hg9
            have hjl9 : (t.attrs.take j).length + 1 = j + 1 := by rw [List.length_take]; omega
            rw [hjl9] at hF9 ⊢
            have hpv : po ∉ FB (.slice va vn vc) := fun h => (hO.rng po (by simp only [List.mem_append]; exact .inl (.inr (hvF po h)))).2.2 rfl
            have hdv : ∀ q, wr.heap.size ≤ q → q ∉ FB (.slice va vn vc) := fun q hq h => by have := hFlt q (hvF q h); omega
            have hkw : ∀ q ∈ F9, (q ∈ Fa ∨ wr.heap.size ≤ q) ∧ q < w'.heap.size := fun q hq => by
              refine ⟨?_, OwAttrs.lt hF9 q hq⟩
              rcases hM9 q hq with h | h | h
              · exact .inl h
              · exact .inr (hge q h).1
              · right; omega
            exact ⟨b0, true, b2, b3, b4, b5, b6, b7, b8, true, b10, b11, b12, b13, b14, b15, b16, true, true, true, true, b21, false, x25, _, x27, x28, x29, x30, x31, x32, x33, x34, x35, x36, x37, x38, x39, x40, x41, x42, x43, _, _, x46, rfl, rfl, h0.more hf9 (fun q hq => .inl (List.mem_append_left _ hq)), h1, h2.frm hf9 hpv, (fun e => by cases e), f0, f1, (fun _ e => by cases e), f3, f4, f5, f6, f7, f8, (fun _ => ⟨(f9 rfl).1, o1.frm hf9 (fun q hq => hdv q (o1.lt q (by simpa [FB] using hq)).1)⟩), (fun _ e => by cases e), f11, f12, f13, f14, f15, f16, (fun _ => ⟨(f17 rfl).1, o2.frm hf9 (fun q hq => hdv q (o2.lt q (by simpa [FB] using hq)).1)⟩), (fun _ => ⟨rfl, rfl, (f18 rfl).2.2⟩), (fun _ => ⟨rfl, z, z1, rfl, z3.frm hf9 (hdv z z1)⟩), (fun _ => ⟨rfl, rfl, g9, cap9, F9, rfl, hF9, hN9, hkw⟩), f21, (fun _ => rfl)⟩
          · obtain rfl := Option.some.inj ho
            go_simp
            exact ⟨b0, b1, b2, b3, b4, b5, b6, b7, b8, b9, b10, b11, b12, b13, b14, b15, b16, b17, b18, b19, b20, true, b22, x25, x26, x27, x28, x29, x30, x31, x32, x33, x34, x35, x36, x37, x38, x39, x40, x41, x42, x43, x44, x45, _, rfl, rfl, h0, h1, h2, h3, f0, f1, f2, f3, f4, f5, f6, f7, f8, f9, f10, f11, f12, f13, f14, f15, f16, f17, f18, f19, f20, (fun _ => rfl), f22⟩
          · have g21 := ready_pred hi ho 21
            have g20 := ready_pred hi ho 20
            obtain rfl := Option.some.inj ho
            have e20 : b20 = true := g20 (by kernel_rfl)
            have e46 := f21 (g21 (by kernel_rfl))
            have hb22 : b22 = false := by simpa using ready_off rfl hi
            subst e20 e46 hb22
            obtain ⟨e1, e17, g9, cap9, F9, q1, q2, q3, q4⟩ := f20 rfl
            subst e1 e17 q1
            have e26 := f1 rfl
            subst e26
            have e9 := (f17 rfl).1.2
            subst e9
            have e2 := (f9 rfl).1
            have e10 := (f17 rfl).1.1
            subst e2 e10
            replace h2 : Loc w po #[.int .i64 t.kind, .slice p2 t.name.length k2', .slice p3 t.text.length k3', .slice va vn vc, .slice none 0 0] 32 := h2
            have c0 : w.cell? ⟨po, 3, none⟩ = some (.slice va vn vc) := h2.cell 3
            have z0 := h2.frozen 3
            have fs := Frm.set w po 3 (.slice (some ⟨g9, 0, none⟩) (j + 1) cap9)
            have o1 := (f9 rfl).2.frm fs (fun q hq hq' => own_notN (f9 rfl).2 h2 (by have e : q = po := (by simpa using hq'); rw [← e]; simpa [FB] using hq))
            have o2 := (f17 rfl).2.frm fs (fun q hq hq' => own_notN (f17 rfl).2 h2 (by have e : q = po := (by simpa using hq'); rw [← e]; simpa [FB] using hq))
            have q2' := OwAttrs.frm q2 fs (fun q hq hq' => attrs_notN q2 h2 (by have e : q = po := (by simpa using hq'); rw [← e]; exact hq))
            have h2' := h2.set 3 (.slice (some ⟨g9, 0, none⟩) (j + 1) cap9)
            have k19 : b19 = true → b18 = true ∧ ∃ z, wr.heap.size ≤ z ∧ x44 = .slice (some ⟨z, 0, none⟩) 1 1 ∧ Loc (w.setCell ⟨po, 3, none⟩ (.slice (some ⟨g9, 0, none⟩) (j + 1) cap9)) z #[x34, x42] 88 := fun h => by
              obtain ⟨a1, z, a2, a3, a4⟩ := f19 h
              refine ⟨a1, z, a2, a3, a4.other po 3 _ (fun e => ?_)⟩
              subst e
              unfold Loc at a4 h2
              rw [a4] at h2
              injection h2 with h2
              injection h2 with _ h2
              revert h2
              decide
            go_simp
            exact ⟨b0, true, true, b3, b4, b5, b6, b7, b8, true, true, b11, b12, b13, b14, b15, b16, true, b18, b19, true, b21, true, x25, _, x27, x28, x29, x30, x31, x32, x33, x34, x35, x36, x37, x38, x39, x40, x41, x42, x43, x44, _, _, rfl, rfl, h0.trans (fs.mono (fun q hq => List.mem_append_right _ hq)), h1, h2', (fun e => by cases e), f0, f1, (fun _ e => by cases e), f3, f4, f5, f6, f7, f8, (fun _ => ⟨rfl, o1⟩), (fun _ e => by cases e), f11, f12, f13, f14, f15, f16, (fun _ => ⟨⟨rfl, rfl⟩, o2⟩), (fun h => ⟨rfl, rfl, (f18 h).2.2⟩), k19, (fun _ => ⟨rfl, rfl, g9, cap9, F9, rfl, q2', q3, fun q hq => ⟨(q4 q hq).1, Nat.lt_of_lt_of_le (q4 q hq).2 fs.size⟩⟩), f21, (fun _ => rfl)⟩
-- Ts5step>>
        case dn5 =>
          intro L a w3 hI hre
          have hall := ready_all (L := L) (by obtain ⟨b0, b1, b2, b3, b4, b5, b6, b7, b8, b9, b10, b11, b12, b13, b14, b15, b16, b17, b18, b19, b20, b21, b22, x25, x26, x27, x28, x29, x30, x31, x32, x33, x34, x35, x36, x37, x38, x39, x40, x41, x42, x43, x44, x45, x46, rfl, _⟩ := hI; rfl) (by kernel_rfl) hre 23
          obtain ⟨b0, b1, b2, b3, b4, b5, b6, b7, b8, b9, b10, b11, b12, b13, b14, b15, b16, b17, b18, b19, b20, b21, b22, x25, x26, x27, x28, x29, x30, x31, x32, x33, x34, x35, x36, x37, x38, x39, x40, x41, x42, x43, x44, x45, x46, rfl, rfl, h0, h1, h2, h3, f0, f1, f2, f3, f4, f5, f6, f7, f8, f9, f10, f11, f12, f13, f14, f15, f16, f17, f18, f19, f20, f21, f22⟩ := hI
          have s20 : b20 = true := hall 20 (by omega) (by decide)
          have s22 : b22 = true := hall 22 (by omega) (by decide)
          subst s20 s22
          obtain ⟨_, _, g9, cap9, F9, q1, q2, q3, q4⟩ := f20 rfl
          subst q1
          replace h2 : Loc w3 po #[.int .i64 t.kind, .slice p2 t.name.length k2', .slice p3 t.text.length k3', .slice (some ⟨g9, 0, none⟩) (j + 1) cap9, .slice none 0 0] 32 := h2
          have hO3 := hO.setAttrs h0 (fun q hq hq' => by
            rcases List.mem_append.1 hq' with h | h
            · obtain ⟨n1, n2, n3⟩ := List.nodup_append.1 hO.nodup
              obtain ⟨n4, n5, n6⟩ := List.nodup_append.1 n1
              rcases List.mem_append.1 hq with hq | hq
              · exact n6 q hq q (hvF q h) rfl
              · cases hq
            · have e : q = po := by simpa using h
              rcases List.mem_append.1 hq with hq | hq
              · exact (hO.rng q (by simp only [List.mem_append] at hq ⊢; exact .inl (.inl hq))).2.2 e
              · cases hq) h2 q2 q3 q4 hlo
          rw [← unhide HTK] at hO3
          have hB3 := hBw h0
          have lb3 := lb.frm h0 hbS
          have lr3 := lr.frm h0 (fun h => by
            rcases List.mem_append.1 h with h | h
            · have := (hO.rng _ (by simp only [List.mem_append]; exact .inl (.inr (hvF _ h)))).1; omega
            · have e : w0.heap.size + 1 = po := by simpa using h
              omega)
          have hlo3 := Nat.le_trans hlo h0.size
          have HO3 := hide hO3
          clear hall f0 f1 f2 f3 f4 f5 f6 f7 f8 f9 f10 f11 f12 f13 f14 f15 f16 f17 f18 f19 f20 f21 f22 h0 h1 h2 h3 q2 q3 q4 hO hO3 hre
          go_wp2_with fail
          go_roundw
          case rel => exact ⟨j + 1, by omega, by go_num, _, _, _, F9, unhide HO3, hB3, lb3, lr3, hlo3⟩
          case measure => simp [intOf]; omega
      · have hje : t.attrs.take j = t.attrs := List.take_of_length_le (by omega)
        rw [hje] at hO
        have hjn : ¬ (j : Int) < (t.attrs.length : Int) := by omega
        have hway0 : WayS n [] ((t.kids.map (mb n)).drop 0) (t.kids.map (mb n)) := by
          refine ⟨rfl, ?_⟩
          have h1 := kids_wtJ n t.kids
          have h2 := unhide HSZ
          simp only [List.length_nil, List.drop_zero]
          omega
        have HWY := hide hway0
        have HMS : Hid (∀ j (h : j < t.kids.length), (t.kids.map (mb n)).drop j = mb n t.kids[j] :: (t.kids.map (mb n)).drop (j + 1)) := fun j h => by
          rw [List.drop_eq_getElem_cons (by simpa using h)]
          simp
        generalize hms : t.kids.map (mb n) = ms at *
        obtain ⟨i0, hi0, hz0, hz1, hz2⟩ := info_parts Try.info32
        clear hway0 hje hd HAX
        go_wp2_with fail
        go_loopw [5] (fun i wr => ∃ j : Nat, j ≤ t.kids.length ∧ i = .int .i64 j ∧ ∃ A ka km kc Fk, OutAt n w1.heap.size wr po t.kind (.slice p2 t.name.length k2') (.slice p3 t.text.length k3') (.slice va vn vc) (.slice ka km kc) t.name t.text t.attrs (A.map (unMb n)) Fa Fk ∧ Hid (WayS n A (ms.drop j) ms) ∧ Hid (∀ k, .inl k ∈ A → k.kind ≠ 1) ∧ Below w0.heap.size w0 wr ∧ Loc wr w0.heap.size #[.int .i64 t.kind, .slice ab t.name.length cb, .slice ac t.text.length cc, .slice ad t.attrs.length cd, .slice ae t.kids.length ce] 32 ∧ Loc wr (w0.heap.size + 1) #[.int .i64 0, .slice none 0 0, .slice none 0 0, .slice none 0 0, .slice none 0 0] 32 ∧ w1.heap.size ≤ wr.heap.size) (fun i _ => t.kids.length - (intOf i).toNat)
        case atStart => exact ⟨0, Nat.zero_le _, rfl, [], none, 0, 0, [], hO, unhide HWY, (fun k hk => by cases hk), hBr, lb, lr, hlo⟩
        case round =>
          clear hO hBr lb lr hlo HWY c3 hjn
          obtain ⟨j, hj, rfl, A, ka, km, kc, Fk, hO, hway, hkin, hBr, lb, lr, hlo⟩ := hrel
          have hndk : Fk.Nodup := (List.nodup_append.1 hO.nodup).2.1
          have hFlt : ∀ q ∈ Fk, q < wr.heap.size := fun q hq => (hO.rng q (List.mem_append_right _ hq)).2.1
          have hFlo : ∀ q ∈ Fk, w1.heap.size ≤ q := fun q hq => (hO.rng q (List.mem_append_right _ hq)).1
          have hpF : po ∉ Fk := fun h => (hO.rng po (List.mem_append_right _ h)).2.2 rfl
          have hdF : ∀ q ∈ FB (.slice p2 t.name.length k2') ++ FB (.slice p3 t.text.length k3') ++ Fa, q ∉ Fk := fun q hq hq' => (List.nodup_append.1 hO.nodup).2.2 q hq q hq' rfl
          have hkvF : ∀ q ∈ FB (.slice ka km kc), q ∈ Fk := fun q hq => by
            obtain ⟨_, _, _, _, _, _, rfl⟩ := hO.kids
            exact List.mem_append_left _ hq
          have hbF : w0.heap.size ∉ Fk := fun h => by have := hFlo _ h; omega
          have hrF : w0.heap.size + 1 ∉ Fk := fun h => by have := hFlo _ h; omega
          have hpo := hO.loc.lt
          have c4 : wr.cell? ⟨w0.heap.size, 4, none⟩ = some (.slice ae t.kids.length ce) := lb.cell 4
          by_cases hjl : j < t.kids.length
          · have hway' := unhide hway
            rw [unhide HMS j hjl] at hway'
            obtain ⟨pb, poff, hpa, hpl, hun, _, hC⟩ := he.at hjl
            clear hun
            subst hpa
            obtain ⟨kid, hkid⟩ : ∃ kid, kid = t.kids[j] := ⟨_, rfl⟩
            have hmem : kid ∈ t.kids := by rw [hkid]; exact List.getElem_mem hjl
            obtain ⟨d0, d1, d2, d3, d4, e0, e1, e2, e3, e4, hx⟩ := five_of hC
            rw [← hkid] at hx hway'
            replace e0 := (hBr.cell (p := ⟨pb, poff + j * 5, none⟩) hpl).trans e0
            replace e1 := (hBr.cell (p := ⟨pb, poff + j * 5 + 1, none⟩) hpl).trans e1
            replace e2 := (hBr.cell (p := ⟨pb, poff + j * 5 + 2, none⟩) hpl).trans e2
            replace e3 := (hBr.cell (p := ⟨pb, poff + j * 5 + 3, none⟩) hpl).trans e3
            replace e4 := (hBr.cell (p := ⟨pb, poff + j * 5 + 4, none⟩) hpl).trans e4
            obtain ⟨_, _, _, _, ee, kk1, kk2, hkb, hkc, hkd, hke⟩ := id hx
            simp only [List.cons.injEq, and_true] at ee
            obtain ⟨rfl, rfl, rfl, rfl, rfl⟩ := ee
            obtain ⟨ab', cb', rfl, _, _⟩ := hkb.shape
            obtain ⟨ac', cc', rfl, _, _⟩ := hkc.shape
            obtain ⟨ad', cd', rfl, _, _⟩ := Elems.shape hkd
            obtain ⟨ae', ce', rfl, _, _⟩ := Elems.shape hke
            have hksz : szT (n + 1) kid + 1 ≤ szT (n + 2) t := sz_kid hmem
            have hjl' : (j : Int) < (t.kids.length : Int) := by omega
            have hBa : Below wr.heap.size wr (wr.alloc (.cells #[.int .i64 kid.kind, .slice ab' kid.name.length cb', .slice ac' kid.text.length cc', .slice ad' kid.attrs.length cd', .slice ae' kid.kids.length ce'] 32)) := (Below.refl _ _).alloc (Nat.le_refl _) _
            have lk := Loc.made wr #[.int .i64 kid.kind, .slice ab' kid.name.length cb', .slice ac' kid.text.length cc', .slice ad' kid.attrs.length cd', .slice ae' kid.kids.length ce'] 32
            have hOa := hO.keep hBa
            have hBw := bstep hBr hBa
            have lra := lr.all hBa
            have lba := lb.all hBa
            have HX := hide hx
            have HKM := hide hmem
            have hloa := Nat.le_trans hlo hBa.size
            have hnk : wr.heap.size ≠ po := by omega
            have hkF : wr.heap.size ∉ Fk := fun h => by have := hFlt _ h; omega
            obtain ⟨y0, y1, y2, y3, y4⟩ := lk.five
            clear hC hO lr lb hx hmem hkid hway HMS he
            have c4 : wr.cell? ⟨w0.heap.size, 4, none⟩ = some (.slice (some ⟨pb, poff, none⟩) t.kids.length ce) := c4
            by_cases hz : kid.kind = 1
            · have dz : (kid.kind == 1) = true := by simpa using hz
              have e : mb n kid = .inr kid.text := by unfold mb; rw [if_pos hz]
              rw [e] at hway'
              obtain ⟨hlen, hw2⟩ := hway'.text
              have HWY := hide hw2
              have HP := hide (join_any n _ (.slice ka km kc) _ A Fk kid.text ⟨hOa.kids, hndk, unhide hkin⟩ (fun q hq => (hOa.rng q (List.mem_append_right _ hq)).2.1) (fun w' fr => hkc.keep (hBw.trans (fr.below hBw.size (fun q hq => by have := hFlo q hq; omega)))) (by omega))
              have y4o := hOa.loc.cell 4
              have y4p : (wr.alloc (.cells #[.int .i64 kid.kind, .slice ab' kid.name.length cb', .slice ac' kid.text.length cc', .slice ad' kid.attrs.length cd', .slice ae' kid.kids.length ce'] 32)).cell? ⟨po, 4, none⟩ = some (.slice ka km kc) := y4o
              clear hz hw2 hway' e hkin y4o
              go_wp2_with fail
              refine (unhide HP).mono ?_
              clear HP
              rintro e w5 ⟨v5, rfl, F5, hJ5, hF5, fr5⟩
              have hO5 := hOa.setKids fr5 hpF hdF hJ5.1 hJ5.2.1 hF5 hloa
              have hl5 := hOa.loc.frm fr5 hpF
              obtain ⟨a5, c5, hv5, _⟩ := jn_shape hJ5
              have hk5 := hJ5.2.2
              generalize (joinL A kid.text).length = n5 at hv5
              subst hv5
              have u4 : w5.cell? ⟨po, 4, none⟩ = some (.slice ka km kc) := hl5.cell 4
              have v4 := hl5.frozen 4
              have hB5 : Below w0.heap.size w0 w5 := hBw.trans (fr5.below hBw.size (fun q hq => by have := hFlo q hq; omega))
              have hBX := hB5.setCell (p := ⟨po, 4, none⟩) (by show w0.heap.size ≤ po; omega) (.slice a5 n5 c5)
              have lb5 := (lba.frm fr5 hbF).other po 4 (.slice a5 n5 c5) hpb
              have lr5 := (lra.frm fr5 hrF).other po 4 (.slice a5 n5 c5) hpr
              have hlo5 : w1.heap.size ≤ (w5.setCell ⟨po, 4, none⟩ (.slice a5 n5 c5)).heap.size := by
                have h1 := fr5.size
                simp only [World.size_setCell]
                omega
              have HO5 := hide hO5
              have HK5 := hide hk5
              clear hO5 hOa hJ5 hF5 fr5 hk5 y0 y1 y2 y3 y4 e0 e1 e2 e3 e4
              go_wp2_with fail
              go_roundw
              case rel => exact ⟨j + 1, by omega, by go_num, _, _, _, _, F5, unhide HO5, unhide HWY, HK5, hBX, lb5, lr5, hlo5⟩
              case measure => simp [intOf]; omega
            · have dz : (kid.kind == 1) = false := by simpa using hz
              have e : mb n kid = .inl (tidyT (n + 1) kid) := by unfold mb; rw [if_neg hz]
              rw [e] at hway'
              obtain ⟨hlen, hw2⟩ := hway'.elem
              have HWY := hide hw2
              have HK := hide (H kid (unhide HKM) hz)
              have HS6 := hide (show szT (n + 1) kid ≤ 2097152 by omega)
              have hkin2 : Hid (∀ k, Sum.inl k ∈ A ++ [(Sum.inl (tidyT (n + 1) kid) : Mb (Tr (n + 1)))] → k.kind ≠ 1) := fun k hk => by
                rcases List.mem_append.1 hk with h | h
                · exact unhide hkin k h
                · have e : k = tidyT (n + 1) kid := by simpa using h
                  rw [e, tidyT_kind]; exact hz
              clear hz hw2 hway' e H
              go_wp2_with fail
              generalize (wr.alloc (.cells #[.int .i64 kid.kind, .slice ab' kid.name.length cb', .slice ac' kid.text.length cc', .slice ad' kid.attrs.length cd', .slice ae' kid.kids.length ce'] 32)) = wa at *
              have hdr : Below wa.heap.size wa wa.drew := (Below.refl _ _).drew
              have hOd := hOa.keep hdr
              have lkd := lk.all hdr
              have hBd := hBw.drew
              have c4d : wa.drew.cell? ⟨po, 4, none⟩ = some (.slice ka km kc) := hOd.loc.cell 4
              have k0 : wa.drew.cell? ⟨wr.heap.size, 0, none⟩ = some (.int .i64 kid.kind) := lkd.cell 0
              have k1 : wa.drew.cell? ⟨wr.heap.size, 1, none⟩ = some (.slice ab' kid.name.length cb') := lkd.cell 1
              have k2 : wa.drew.cell? ⟨wr.heap.size, 2, none⟩ = some (.slice ac' kid.text.length cc') := lkd.cell 2
              have k3 : wa.drew.cell? ⟨wr.heap.size, 3, none⟩ = some (.slice ad' kid.attrs.length cd') := lkd.cell 3
              have k4 : wa.drew.cell? ⟨wr.heap.size, 4, none⟩ = some (.slice ae' kid.kids.length ce') := lkd.cell 4
              have he2 : ∀ args w, (callFunc 38 args).run Try.prog w = .ok (.enter 38 args) w := enters_of Try.func38 (by kernel_rfl) rfl
              clear y0 y1 y2 y3 y4
              go_region_law
                (first
                  | (refine step_call (by rfl) 38 [.tmp 70] #[32] (by rfl) he2 [.agg #[.int .i64 kid.kind, .slice ab' kid.name.length cb', .slice ac' kid.text.length cc', .slice ad' kid.attrs.length cd', .slice ae' kid.kids.length ce']] (by rfl) (unhide HK wa.drew _ _ _ _ _ ((unhide HX).keep hBd) (unhide HS6)) ?_; clear HK; rintro e w7 ⟨kd, a1, n1, c1, a2, n2, c2, a3, n3, c3, a4, n4, cz, rfl, G, hG, ndG, rG, hB7⟩; have c47 : w7.cell? ⟨po, 4, none⟩ = some (.slice ka km kc) := (hOd.loc.all hB7).cell 4; have hb8 : Below w7.heap.size w7 (w7.alloc (.cells #[.int .i64 kd, .slice a1 n1 c1, .slice a2 n2 c2, .slice a3 n3 c3, .slice a4 n4 cz] 32)) := (Below.refl _ _).alloc (Nat.le_refl _) _; have c48 : (w7.alloc (.cells #[.int .i64 kd, .slice a1 n1 c1, .slice a2 n2 c2, .slice a3 n3 c3, .slice a4 n4 cz] 32)).cell? ⟨po, 4, none⟩ = some (.slice ka km kc) := ((hOd.loc.all hB7).all hb8).cell 4; refine ⟨_, rfl, ?_⟩)
                  | (refine step_push (R := OwNode (n + 1)) (fun h f d => OwNode.frm h f d) (by rfl) (.tmp 69) (.tmp 72) 30 (by rfl) 32 i0 (.agg #[.int .i64 0, .slice none 0 0, .slice none 0 0, .slice none 0 0, .slice none 0 0]) 5 104 Try.underlying30 hi0 hz0 hz1 hz2 rfl (by decide) _ (A.map (unMb n)) Fk (by rfl) (((hOd.keep hB7).keep hb8).kids) hndk ⟨w7.heap.size, 0, none⟩ 1 [.int .i64 kd, .slice a1 n1 c1, .slice a2 n2 c2, .slice a3 n3 c3, .slice a4 n4 cz] (tidyT (n + 1) kid) G (by rfl) rfl (five_lies w7 _ _ _ _ _ _) (by intro y hy; simp at hy; rcases hy with rfl | rfl | rfl | rfl | rfl <;> rfl) (hG.keep hb8) ndG (fun g hg hg' => by have h1 := (hOd.rng g (List.mem_append_right _ hg)).2.1; have := (rG g hg').1; omega) (fun q hq => by have h1 := hB7.size; have h2 := hb8.size; rcases hq with hq | hq; (have := (hOd.rng q (List.mem_append_right _ hq)).2.1; omega); (have := (rG q hq).2; omega)) (by rw [List.length_map]; unfold maxLen; omega) (by rw [List.length_map]; omega) ?_; intro g9 cap9 w9 F9 hF9 hN9 hM9 hf9 hg9; generalize ((A.map (unMb n)).length + 1) = n9 at hF9 ⊢; have hf9' : Frm wa.drew w9 Fk := ((Frm.ofBelow (bstep hB7 hb8) Fk)).more hf9 (fun q hq => .inl (hkvF q hq)); have c49 : w9.cell? ⟨po, 4, none⟩ = some (.slice ka km kc) := (hOd.loc.frm hf9' hpF).cell 4; have z49 := (hOd.loc.frm hf9' hpF).frozen 4))
              all_goals
                have hfq : ∀ q ∈ F9, (q ∈ Fk ∨ wa.drew.heap.size ≤ q) ∧ q < w9.heap.size := fun q hq => by
                  refine ⟨?_, OwElems.lt hF9 (fun C x G h => OwNode.lt h) q hq⟩
                  have s7 := hB7.size
                  rcases hM9 q hq with h | h | h
                  · exact .inl h
                  · have := (rG q h).1; right; omega
                  · right; simp only [World.size_alloc] at h; omega
                have hO9 := hOd.setKids hf9' hpF hdF hF9 hN9 hfq hloa
                have hB9 : Below w0.heap.size w0 w9 := hBd.trans (hf9'.below hBd.size (fun q hq => by have := hFlo q hq; omega))
                have hBX := hB9.setCell (p := ⟨po, 4, none⟩) (by show w0.heap.size ≤ po; omega) (.slice (some ⟨g9, 0, none⟩) n9 cap9)
                have lb9 := ((lba.all hdr).frm hf9' hbF).other po 4 (.slice (some ⟨g9, 0, none⟩) n9 cap9) hpb
                have lr9 := ((lra.all hdr).frm hf9' hrF).other po 4 (.slice (some ⟨g9, 0, none⟩) n9 cap9) hpr
                have hlo9 : w1.heap.size ≤ (w9.setCell ⟨po, 4, none⟩ (.slice (some ⟨g9, 0, none⟩) n9 cap9)).heap.size := by
                  have h1 := hf9'.size
                  have h2 : wa.heap.size = wa.drew.heap.size := rfl
                  simp only [World.size_setCell]
                  omega
                have HO9 := hide (show OutAt n w1.heap.size (w9.setCell ⟨po, 4, none⟩ (.slice (some ⟨g9, 0, none⟩) n9 cap9)) po t.kind (.slice p2 t.name.length k2') (.slice p3 t.text.length k3') (.slice va vn vc) (.slice (some ⟨g9, 0, none⟩) n9 cap9) t.name t.text t.attrs ((A ++ [(Sum.inl (tidyT (n + 1) kid) : Mb (Tr (n + 1)))]).map (unMb n)) Fa F9 by
                  rw [List.map_append]
                  exact hO9)
                clear hO9 hOd hOa
                go_wp2_with fail
                go_roundw
                case rel => exact ⟨j + 1, by omega, by go_num, _, _, _, _, F9, unhide HO9, unhide HWY, hkin2, hBX, lb9, lr9, hlo9⟩
                case measure => simp [intOf]; omega
          · have hwl : WayS n A [] ms := by
              have := unhide hway
              rwa [List.drop_of_length_le (by rw [← hms]; simp; omega)] at this
            have htree : tidyT (n + 2) t = (⟨t.kind, t.name, t.text, t.attrs, A.map (unMb n)⟩ : Nd (Tr (n + 1))) := by
              rw [tidyT_two, hms, ← tidy_one, ← hwl.1]
              rfl
            have HT := hide htree
            have hjl' : ¬ (j : Int) < (t.kids.length : Int) := by omega
            obtain ⟨y0', y1', y2', y3', y4'⟩ := hO.loc.five
            obtain ⟨g0, g1, g2, g3, g4⟩ := lr.five
            have i0' := lr.frozen 0
            have i1' := lr.frozen 1
            have i2' := lr.frozen 2
            have i3' := lr.frozen 3
            have i4' := lr.frozen 4
            obtain ⟨lX, fX⟩ := store5 lr (.int .i64 t.kind) (.slice p2 t.name.length k2') (.slice p3 t.text.length k3') (.slice va vn vc) (.slice ka km kc)
            have hOX := hO.frm fX (by simpa using fun e => hpr e.symm) (fun q hq hq' => by
              have := (hO.rng q hq).1
              have e : q = w0.heap.size + 1 := by simpa using hq'
              omega)
            have hBX := hBr.trans (fX.below hBr.size (fun q hq => by have e : q = w0.heap.size + 1 := (by simpa using hq); omega))
            have fin := hOX.node k1 k2
            have HF := hide (And.intro fin (And.intro hOX.nodup (And.intro hOX.rng hBX)))
            clear fin hOX hBX fX hO htree hwl hway HMS he H
            go_wp2_with fail
            obtain ⟨fin, nd, rg, bel⟩ := unhide HF
            exact bodyPost_ret (v := .agg #[.int .i64 t.kind, .slice p2 t.name.length k2', .slice p3 t.text.length k3', .slice va vn vc, .slice ka km kc]) (by simp [results, Try.results38, go_sem, g0, g1, g2, g3, g4]) rfl ⟨t.kind, p2, _, k2', p3, _, k3', va, vn, vc, ka, km, kc, rfl, _, by rw [unhide HT]; exact fin, nd, fun q hq => ⟨by have := (rg q hq).1; omega, (rg q hq).2.1⟩, bel⟩
end Go.Proofs.Yteioihjgjbjmjaa

/- The law's own helper that holds two rows of bytes against each other, by its contract. -/
namespace Go.Proofs.Yteioihjgjbjmjaa
open Go.RowKit
set_option linter.unusedVariables false

theorem take_eq_step {a b : List Int} {k : Nat} (h : a.take k = b.take k) (ha : k < a.length) (hb : k < b.length) (e : a[k] = b[k]) : a.take (k + 1) = b.take (k + 1) := by
  rw [List.take_succ_eq_append_getElem ha, List.take_succ_eq_append_getElem hb, h, e]
theorem decide_ne {a b : List Int} {k : Nat} (ha : k < a.length) (hb : k < b.length) (e : a[k] ≠ b[k]) : decide (a = b) = false := by
  simp only [decide_eq_false_iff_not]
  intro h; subst h; exact e rfl

set_option maxHeartbeats 1600000 in
set_option maxRecDepth 1000000 in
theorem eqB_any (w : World) (u v : Value) (a b : List Int) (hu : Byt w u a) (hv : Byt w v b) :
    Calls Try.prog 20 #[u, v] w fun e w' => e = .returned (.bool (decide (a = b))) ∧ Below w.heap.size w w' := by
  have hma := hu.2.1
  have hmb := hv.2.1
  unfold maxLen at hma hmb
  by_cases hl : a.length = b.length
  · by_cases h0 : a.length = 0
    · have ha : a = [] := List.eq_nil_of_length_eq_zero h0
      have hb : b = [] := List.eq_nil_of_length_eq_zero (by omega)
      subst ha hb
      obtain ⟨a1, c1, rfl, _⟩ := hu.shape
      obtain ⟨a2, c2, rfl, _⟩ := hv.shape
      go_enter Try.func20, Try.ntmps20
      go_wp2
      refine wp_loop_rounds 1 ?_
      rw [rounds_succ]
      go_wp2
      go_ret
      exact ⟨rfl, Below.refl _ _⟩
    · obtain ⟨hoka, _, ⟨rfl, rfl⟩ | ⟨x, cap, rfl, hc, rfl⟩ | ⟨p, off, cap, rfl, h1, h2, h3, h4, h5⟩⟩ := hu
      · simp at h0
      · simp at h0
      obtain ⟨hokb, _, ⟨rfl, rfl⟩ | ⟨x, cap, rfl, hc, rfl⟩ | ⟨q, off', cap', rfl, g1, g2, g3, g4, g5⟩⟩ := hv
      · simp at hl; simp [hl] at h0
      · simp at hl; simp [hl] at h0
      generalize hA : a.length = n at *
      have HL := hide hl
      clear hl
      rw [← unhide HL]
      go_enter Try.func20, Try.ntmps20
      go_wp2
      go_loopw [5] (fun i wr => ∃ k : Nat, k ≤ n ∧ i = .int .i64 k ∧ Hid (a.take k = b.take k) ∧ Below w.heap.size w wr) (fun i _ => n - (intOf i).toNat)
      case atStart => exact ⟨0, Nat.zero_le _, rfl, hide rfl, Below.refl _ _⟩
      case round =>
        obtain ⟨k, hk, rfl, ht, hB⟩ := hrel
        by_cases hlt : k < n
        · obtain ⟨x, hx⟩ : ∃ x, x = a.getD k 0 := ⟨_, rfl⟩
          obtain ⟨y, hy⟩ : ∃ y, y = b.getD k 0 := ⟨_, rfl⟩
          have c1 : wr.cell? ⟨p, off + k, none⟩ = some (.int .u8 x) := by rw [hx]; exact (hB.cell (p := ⟨p, off + k, none⟩) h4).trans (h5 k hlt)
          have c2 : wr.cell? ⟨q, off' + k, none⟩ = some (.int .u8 y) := by rw [hy]; exact (hB.cell (p := ⟨q, off' + k, none⟩) g4).trans (g5 k (by have := unhide HL; omega))
          have hka : k < a.length := by omega
          have hkb : k < b.length := by have := unhide HL; omega
          rw [getD_at hka] at hx
          rw [getD_at hkb] at hy
          have HX := hide hx
          have HY := hide hy
          have hlt' : (k : Int) < (n : Int) := by omega
          clear hx hy h5 g5
          by_cases hxy : x = y
          · have hne : (x != y) = false := by simp [hxy]
            clear hxy
            go_wp2
            go_quiet (fail)
            go_wp2
            go_roundw
            case rel => exact ⟨k + 1, by omega, by go_num, hide (take_eq_step (unhide ht) hka hkb (by rw [← unhide HX, ← unhide HY]; simpa using hne)), below_drewN hB _⟩
            case measure => simp [intOf]; omega
          · have hne : (x != y) = true := by simp [hxy]
            have hd : decide (a = b) = false := decide_ne hka hkb (by rw [← unhide HX, ← unhide HY]; exact hxy)
            have HD := hide hd
            clear hxy hd
            go_wp2
            go_quiet (fail)
            go_wp2
            go_ret
            exact ⟨by rw [unhide HD]; rfl, below_drewN hB _⟩
        · have e : k = n := by omega
          have hd : decide (a = b) = true := by
            have h := unhide ht
            rw [List.take_of_length_le (by omega), List.take_of_length_le (by have := unhide HL; omega)] at h
            simpa using h
          have HD := hide hd
          clear hd ht
          subst e
          go_wp2
          go_ret
          exact ⟨by rw [unhide HD]; rfl, hB⟩
  · have hd : decide (a = b) = false := by
      simp only [decide_eq_false_iff_not]
      intro h; subst h; exact hl rfl
    have hne : ((a.length : Int) != (b.length : Int)) = true := by simp; omega
    have HD := hide hd
    clear hd
    obtain ⟨a1, c1, rfl, _⟩ := hu.shape
    obtain ⟨a2, c2, rfl, _⟩ := hv.shape
    go_enter Try.func20, Try.ntmps20
    go_wp2
    go_ret
    exact ⟨by rw [unhide HD]; rfl, Below.refl _ _⟩
end Go.Proofs.Yteioihjgjbjmjaa

/- The laws' own comparison of two trees, where both are the same: by contracts. -/
namespace Go.Proofs.Yteioihjgjbjmjaa
open Go.RowKit
set_option linter.unusedVariables false

theorem eqB_true (w : World) (u v : Value) (a : List Int) (hu : Byt w u a) (hv : Byt w v a) : Calls Try.prog 20 #[u, v] w fun e w' => e = .returned (.bool true) ∧ Below w.heap.size w w' := by
  refine (eqB_any w u v a a hu hv).mono ?_
  rintro e w' ⟨rfl, h⟩
  exact ⟨by simp, h⟩

set_option maxHeartbeats 1600000 in
theorem eqAttr_any (w : World) (a b c d : Value) (x : List Int × List Int) (ha : Byt w a x.1) (hb : Byt w b x.2) (hc : Byt w c x.1) (hd : Byt w d x.2) :
    Calls Try.prog 58 #[.agg #[a, b], .agg #[c, d]] w fun e w' => e = .returned (.bool true) ∧ Below w.heap.size w w' := by
  obtain ⟨a1, k1, rfl, _, _⟩ := ha.shape
  obtain ⟨a2, k2, rfl, _, _⟩ := hb.shape
  obtain ⟨a3, k3, rfl, _, _⟩ := hc.shape
  obtain ⟨a4, k4, rfl, _, _⟩ := hd.shape
  have hA : Below w.heap.size w ((w.alloc (.cells #[.slice a1 x.1.length k1, .slice a2 x.2.length k2] 88)).alloc (.cells #[.slice a3 x.1.length k3, .slice a4 x.2.length k4] 88)) := ((Below.refl _ _).alloc (Nat.le_refl _) _).alloc (by simp) _
  go_enter Try.func58, Try.ntmps58
  go_wp2_with fail
  refine (eqB_true _ _ _ x.1 (ha.keep hA) (hc.keep hA)).mono ?_
  rintro e w1 ⟨rfl, hB1⟩
  have hA1 := bstep hA hB1
  have e1 := cell_later hB1 (show ((w.alloc (.cells #[.slice a1 x.1.length k1, .slice a2 x.2.length k2] 88)).alloc (.cells #[.slice a3 x.1.length k3, .slice a4 x.2.length k4] 88)).cell? ⟨w.heap.size, 1, none⟩ = some (.slice a2 x.2.length k2) by simp)
  have e2 := cell_later hB1 (show ((w.alloc (.cells #[.slice a1 x.1.length k1, .slice a2 x.2.length k2] 88)).alloc (.cells #[.slice a3 x.1.length k3, .slice a4 x.2.length k4] 88)).cell? ⟨w.heap.size + 1, 1, none⟩ = some (.slice a4 x.2.length k4) by simp)
  clear hB1 hA
  go_wp2_with fail
  refine (eqB_true _ _ _ x.2 (hb.keep hA1) (hd.keep hA1)).mono ?_
  rintro e w2 ⟨rfl, hB2⟩
  have hA2 := bstep hA1 hB2
  clear hB2 hA1 e1 e2
  go_wp2
  go_ret
  exact ⟨rfl, hA2⟩

set_option maxHeartbeats 1600000 in
theorem eqAttrS_any (w : World) (u v : Value) (l : List (List Int × List Int)) (hu : RdAttrs w u l) (hv : RdAttrs w v l) :
    Calls Try.prog 32 #[u, v] w fun e w' => e = .returned (.bool true) ∧ Below w.heap.size w w' := by
  have hm := hu.1
  unfold maxLen at hm
  by_cases h0 : l = []
  · obtain ⟨a1, c1, rfl, _⟩ := Elems.shape hu
    obtain ⟨a2, c2, rfl, _⟩ := Elems.shape hv
    subst h0
    go_enter Try.func32, Try.ntmps32
    go_wp2
    refine wp_loop_rounds 1 ?_
    rw [rounds_succ]
    go_wp2
    go_ret
    exact ⟨rfl, Below.refl _ _⟩
  obtain ⟨_, ⟨_, e⟩ | ⟨_, _, _, _, e⟩ | ⟨b, off, cap, rfl, g1, g2, g3, g4, g5⟩⟩ := hu
  · exact absurd e h0
  · exact absurd e h0
  obtain ⟨_, ⟨_, e⟩ | ⟨_, _, _, _, e⟩ | ⟨b', off', cap', rfl, f1, f2, f3, f4, f5⟩⟩ := hv
  · exact absurd e h0
  · exact absurd e h0
  go_enter Try.func32, Try.ntmps32
  go_wp2
  go_loopw [5] (fun i wr => ∃ k : Nat, k ≤ l.length ∧ i = .int .i64 k ∧ Below w.heap.size w wr) (fun i _ => l.length - (intOf i).toNat)
  case atStart => exact ⟨0, Nat.zero_le _, rfl, Below.refl _ _⟩
  case round =>
    obtain ⟨k, hk, rfl, hB⟩ := hrel
    by_cases hlt : k < l.length
    · obtain ⟨C, hC, hcell, c0, c1, rfl, hc0, hc1⟩ := g5 k hlt
      obtain ⟨D, hD, hdell, d0, d1, rfl, hd0, hd1⟩ := f5 k hlt
      have e0 := (hB.cell (p := ⟨b, off + k * 2, none⟩) g4).trans (hcell 0 (by omega))
      have e1 := (hB.cell (p := ⟨b, off + k * 2 + 1, none⟩) g4).trans (hcell 1 (by omega))
      have e2 := (hB.cell (p := ⟨b', off' + k * 2, none⟩) f4).trans (hdell 0 (by omega))
      have e3 := (hB.cell (p := ⟨b', off' + k * 2 + 1, none⟩) f4).trans (hdell 1 (by omega))
      simp only [List.getElem?_cons_zero, List.getElem?_cons_succ] at e0 e1 e2 e3
      have hk0 : (0 : Int) ≤ (k : Int) := by omega
      have hlt' : (k : Int) < (l.length : Int) := by omega
      clear hcell hdell g5 f5 hC hD
      go_wp2
      go_region_held3 (fun w' => w'.cell? ⟨b, off + k * 2, none⟩ = some c0 ∧ w'.cell? ⟨b, off + k * 2 + 1, none⟩ = some c1 ∧ w'.cell? ⟨b', off' + k * 2, none⟩ = some d0 ∧ w'.cell? ⟨b', off' + k * 2 + 1, none⟩ = some d1) (first | exact ⟨by assumption, by assumption, by assumption, by assumption⟩ | simp [*])
        ((go_at_call 58; refine (eqAttr_any _ c0 c1 d0 d1 l[k] (by exact (hc0.keep hB).keep ((Below.refl _ _).drew)) (by exact (hc1.keep hB).keep ((Below.refl _ _).drew)) (by exact (hd0.keep hB).keep ((Below.refl _ _).drew)) (by exact (hd1.keep hB).keep ((Below.refl _ _).drew))).mono ?_; rintro e w2 ⟨rfl, hB2⟩; have s0 := cell_later hB2 e0; have s1 := cell_later hB2 e1; have s2 := cell_later hB2 e2; have s3 := cell_later hB2 e3))
      have hB3 := hB.trans ((Below.drew (Below.refl wr.heap.size wr)).trans hB2 |>.mono hB.size)
      clear e0 e1 e2 e3 s0 s1 s2 s3 hB2
      go_wp2
      go_roundw
      case rel => exact ⟨k + 1, by omega, by go_num, hB3⟩
      case measure => simp [intOf]; omega
    · clear g5 f5
      go_wp2
      go_ret
      exact ⟨rfl, hB⟩

/-- What eqNode does to two nodes of depth below n that are the same. -/
def EqNodeSaid (n : Nat) : Prop := ∀ (w : World) (a b c d e a' b' c' d' e' : Value) (t : Tr n), RdNode n w [a, b, c, d, e] t → RdNode n w [a', b', c', d', e'] t →
    Calls Try.prog 11 #[.agg #[a, b, c, d, e], .agg #[a', b', c', d', e']] w fun e w' => e = .returned (.bool true) ∧ Below w.heap.size w w'

set_option maxHeartbeats 3200000 in
theorem eqNodeS_any (n : Nat) (H : EqNodeSaid n) (w : World) (u v : Value) (l : List (Tr n)) (hu : RdKids n w u l) (hv : RdKids n w v l) :
    Calls Try.prog 33 #[u, v] w fun e w' => e = .returned (.bool true) ∧ Below w.heap.size w w' := by
  have hm := hu.1
  unfold maxLen at hm
  by_cases h0 : l = []
  · obtain ⟨a1, c1, rfl, _⟩ := Elems.shape hu
    obtain ⟨a2, c2, rfl, _⟩ := Elems.shape hv
    subst h0
    go_enter Try.func33, Try.ntmps33
    go_wp2_with fail
    refine wp_loop_rounds 1 ?_
    rw [rounds_succ]
    go_wp2_with fail
    go_ret
    exact ⟨rfl, Below.refl _ _⟩
  obtain ⟨_, ⟨_, e⟩ | ⟨_, _, _, _, e⟩ | ⟨b, off, cap, rfl, g1, g2, g3, g4, g5⟩⟩ := hu
  · exact absurd e h0
  · exact absurd e h0
  obtain ⟨_, ⟨_, e⟩ | ⟨_, _, _, _, e⟩ | ⟨b', off', cap', rfl, f1, f2, f3, f4, f5⟩⟩ := hv
  · exact absurd e h0
  · exact absurd e h0
  go_enter Try.func33, Try.ntmps33
  go_wp2_with fail
  go_loopw [5] (fun i wr => ∃ k : Nat, k ≤ l.length ∧ i = .int .i64 k ∧ Below w.heap.size w wr) (fun i _ => l.length - (intOf i).toNat)
  case atStart => exact ⟨0, Nat.zero_le _, rfl, Below.refl _ _⟩
  case round =>
    obtain ⟨k, hk, rfl, hB⟩ := hrel
    by_cases hlt : k < l.length
    · obtain ⟨c0, c1, c2, c3, c4, e0, e1, e2, e3, e4, hc⟩ := five_of (g5 k hlt)
      obtain ⟨d0, d1, d2, d3, d4, i0, i1, i2, i3, i4, hd⟩ := five_of (f5 k hlt)
      replace e0 := (hB.cell (p := ⟨b, off + k * 5, none⟩) g4).trans e0
      replace e1 := (hB.cell (p := ⟨b, off + k * 5 + 1, none⟩) g4).trans e1
      replace e2 := (hB.cell (p := ⟨b, off + k * 5 + 2, none⟩) g4).trans e2
      replace e3 := (hB.cell (p := ⟨b, off + k * 5 + 3, none⟩) g4).trans e3
      replace e4 := (hB.cell (p := ⟨b, off + k * 5 + 4, none⟩) g4).trans e4
      replace i0 := (hB.cell (p := ⟨b', off' + k * 5, none⟩) f4).trans i0
      replace i1 := (hB.cell (p := ⟨b', off' + k * 5 + 1, none⟩) f4).trans i1
      replace i2 := (hB.cell (p := ⟨b', off' + k * 5 + 2, none⟩) f4).trans i2
      replace i3 := (hB.cell (p := ⟨b', off' + k * 5 + 3, none⟩) f4).trans i3
      replace i4 := (hB.cell (p := ⟨b', off' + k * 5 + 4, none⟩) f4).trans i4
      have hk0 : (0 : Int) ≤ (k : Int) := by omega
      have hlt' : (k : Int) < (l.length : Int) := by omega
      clear g5 f5
      go_wp2_with fail
      go_region_held3 (fun w' => w'.cell? ⟨b, off + k * 5, none⟩ = some c0 ∧ w'.cell? ⟨b, off + k * 5 + 1, none⟩ = some c1 ∧ w'.cell? ⟨b, off + k * 5 + 2, none⟩ = some c2 ∧ w'.cell? ⟨b, off + k * 5 + 3, none⟩ = some c3 ∧ w'.cell? ⟨b, off + k * 5 + 4, none⟩ = some c4 ∧ w'.cell? ⟨b', off' + k * 5, none⟩ = some d0 ∧ w'.cell? ⟨b', off' + k * 5 + 1, none⟩ = some d1 ∧ w'.cell? ⟨b', off' + k * 5 + 2, none⟩ = some d2 ∧ w'.cell? ⟨b', off' + k * 5 + 3, none⟩ = some d3 ∧ w'.cell? ⟨b', off' + k * 5 + 4, none⟩ = some d4) (first | exact ⟨by assumption, by assumption, by assumption, by assumption, by assumption, by assumption, by assumption, by assumption, by assumption, by assumption⟩ | simp [*])
        ((go_at_call 11; refine (H _ c0 c1 c2 c3 c4 d0 d1 d2 d3 d4 l[k] (by exact (hc.keep hB).keep ((Below.refl _ _).drew)) (by exact (hd.keep hB).keep ((Below.refl _ _).drew))).mono ?_; rintro e w2 ⟨rfl, hB2⟩; have s0 := cell_later hB2 e0; have s1 := cell_later hB2 e1; have s2 := cell_later hB2 e2; have s3 := cell_later hB2 e3; have s4 := cell_later hB2 e4; have r0 := cell_later hB2 i0; have r1 := cell_later hB2 i1; have r2 := cell_later hB2 i2; have r3 := cell_later hB2 i3; have r4 := cell_later hB2 i4))
      have hB3 := hB.trans ((Below.drew (Below.refl wr.heap.size wr)).trans hB2 |>.mono hB.size)
      clear e0 e1 e2 e3 e4 i0 i1 i2 i3 i4 s0 s1 s2 s3 s4 r0 r1 r2 r3 r4 hB2 hc hd
      go_wp2_with fail
      go_roundw
      case rel => exact ⟨k + 1, by omega, by go_num, hB3⟩
      case measure => simp [intOf]; omega
    · clear g5 f5
      go_wp2_with fail
      go_ret
      exact ⟨rfl, hB⟩

set_option maxHeartbeats 3200000 in
theorem eqNode_succ (n : Nat) (H : EqNodeSaid n) : EqNodeSaid (n + 1) := by
  intro w a b c d e a' b' c' d' e' t hr hr'
  obtain ⟨_, _, _, _, e0, k1, k2, hb, hc, hd, he⟩ := hr
  obtain ⟨_, _, _, _, e1, _, _, hb', hc', hd', he'⟩ := hr'
  simp only [List.cons.injEq, and_true] at e0 e1
  obtain ⟨rfl, rfl, rfl, rfl, rfl⟩ := e0
  obtain ⟨rfl, rfl, rfl, rfl, rfl⟩ := e1
  obtain ⟨ab, cb, rfl, _, _⟩ := hb.shape
  obtain ⟨ac, cc, rfl, _, _⟩ := hc.shape
  obtain ⟨ad, cd, rfl, _, _⟩ := Elems.shape hd
  obtain ⟨ae, ce, rfl, _, _⟩ := Elems.shape he
  obtain ⟨ab', cb', rfl, _, _⟩ := hb'.shape
  obtain ⟨ac', cc', rfl, _, _⟩ := hc'.shape
  obtain ⟨ad', cd', rfl, _, _⟩ := Elems.shape hd'
  obtain ⟨ae', ce', rfl, _, _⟩ := Elems.shape he'
  generalize hO : (Obj.cells #[.int .i64 t.kind, .slice ab t.name.length cb, .slice ac t.text.length cc, .slice ad t.attrs.length cd, .slice ae t.kids.length ce] 32) = O
  generalize hO' : (Obj.cells #[.int .i64 t.kind, .slice ab' t.name.length cb', .slice ac' t.text.length cc', .slice ad' t.attrs.length cd', .slice ae' t.kids.length ce'] 32) = O'
  have hA : Below w.heap.size w ((w.alloc O).alloc O') := ((Below.refl _ _).alloc (Nat.le_refl _) _).alloc (by simp) _
  have p2 : ((w.alloc O).alloc O').cell? ⟨w.heap.size, 2, none⟩ = some (.slice ac t.text.length cc) := by rw [← hO, ← hO']; simp
  have q2 : ((w.alloc O).alloc O').cell? ⟨w.heap.size + 1, 2, none⟩ = some (.slice ac' t.text.length cc') := by rw [← hO, ← hO']; simp
  have p3 : ((w.alloc O).alloc O').cell? ⟨w.heap.size, 3, none⟩ = some (.slice ad t.attrs.length cd) := by rw [← hO, ← hO']; simp
  have q3 : ((w.alloc O).alloc O').cell? ⟨w.heap.size + 1, 3, none⟩ = some (.slice ad' t.attrs.length cd') := by rw [← hO, ← hO']; simp
  have p4 : ((w.alloc O).alloc O').cell? ⟨w.heap.size, 4, none⟩ = some (.slice ae t.kids.length ce) := by rw [← hO, ← hO']; simp
  have q4 : ((w.alloc O).alloc O').cell? ⟨w.heap.size + 1, 4, none⟩ = some (.slice ae' t.kids.length ce') := by rw [← hO, ← hO']; simp
  have P := hide (And.intro p2 (And.intro q2 (And.intro p3 (And.intro q3 (And.intro p4 q4)))))
  clear p2 q2 p3 q3 p4 q4
  subst hO hO'
  have HA := hide hA
  clear hA
  have hkk : (t.kind != t.kind) = false := by simp
  go_enter Try.func11, Try.ntmps11
  go_wp2_with fail
  refine (eqB_true _ _ _ t.name (hb.keep (unhide HA)) (hb'.keep (unhide HA))).mono ?_
  rintro e w1 ⟨rfl, hB1⟩
  have hA1 := bstep (unhide HA) hB1
  have p2 := cell_later hB1 (unhide P).1
  have q2 := cell_later hB1 (unhide P).2.1
  have p3 := cell_later hB1 (unhide P).2.2.1
  have q3 := cell_later hB1 (unhide P).2.2.2.1
  have p4 := cell_later hB1 (unhide P).2.2.2.2.1
  have q4 := cell_later hB1 (unhide P).2.2.2.2.2
  clear hB1 P HA
  go_wp2_with fail
  refine (eqB_true _ _ _ t.text (hc.keep hA1) (hc'.keep hA1)).mono ?_
  rintro e w2 ⟨rfl, hB2⟩
  have hA2 := bstep hA1 hB2
  replace p3 := cell_later hB2 p3
  replace q3 := cell_later hB2 q3
  replace p4 := cell_later hB2 p4
  replace q4 := cell_later hB2 q4
  clear hB2 hA1 p2 q2
  go_wp2_with fail
  refine (eqAttrS_any _ _ _ t.attrs (hd.keep hA2) (hd'.keep hA2)).mono ?_
  rintro e w3 ⟨rfl, hB3⟩
  have hA3 := bstep hA2 hB3
  replace p4 := cell_later hB3 p4
  replace q4 := cell_later hB3 q4
  clear hB3 hA2 p3 q3
  go_wp2_with fail
  refine (eqNodeS_any n H _ _ _ t.kids (RdKids.keep he hA3) (RdKids.keep he' hA3)).mono ?_
  rintro e w4 ⟨rfl, hB4⟩
  have hA4 := bstep hA3 hB4
  clear hB4 hA3 p4 q4
  go_wp2_with fail
  go_ret
  exact ⟨rfl, hA4⟩

theorem eqNode_any (n : Nat) : EqNodeSaid n := by
  induction n with
  | zero => exact fun _ _ _ _ _ _ _ _ _ _ _ t => t.elim
  | succ n ih => exact eqNode_succ n ih

end Go.Proofs.Yteioihjgjbjmjaa

/- The laws' own copy of a tree, whole: by induction on its depth. -/
namespace Go.Proofs.Yteioihjgjbjmjaa
open Go.RowKit
set_option linter.unusedVariables false

/-- What toNode does to a node of depth below n. -/
def ToNodeSaid (n : Nat) : Prop := ∀ (w : World) (a b c d e : Value) (t : Tr n), RdNode n w [a, b, c, d, e] t → szT n t ≤ 2097152 →
    Calls Try.prog 9 #[.agg #[a, b, c, d, e]] w fun e w' => ∃ (kd : Int) (a1 : Option Addr) (n1 c1 : Nat) (a2 : Option Addr) (n2 c2 : Nat) (a3 : Option Addr) (n3 c3 : Nat) (a4 : Option Addr) (n4 c4 : Nat),
      e = .returned (.agg #[.int .i64 kd, .slice a1 n1 c1, .slice a2 n2 c2, .slice a3 n3 c3, .slice a4 n4 c4]) ∧ ∃ F, OwNode n w' [.int .i64 kd, .slice a1 n1 c1, .slice a2 n2 c2, .slice a3 n3 c3, .slice a4 n4 c4] t F ∧ F.Nodup ∧ Rng F w.heap.size w'.heap.size ∧ Below w.heap.size w w'

set_option maxHeartbeats 3200000 in
theorem toNodeS_any (n : Nat) (H : ToNodeSaid n) (w : World) (v : Value) (l : List (Tr n)) (h : RdKids n w v l) (hs : szK n l ≤ 2097152) :
    Calls Try.prog 29 #[v] w fun e w' => ∃ a c, e = .returned (.slice a l.length c) ∧ ∃ F, OwKids n w' (.slice a l.length c) l F ∧ F.Nodup ∧ Rng F w.heap.size w'.heap.size ∧ Below w.heap.size w w' := by
  obtain ⟨i0, hi, hz0, hz1, hz2⟩ := info_parts Try.info32
  have hm := h.1
  have hlen : l.length ≤ 2097152 := by unfold szK at hs; omega
  by_cases h0 : l = []
  · obtain ⟨a, cap, rfl, _⟩ := Elems.shape h
    subst h0
    go_enter Try.func29, Try.ntmps29
    go_wp2_with (at_make; refine wpList_make_full _ rfl _ _ 30 rfl w.heap.size 32 i0 _ 5 Try.underlying30 hi hz0 hz1 .i64 .i64 _ _ 0 rfl rfl rfl rfl ?c1 ?c2 ?c3 ?_)
    case c1 => rw [hz2]; omega
    case c2 => exact Nat.zero_le _
    case c3 => exact Nat.le_refl _
    intro w1 hown hgrow
    have hB1 := Below.ofGrown hgrow
    have hH := (Half.start (α := Tr n) (l := []) (R := OwNode n w1) (w.heap.size + 1) (ownsRow_base hown 0 (Nat.zero_le _))).whole rfl (by omega)
    have HH := hide hH
    clear hown hgrow hH
    go_wp2_with fail
    refine wp_loop_rounds 1 ?_
    rw [rounds_succ]
    go_wp2_with fail
    go_ret
    obtain ⟨F, hF, hnd, hr⟩ := unhide HH
    exact ⟨_, _, rfl, F, hF, hnd, hr, hB1⟩
  obtain ⟨_, ⟨_, e⟩ | ⟨_, _, _, _, e⟩ | ⟨b, off, cap, rfl, g1, g2, g3, g4, g5⟩⟩ := h
  · exact absurd e h0
  · exact absurd e h0
  go_enter Try.func29, Try.ntmps29
  go_wp2_with (at_make; refine wpList_make_full _ rfl _ _ 30 rfl w.heap.size 32 i0 _ 5 Try.underlying30 hi hz0 hz1 .i64 .i64 _ _ l.length rfl rfl rfl rfl ?c1 ?c2 ?c3 ?_)
  case c1 => rw [hz2]; omega
  case c2 => exact hm
  case c3 => exact Nat.le_refl _
  intro w1 hown hgrow
  have hB1 := Below.ofGrown hgrow
  have hH := Half.start (α := Tr n) (l := l) (R := OwNode n w1) (w.heap.size + 1) (ownsRow_base hown 0 (Nat.zero_le _))
  have hlt1 := (hown.lt w.heap.size rfl).2
  clear hown hgrow
  go_wp2_with fail
  go_loopw [4] (fun i wr => ∃ k : Nat, k ≤ l.length ∧ i = .int .i64 k ∧ Half wr 32 5 w.heap.size l.length l (OwNode n wr) (w.heap.size + 1) k ∧ Below w.heap.size w wr ∧ w.heap.size + 1 ≤ wr.heap.size) (fun i _ => l.length - (intOf i).toNat)
  case atStart => exact ⟨0, Nat.zero_le _, rfl, hH, hB1, by omega⟩
  case round =>
    obtain ⟨k, hk, rfl, hr, hB, hsz⟩ := hrel
    clear hH hB1 hlt1
    by_cases hlt : k < l.length
    · obtain ⟨c0, c1, c2, c3, c4, e0, e1, e2, e3, e4, hc⟩ := five_of (g5 k hlt)
      replace e0 := (hB.cell (p := ⟨b, off + k * 5, none⟩) g4).trans e0
      replace e1 := (hB.cell (p := ⟨b, off + k * 5 + 1, none⟩) g4).trans e1
      replace e2 := (hB.cell (p := ⟨b, off + k * 5 + 2, none⟩) g4).trans e2
      replace e3 := (hB.cell (p := ⟨b, off + k * 5 + 3, none⟩) g4).trans e3
      replace e4 := (hB.cell (p := ⟨b, off + k * 5 + 4, none⟩) g4).trans e4
      have hlt' : (k : Int) < (l.length : Int) := by omega
      clear g5
      go_wp2_with fail
      refine (H wr _ _ _ _ _ l[k] (hc.keep hB) (by have := szK_one hlt; omega)).mono ?_
      rintro e w2 ⟨kd, a1, n1, k1, a2, n2, k2, a3, n3, k3, a4, n4, k4, rfl, G, hO, hnd, hrg, hB2⟩
      have hrow : ∃ xs : List Value, w2.ownsRow 0 32 5 (.slice (some ⟨w.heap.size, 0, none⟩) l.length l.length) l.length xs := by
        obtain ⟨_, _, xs, _, _, _, h4, _⟩ := hr.laid
        exact ⟨xs, ownsRow_frm h4 (Frm.ofBelow hB2 []) (fun _ _ => by simp)⟩
      obtain ⟨xs, hx⟩ := hrow
      have hxl := hx.1
      have hcell : ∀ j, j < 5 → ∃ y, w2.cell? ⟨w.heap.size, k * 5 + j, none⟩ = some y := fun j hj => ⟨xs[k * 5 + j]'(by omega), by rw [hx.cellAt (k * 5 + j) (by omega), List.getElem?_eq_getElem (by omega)]⟩
      obtain ⟨y0, q0⟩ := hcell 0 (by omega)
      obtain ⟨y1, q1⟩ := hcell 1 (by omega)
      obtain ⟨y2, q2⟩ := hcell 2 (by omega)
      obtain ⟨y3, q3⟩ := hcell 3 (by omega)
      obtain ⟨y4, q4⟩ := hcell 4 (by omega)
      rw [Nat.add_zero] at q0
      have f0 := hx.frozenAt (k * 5)
      have f1 := hx.frozenAt (k * 5 + 1)
      have f2 := hx.frozenAt (k * 5 + 2)
      have f3 := hx.frozenAt (k * 5 + 3)
      have f4 := hx.frozenAt (k * 5 + 4)
      obtain ⟨W, hW⟩ : ∃ W, W = ((((w2.setCell ⟨w.heap.size, k * 5, none⟩ (.int .i64 kd)).setCell ⟨w.heap.size, k * 5 + 1, none⟩ (.slice a1 n1 k1)).setCell ⟨w.heap.size, k * 5 + 2, none⟩ (.slice a2 n2 k2)).setCell ⟨w.heap.size, k * 5 + 3, none⟩ (.slice a3 n3 k3)).setCell ⟨w.heap.size, k * 5 + 4, none⟩ (.slice a4 n4 k4) := ⟨_, rfl⟩
      have hf : Frm w2 W [w.heap.size] := by rw [hW]; exact ((((set_frm w2 _ _ _).trans (set_frm _ _ _ _)).trans (set_frm _ _ _ _)).trans (set_frm _ _ _ _)).trans (set_frm _ _ _ _)
      have hstep : Half W 32 5 w.heap.size l.length l (OwNode n W) (w.heap.size + 1) (k + 1) := by
        refine hr.step hlt (by omega) hsz hB2 [.int .i64 kd, .slice a1 n1 k1, .slice a2 n2 k2, .slice a3 n3 k3, .slice a4 n4 k4] G rfl ?_ hnd hrg ?_ hf ?_
        · exact hO.frm hf (fun g hg => by have := hrg g hg; simp; omega)
        · intro C x G' hx' hne
          exact OwNode.frm hx' ((Frm.ofBelow hB2 [w.heap.size]).trans hf) (fun g hg => by have := hne g hg; simp; omega)
        · intro zs hz
          have hzl := hz.1
          have t1 := (hz.stored (k * 5) (.int .i64 kd)).1
          have t2 := (t1.stored (k * 5 + 1) (.slice a1 n1 k1)).1
          have t3 := (t2.stored (k * 5 + 2) (.slice a2 n2 k2)).1
          have t4 := (t3.stored (k * 5 + 3) (.slice a3 n3 k3)).1
          have t5 := (t4.stored (k * 5 + 4) (.slice a4 n4 k4)).1
          rw [hW]
          exact ⟨_, t5, take_five zs (k * 5) _ _ _ _ _ (by omega)⟩
      have HB0 := hB.trans ((hB2.mono hB.size).trans (hf.below (by have := hB2.size; have := hB.size; omega) (fun g hg => by simp at hg; omega)))
      have hs2 : w.heap.size + 1 ≤ W.heap.size := by have := hf.size; have := hB2.size; omega
      subst hW
      have HS := hide hstep
      have HB := hide HB0
      have HS2 := hide hs2
      clear hstep hf hx hO hr hB2 hB HB0 hs2 e0 e1 e2 e3 e4 hc hrg hnd hcell
      go_wp2_with fail
      go_roundw
      case rel => exact ⟨k + 1, by omega, by go_num, unhide HS, unhide HB, unhide HS2⟩
      case measure => simp [intOf]; omega
    · have e : k = l.length := by omega
      subst e
      have HW := hide (hr.whole rfl (by omega))
      clear hr g5
      go_wp2_with fail
      go_ret
      obtain ⟨F, hF, hnd, hrg⟩ := unhide HW
      exact ⟨_, _, rfl, F, hF, hnd, hrg, hB⟩
end Go.Proofs.Yteioihjgjbjmjaa
