/- Own texts joined: L2bent, HalfT, BaseZ, KeyS, IdS. -/
import Derived.Test.YtaoodcielfabdaaGreatJa
import Derived.Test.YtaoodcielfabdaaGreatJb
import Derived.Test.YtaoodcielfabdaaGreatJc
import Derived.Test.YtaoodcielfabdaaGreatJd
import Derived.Test.YtaoodcielfabdaaGreatJe
import Derived.Test.YtaoodcielfabdaaGreatJf
import Derived.Test.YtaoodcielfabdaaGreatJg
import Derived.Lib.SlBytesConst
import Derived.Deep.AppendLies
import Derived.Deep.RegionLaw
import Derived.Deep.Cut
import Derived.Deep.CutRange
import Derived.Deep.CutBlock
import Derived.Test.YtaoodcielfabdaaGreatChecked

/- spec.l2bent ends, and writes nothing that was there. -/
namespace Go.Proofs.YtaoodcielfabdaaGreat
open Go.RowKit
set_option linter.unusedVariables false
set_option maxRecDepth 100000


theorem least_ex {α : Type} (P : Nat → α → Prop) : ∃ f : α → Nat, ∀ a d, P d a → ∃ D, D = f a ∧ P D a ∧ D ≤ d := by
  have least : ∀ (n : Nat) (a : α), P n a → ∃ d, P d a ∧ ∀ e, P e a → d ≤ e := by
    intro n
    induction n using Nat.strongRecOn with
    | ind n ih =>
      intro a h
      by_cases hx : ∃ m, m < n ∧ P m a
      · obtain ⟨m, hm, hp⟩ := hx
        exact ih m hm a hp
      · exact ⟨n, h, fun e he => Nat.le_of_not_lt (fun hlt => hx ⟨e, hlt, he⟩)⟩
  have all : ∀ a, ∃ d, ∀ e, P e a → P d a ∧ d ≤ e := fun a => by
    by_cases hx : ∃ n, P n a
    · obtain ⟨n, hn⟩ := hx
      obtain ⟨d, h1, h2⟩ := least n a hn
      exact ⟨d, fun e he => ⟨h1, h2 e he⟩⟩
    · exact ⟨0, fun e he => absurd ⟨e, he⟩ hx⟩
  exact ⟨fun a => Classical.choose (all a), fun a d h => ⟨_, rfl, Classical.choose_spec (all a) d h⟩⟩
/-- What stands throughout: the two boxes are nodes, the cursor is one, nothing old has turned but the cursor. -/
def BS (w0 w : World) (g : Nat) (code : Value) (l : List Int) (b : Nat) (wr : World) : Prop := NB wr w.heap.size ∧ NB wr b ∧ w.heap.size < b ∧ Cur w0 wr g code l ∧ w.grownBy wr (some g)
theorem BS.frm {w0 w wr w' : World} {g b : Nat} {code : Value} {l : List Int} {S : List Nat} (h : BS w0 w g code l b wr) (f : Frm wr w' S) (hS : ∀ q ∈ S, q = g ∨ w.heap.size < q) (hg : g < w.heap.size) (hb : b ∉ S) (hC : Cur w0 w' g code l) : BS w0 w g code l b w' := by
  obtain ⟨h1, h2, h3, h4, h5⟩ := h
  refine ⟨h1.frm f (fun e => by rcases hS _ e with e | e <;> omega), h2.frm f hb, h3, hC, ?_⟩
  refine ⟨f.os.trans h5.os, f.tape.trans h5.tape, f.output.trans h5.output, Nat.le_trans h5.size f.size, fun k hk hn => ?_⟩
  rw [f.block k (Nat.lt_of_lt_of_le hk h5.size) (fun e => by
    rcases hS _ e with rfl | e
    · exact hn rfl
    · omega)]
  exact h5.block k hk hn
theorem BS.store {w0 w wr : World} {g b bx off : Nat} {code : Value} {l : List Int} (h : BS w0 w g code l b wr) (hr : (bx = b ∧ off = 0) ∨ bx ≠ b) (hbx : w.heap.size < bx) (hg : g < w.heap.size) (hs : w0.heap.size ≤ w.heap.size) (i : Nat) (v : Value) (hv : Shp i v) : BS w0 w g code l b (wr.setCell ⟨bx, off + i, none⟩ v) := by
  obtain ⟨h1, h2, h3, h4, h5⟩ := h
  have f := set_frm wr bx (off + i) v
  refine ⟨h1.frm f (by simp; omega), h2.store hr i v hv, h3, h4.set' (Frm.toGrown' f) (by omega) (by omega), ?_⟩
  exact grown_new h5 (Frm.toGrown' f) (fun q hq => by cases hq; omega)
/-- The part that is bent. -/
def Tg (H b : Nat) (wr : World) (bx off : Nat) (u0 u1 u2 u3 u4 : Value) : Prop := N5 wr bx off u0 u1 u2 u3 u4 ∧ Raw wr 5 1 u2 ∧ Raw wr 109 2 u3 ∧ Raw wr 26 5 u4 ∧ (∀ q ∈ FB u2 ++ FB u3 ++ FB u4, H < q ∧ q ≠ bx ∧ q ≠ b) ∧ H < bx ∧ ((bx = b ∧ off = 0) ∨ bx ≠ b)
theorem Tg.frm {H b : Nat} {wr w' : World} {bx off : Nat} {u0 u1 u2 u3 u4 : Value} {S : List Nat} (h : Tg H b wr bx off u0 u1 u2 u3 u4) (f : Frm wr w' S) (hx : bx ∉ S) (hS : ∀ q ∈ FB u2 ++ FB u3 ++ FB u4, q ∉ S) : Tg H b w' bx off u0 u1 u2 u3 u4 := by
  obtain ⟨h1, h2, h3, h4, h5, h6, h7⟩ := h
  exact ⟨h1.frm f hx, h2.frm f (fun q hq => hS q (by simp [hq])), h3.frm f (fun q hq => hS q (by simp [hq])), h4.frm f (fun q hq => hS q (by simp [hq])), h5, h6, h7⟩
/-- A step down the tree: d more may follow. -/
def Dn (H b : Nat) (d : Nat) (s : Value × World) : Prop := ∃ bx off u0 u1 u2 u3 u4, ∃ (t : Tr (d + 1)) (F : List Nat), s.1 = .pointer (some ⟨bx, off, none⟩) ∧ N5 s.2 bx off u0 u1 u2 u3 u4 ∧ OwNodeM (d + 1) s.2 [u0, u1, u2, u3, u4] t F ∧ F.Nodup ∧ (∀ q ∈ F, H < q ∧ q ≠ b) ∧ bx ∉ F ∧ H < bx ∧ ((bx = b ∧ off = 0) ∨ bx ≠ b) ∧ SmT (d + 1) t
theorem Dn.frm {H b d : Nat} {p : Value} {wr w' : World} {S : List Nat} (h : Dn H b d (p, wr)) (f : Frm wr w' S) (hS : ∀ q ∈ S, q ≤ H) : Dn H b d (p, w') := by
  obtain ⟨bx, off, u0, u1, u2, u3, u4, t, F, h1, h2, h3, h4, h5, h6, h7, h8, h9⟩ := h
  exact ⟨bx, off, u0, u1, u2, u3, u4, t, F, h1, h2.frm f (fun e => by have := hS _ e; omega), OwNodeM.frm h3 f (fun q hq e => by have := hS _ e; have := (h5 q hq).1; omega), h4, h5, h6, h7, h8, h9⟩
def NdV (v : Value) : Prop := ∃ kd a1 n1 c1 a2 n2 c2 a3 n3 c3 a4 n4 c4, v = .agg #[.int .i64 kd, .slice a1 n1 c1, .slice a2 n2 c2, .slice a3 n3 c3, .slice a4 n4 c4]
theorem NB.put5 {w : World} {rb : Nat} (h : NB w rb) (u0 u1 u2 u3 u4 : Value) : N5 (((((w.setCell ⟨rb, 0, none⟩ u0).setCell ⟨rb, 1, none⟩ u1).setCell ⟨rb, 2, none⟩ u2).setCell ⟨rb, 3, none⟩ u3).setCell ⟨rb, 4, none⟩ u4) rb 0 u0 u1 u2 u3 u4 := by
  obtain ⟨kd, a1, n1, c1, a2, n2, c2, a3, n3, c3, a4, n4, c4, h⟩ := h
  have := ((((h.put (i := 0) (v := u0)).put (i := 1) (v := u1)).put (i := 2) (v := u2)).put (i := 3) (v := u3)).put (i := 4) (v := u4)
  simpa using this
theorem set5_frm (w : World) (rb : Nat) (u0 u1 u2 u3 u4 : Value) : Frm w (((((w.setCell ⟨rb, 0, none⟩ u0).setCell ⟨rb, 1, none⟩ u1).setCell ⟨rb, 2, none⟩ u2).setCell ⟨rb, 3, none⟩ u3).setCell ⟨rb, 4, none⟩ u4) [rb] :=
  ((((set_frm _ _ _ _).trans (set_frm _ _ _ _)).trans (set_frm _ _ _ _)).trans (set_frm _ _ _ _)).trans (set_frm _ _ _ _)
theorem Frm.cell4 {w w' : World} {S : List Nat} {bx off : Nat} (hf : Frm w w' S) (h : Bk w bx off) (hn : bx ∉ S) : w'.cell? ⟨bx, off + 4, none⟩ = w.cell? ⟨bx, off + 4, none⟩ := by
  unfold World.cell?
  rw [hf.block bx h.lt hn]
def Lb21 (w0 wst w3 : World) (g b bx off : Nat) (code : Value) (l : List Int) (ka : Option Addr) (kn kc : Nat) (s1 s2 s3 s5 s6 s7 s8 s9 s10 s11 s12 s13 s14 s15 s16 s17 s18 s19 s20 s21 s22 s23 s24 s25 s26 s27 s28 s29 s30 s31 s32 s33 s34 s35 s36 s37 s38 s39 s40 s41 s42 s43 s44 s45 s46 s47 s48 s49 s50 s51 s52 s53 s54 s55 s56 s57 s58 s59 s60 s61 s62 s63 s64 s65 s66 s67 s68 s69 s70 s71 s72 s73 s74 s75 s76 s77 s78 s79 s80 s81 s82 s83 s84 s85 s86 s87 s88 s89 s90 s91 s92 s93 s94 s95 s96 s97 s98 s99 s100 s101 s102 s118 s119 s120 s121 s122 s123 s124 s125 s126 s127 s128 s129 : Value) (L : Array Bool) (a : Act) (w : World) : Prop :=
  ∀ C : Prop, (∀ (b0 b1 b2 b3 b4 b5 b6 b7 b8 b9 b10 b11 b12 b13 b14 b15 b16 : Bool) (x103 x104 x105 x106 x107 x108 x109 x110 x111 x112 x113 x114 x115 x116 x117 : Value), L = #[b0, b1, b2, b3, b4, b5, b6, b7, b8, b9, b10, b11, b12, b13, b14, b15, b16] → a = { tmps := #[.pointer (some ⟨g, 0, none⟩), s1, s2, s3, .pointer (some ⟨bx, off, none⟩), s5, s6, s7, s8, s9, s10, s11, s12, s13, s14, s15, s16, s17, s18, s19, s20, s21, s22, s23, s24, s25, s26, s27, s28, s29, s30, s31, s32, s33, s34, s35, s36, s37, s38, s39, s40, s41, s42, s43, s44, s45, s46, s47, s48, s49, s50, s51, s52, s53, s54, s55, s56, s57, s58, s59, s60, s61, s62, s63, s64, s65, s66, s67, s68, s69, s70, s71, s72, s73, s74, s75, s76, s77, s78, s79, s80, s81, s82, s83, s84, s85, s86, s87, s88, s89, s90, s91, s92, s93, s94, s95, s96, s97, s98, s99, s100, s101, s102, x103, x104, x105, x106, x107, x108, x109, x110, x111, x112, x113, x114, x115, x116, x117, s118, s119, s120, s121, s122, s123, s124, s125, s126, s127, s128, s129], defers := [] } → BS w0 wst g code l b w → w3.heap.size ≤ w.heap.size → Bk w bx off → (b11 = false → w.cell? ⟨bx, off + 4, none⟩ = some (.slice ka kn kc) ∧ Raw w 26 5 (.slice ka kn kc)) → (b0 = true → x103 = .pointer (some ⟨bx, off, none⟩)) → (b1 = true → x104 = .pointer (some ⟨bx, off, none⟩)) → (b2 = true → x105 = .pointer (some ⟨bx, off + 4, none⟩)) → (b3 = true → x106 = .slice ka kn kc) → (b4 = true → x107 = .pointer (some ⟨g, 0, none⟩)) → (b5 = true → ∃ y : Int, 0 ≤ y ∧ y < 2 ∧ x108 = .int .i64 y) → (b6 = true → ∃ y : Int, 0 ≤ y ∧ y < 2 ∧ x109 = .int .i64 (30 + y)) → (b7 = true → ∃ p m, x110 = .slice (some ⟨p, 0, none⟩) m m) → (b8 = true → ∃ kd' a1' n1' c1' a2' n2' c2' a3' n3' c3' a4' n4' c4', x111 = .agg #[.int .i64 kd', .slice a1' n1' c1', .slice a2' n2' c2', .slice a3' n3' c3', .slice a4' n4' c4']) → (b9 = true → x112 = .int .i64 (kn : Int)) → (b10 = true → ∃ z, x113 = .slice (some ⟨z, 0, none⟩) 1 1 ∧ w3.heap.size ≤ z ∧ (b11 = false → Loc w z #[.int .i64 0, .slice none 0 0, .slice none 0 0, .slice none 0 0, .slice none 0 0] 26)) → (b11 = true → b3 = true ∧ b10 = true ∧ True ∧ ∃ gq cq, x114 = .slice (some ⟨gq, 0, none⟩) (kn + 1) cq ∧ Raw w 26 5 (.slice (some ⟨gq, 0, none⟩) (kn + 1) cq) ∧ wst.heap.size < gq ∧ gq ≠ bx ∧ gq ≠ b) → (b12 = true → b11 = true ∧ ∃ gq cq, x114 = .slice (some ⟨gq, 0, none⟩) (kn + 1) cq ∧ x115 = .pointer (some ⟨gq, kn * 5, none⟩)) → (b14 = true → x116 = .pointer (some ⟨bx, off, none⟩)) → (b15 = true → x117 = .pointer (some ⟨bx, off + 4, none⟩)) → (b16 = true → b11 = true ∧ w.cell? ⟨bx, off + 4, none⟩ = some x114) → C) → C
theorem Lb21_cases {i : Nat} (h : i < 17) : i = 0 ∨ i = 1 ∨ i = 2 ∨ i = 3 ∨ i = 4 ∨ i = 5 ∨ i = 6 ∨ i = 7 ∨ i = 8 ∨ i = 9 ∨ i = 10 ∨ i = 11 ∨ i = 12 ∨ i = 13 ∨ i = 14 ∨ i = 15 ∨ i = 16 := by omega
def Lb11 (w0 wst w3 : World) (g b bx off : Nat) (code : Value) (l : List Int) (ka : Option Addr) (kn kc : Nat) (s1 s2 s3 s5 s6 s7 s8 s9 s10 s11 s12 s13 s14 s15 s16 s17 s18 s19 s20 s21 s22 s23 s24 s25 s26 s27 s28 s29 s30 s31 s32 s33 s34 s35 s36 s37 s38 s39 s40 s54 s55 s56 s57 s58 s59 s60 s61 s62 s63 s64 s65 s66 s67 s68 s69 s70 s71 s72 s73 s74 s75 s76 s77 s78 s79 s80 s81 s82 s83 s84 s85 s86 s87 s88 s89 s90 s91 s92 s93 s94 s95 s96 s97 s98 s99 s100 s101 s102 s103 s104 s105 s106 s107 s108 s109 s110 s111 s112 s113 s114 s115 s116 s117 s118 s119 s120 s121 s122 s123 s124 s125 s126 s127 s128 s129 : Value) (L : Array Bool) (a : Act) (w : World) : Prop :=
  ∀ C : Prop, (∀ (b0 b1 b2 b3 b4 b5 b6 b7 b8 b9 b10 b11 b12 b13 b14 : Bool) (x41 x42 x43 x44 x45 x46 x47 x48 x49 x50 x51 x52 x53 : Value), L = #[b0, b1, b2, b3, b4, b5, b6, b7, b8, b9, b10, b11, b12, b13, b14] → a = { tmps := #[.pointer (some ⟨g, 0, none⟩), s1, s2, s3, .pointer (some ⟨bx, off, none⟩), s5, s6, s7, s8, s9, s10, s11, s12, s13, s14, s15, s16, s17, s18, s19, s20, s21, s22, s23, s24, s25, s26, s27, s28, s29, s30, s31, s32, s33, s34, s35, s36, s37, s38, s39, s40, x41, x42, x43, x44, x45, x46, x47, x48, x49, x50, x51, x52, x53, s54, s55, s56, s57, s58, s59, s60, s61, s62, s63, s64, s65, s66, s67, s68, s69, s70, s71, s72, s73, s74, s75, s76, s77, s78, s79, s80, s81, s82, s83, s84, s85, s86, s87, s88, s89, s90, s91, s92, s93, s94, s95, s96, s97, s98, s99, s100, s101, s102, s103, s104, s105, s106, s107, s108, s109, s110, s111, s112, s113, s114, s115, s116, s117, s118, s119, s120, s121, s122, s123, s124, s125, s126, s127, s128, s129], defers := [] } → BS w0 wst g code l b w → w3.heap.size ≤ w.heap.size → Bk w bx off → (b9 = false → w.cell? ⟨bx, off + 4, none⟩ = some (.slice ka kn kc) ∧ Raw w 26 5 (.slice ka kn kc)) → (b0 = true → x41 = .pointer (some ⟨bx, off, none⟩)) → (b1 = true → x42 = .pointer (some ⟨bx, off, none⟩)) → (b2 = true → x43 = .pointer (some ⟨bx, off + 4, none⟩)) → (b3 = true → x44 = .slice ka kn kc) → (b4 = true → ∃ p, x45 = .slice (some ⟨p, 0, none⟩) 1 1 ∧ w3.heap.size ≤ p ∧ (b5 = false → Loc w p #[.int .u8 98] 5)) → (b5 = true → b4 = true ∧ ∃ p, x46 = .slice (some ⟨p, 0, none⟩) 1 1) → (b6 = true → ∃ kd' a1' n1' c1' a2' n2' c2' a3' n3' c3' a4' n4' c4', x47 = .agg #[.int .i64 kd', .slice a1' n1' c1', .slice a2' n2' c2', .slice a3' n3' c3', .slice a4' n4' c4']) → (b7 = true → x48 = .int .i64 (kn : Int)) → (b8 = true → ∃ z, x49 = .slice (some ⟨z, 0, none⟩) 1 1 ∧ w3.heap.size ≤ z ∧ (b9 = false → Loc w z #[.int .i64 0, .slice none 0 0, .slice none 0 0, .slice none 0 0, .slice none 0 0] 26)) → (b9 = true → b3 = true ∧ b8 = true ∧ b5 = true ∧ ∃ gq cq, x50 = .slice (some ⟨gq, 0, none⟩) (kn + 1) cq ∧ Raw w 26 5 (.slice (some ⟨gq, 0, none⟩) (kn + 1) cq) ∧ wst.heap.size < gq ∧ gq ≠ bx ∧ gq ≠ b) → (b10 = true → b9 = true ∧ ∃ gq cq, x50 = .slice (some ⟨gq, 0, none⟩) (kn + 1) cq ∧ x51 = .pointer (some ⟨gq, kn * 5, none⟩)) → (b12 = true → x52 = .pointer (some ⟨bx, off, none⟩)) → (b13 = true → x53 = .pointer (some ⟨bx, off + 4, none⟩)) → (b14 = true → b9 = true ∧ w.cell? ⟨bx, off + 4, none⟩ = some x50) → C) → C
theorem Lb11_cases {i : Nat} (h : i < 15) : i = 0 ∨ i = 1 ∨ i = 2 ∨ i = 3 ∨ i = 4 ∨ i = 5 ∨ i = 6 ∨ i = 7 ∨ i = 8 ∨ i = 9 ∨ i = 10 ∨ i = 11 ∨ i = 12 ∨ i = 13 ∨ i = 14 := by omega
theorem BS.put5 {w0 w wr : World} {g b : Nat} {code : Value} {l : List Int} (h : BS w0 w g code l b wr) (hg : g < w.heap.size) (hs : w0.heap.size ≤ w.heap.size) (u1 u4 : Value) (h1 : ∃ a n c, u1 = .slice a n c) (h4 : ∃ a n c, u4 = .slice a n c) :
    BS w0 w g code l b (((((wr.setCell ⟨b, 0, none⟩ (.int .i64 0)).setCell ⟨b, 1, none⟩ u1).setCell ⟨b, 2, none⟩ (.slice none 0 0)).setCell ⟨b, 3, none⟩ (.slice none 0 0)).setCell ⟨b, 4, none⟩ u4) := by
  obtain ⟨a1, n1, c1, rfl⟩ := h1
  obtain ⟨a4, n4, c4, rfl⟩ := h4
  have hb := h.2.2.1
  have s0 := h.store (bx := b) (off := 0) (.inl ⟨rfl, rfl⟩) hb hg hs 0 (.int .i64 0) ⟨_, rfl⟩
  have s1 := s0.store (bx := b) (off := 0) (.inl ⟨rfl, rfl⟩) hb hg hs 1 (.slice a1 n1 c1) ⟨_, _, _, rfl⟩
  have s2 := s1.store (bx := b) (off := 0) (.inl ⟨rfl, rfl⟩) hb hg hs 2 (.slice none 0 0) ⟨_, _, _, rfl⟩
  have s3 := s2.store (bx := b) (off := 0) (.inl ⟨rfl, rfl⟩) hb hg hs 3 (.slice none 0 0) ⟨_, _, _, rfl⟩
  have s4 := s3.store (bx := b) (off := 0) (.inl ⟨rfl, rfl⟩) hb hg hs 4 (.slice a4 n4 c4) ⟨_, _, _, rfl⟩
  simpa using s4
set_option maxHeartbeats 25600000 in
theorem l2bent_any (w0 wst : World) (g : Nat) (code : Value) (l : List Int) (h : Cur w0 wst g code l) :
    Calls Tryz.prog 32 #[.pointer (some ⟨g, 0, none⟩)] wst fun e w' => ∃ v, e = .returned v ∧ NdV v ∧ Cur w0 w' g code l ∧ wst.grownBy w' (some g) := by
  have hlt := h.lt
  have hs0 := h.below.size
  have hA := (Below.refl wst.heap.size wst).alloc (Nat.le_refl _) (.cells #[.int .i64 0, .slice none 0 0, .slice none 0 0, .slice none 0 0, .slice none 0 0] 26)
  have lr := Loc.made wst #[.int .i64 0, .slice none 0 0, .slice none 0 0, .slice none 0 0, .slice none 0 0] 26
  have HD := hide (l2draw_all 4 (by decide) w0 _ g code l (h.keepAll hA))
  have LL := hide (And.intro hA lr)
  clear hA lr h
  go_enter Tryz.func32, Tryz.ntmps32
  go_wp2_with fail
  refine (unhide HD).mono ?_
  rintro e w1 ⟨k, p1, n1, c1, p2, n2, c2, p3, n3, c3, p4, n4, c4, rfl, ⟨t, F, hN, hnd, hrg, hsm⟩, hC1, hG1⟩
  obtain ⟨hA, lr⟩ := unhide LL
  clear LL HD
  simp only [World.size_alloc] at hrg
  have lr1 := lr.frm (Frm.ofGrown hG1) (by simp; omega)
  have hGw := grown_below' hA hG1
  have hA2 := (Below.refl w1.heap.size w1).alloc (Nat.le_refl _) (.cells #[.int .i64 k, .slice p1 n1 c1, .slice p2 n2 c2, .slice p3 n3 c3, .slice p4 n4 c4] 26)
  have lb := Loc.made w1 #[.int .i64 k, .slice p1 n1 c1, .slice p2 n2 c2, .slice p3 n3 c3, .slice p4 n4 c4] 26
  have hb : wst.heap.size < w1.heap.size := lr1.lt
  have hBS : BS w0 wst g code l w1.heap.size _ := ⟨⟨_, _, _, _, _, _, _, _, _, _, _, _, _, N5.loc (lr1.all hA2)⟩, ⟨_, _, _, _, _, _, _, _, _, _, _, _, _, N5.loc lb⟩, hb, hC1.keepAll hA2, grown_below hGw hA2⟩
  have hDn : Dn wst.heap.size w1.heap.size 4 (.pointer (some ⟨w1.heap.size, 0, none⟩), w1.alloc (.cells #[.int .i64 k, .slice p1 n1 c1, .slice p2 n2 c2, .slice p3 n3 c3, .slice p4 n4 c4] 26)) :=
    ⟨w1.heap.size, 0, _, _, _, _, _, t, F, rfl, N5.loc lb, hN.keep hA2, hnd, fun q hq => by have := hrg q hq; omega, fun e => by have := hrg _ e; omega, hb, .inl ⟨rfl, rfl⟩, hsm⟩
  have LL := hide (And.intro hBS hDn)
  have HO := hide (l1Once_any w0 _ g code l 5 hBS.2.2.2.1 (by decide) (by decide))
  clear hA lr lr1 hGw hA2 lb hBS hDn hN hnd hrg hsm hC1 hG1
  go_upto_region 2 with fail
  generalize (w1.alloc (.cells #[.int .i64 k, .slice p1 n1 c1, .slice p2 n2 c2, .slice p3 n3 c3, .slice p4 n4 c4] 26)) = w2 at *
  generalize w1.heap.size = b at *
  go_wp2_with fail
  refine (unhide HO).mono ?_
  rintro e w3 ⟨b5, rfl, hC3, hG3⟩
  obtain ⟨hBS, hDn⟩ := unhide LL
  clear LL HO
  have hBS3 := hBS.frm (Frm.ofGrown hG3) (fun q hq => by simp at hq; exact .inl hq) hlt (by simp; omega) hC3
  have hDn3 := hDn.frm (Frm.ofGrown hG3) (fun q hq => by simp at hq; omega)
  clear hBS hDn hC3 hG3
  cases b5 with
  | false =>
    obtain ⟨hrb, ⟨kd, a1, n1, c1, a2, n2, c2, a3, n3, c3, a4, n4, c4, hnb⟩, hbl, hC, hG⟩ := hBS3
    have hput := hrb.put5 (.int .i64 kd) (.slice a1 n1 c1) (.slice a2 n2 c2) (.slice a3 n3 c3) (.slice a4 n4 c4)
    have hsf := set5_frm w3 wst.heap.size (.int .i64 kd) (.slice a1 n1 c1) (.slice a2 n2 c2) (.slice a3 n3 c3) (.slice a4 n4 c4)
    have hC9 := hC.set' (Frm.toGrown' hsf) (by omega) hs0
    have hG9 := grown_new hG (Frm.toGrown' hsf) (fun q hq => by cases hq; exact Nat.le_refl _)
    obtain ⟨_, _, _, _, _, _, _, _, _, _, _, _, _, hr5⟩ := id hrb
    obtain ⟨y0, y1, y2, y3, y4⟩ := hr5.cells
    have g0 := hr5.frozen 0
    have g1 := hr5.frozen 1
    have g2 := hr5.frozen 2
    have g3 := hr5.frozen 3
    have g4 := hr5.frozen 4
    obtain ⟨z0, z1, z2, z3, z4⟩ := hnb.cells
    simp only [Nat.zero_add] at y0 y1 y2 y3 y4 z0 z1 z2 z3 z4
    have HE := hide (And.intro hput.cells (And.intro hC9 hG9))
    clear hput hsf hC9 hG9 hrb hr5 hnb hC hG hDn3
    go_wp2_with fail
    obtain ⟨⟨r0, r1, r2, r3, r4⟩, hC9, hG9⟩ := unhide HE
    simp only [Nat.zero_add] at r0 r1 r2 r3 r4
    exact bodyPost_ret (v := .agg #[.int .i64 kd, .slice a1 n1 c1, .slice a2 n2 c2, .slice a3 n3 c3, .slice a4 n4 c4]) (by simp [results, Tryz.results32, go_sem, r0, r1, r2, r3, r4]) rfl ⟨_, rfl, ⟨_, _, _, _, _, _, _, _, _, _, _, _, _, rfl⟩, hC9, hG9⟩
  | true =>
  obtain ⟨f, hf⟩ := least_ex (Dn wst.heap.size b)
  have HBS := hide hBS3
  have HDN := hide hDn3
  clear hBS3 hDn3
  go_wp2_with fail
  go_loopw [4] (fun p wr => BS w0 wst g code l b wr ∧ ∃ d, Dn wst.heap.size b d (p, wr)) (fun p wr => f (p, wr))
  case atStart => exact ⟨unhide HBS, 4, unhide HDN⟩
  case round =>
    clear HBS HDN
    obtain ⟨hBS, d, hd⟩ := hrel
    obtain ⟨D, hDe, hfd, -⟩ := hf _ _ hd
    clear hd d
    obtain ⟨bx, off, u0, u1, u2, u3, u4, t, F, rfl, hN5, hOw, hnd, hF, hbF, hHb, hrel2, hsm⟩ := id hfd
    obtain ⟨va, vb, vc, vd, Fc, Fd, e0, k1, k2, hr1, hr2, hr3, hr4, hFe⟩ := id hOw
    simp only [List.cons.injEq, and_true] at e0
    obtain ⟨rfl, rfl, rfl, rfl, rfl⟩ := e0
    obtain ⟨x1, y1, rfl⟩ := hr1.shape
    obtain ⟨x2, y2, rfl⟩ := hr2.shape
    obtain ⟨x3, y3, rfl, _, _⟩ := Elems.shape (OwAttrsM.rd hr3)
    obtain ⟨x4, y4, rfl, _, _⟩ := Elems.shape (OwKidsM.rd hr4)
    obtain ⟨z0, z1, z2, z3, z4⟩ := hN5.cells
    have hkl : t.kids.length ≤ 3 := hsm.2.2.2.2.1
    have HBS := hide hBS
    have HTG := hide (show Tg wst.heap.size b wr bx off _ _ _ _ _ from ⟨hN5, hr2.raw, (by obtain ⟨_, _, _, _, _, q, _⟩ := hr3; exact own_raw q), (by obtain ⟨_, _, _, _, _, q, _⟩ := hr4; exact own_raw q), fun q hq => by
      have hq' : q ∈ F := by
        obtain ⟨_, _, _, _, _, _, q3⟩ := hr3
        obtain ⟨_, _, _, _, _, _, q4⟩ := hr4
        rw [hFe, q3, q4]
        simp only [List.mem_append] at hq ⊢
        rcases hq with (hq | hq) | hq
        · exact .inl (.inl (.inr hq))
        · exact .inl (.inr (.inl hq))
        · exact .inr (.inl hq)
      exact ⟨(hF q hq').1, fun e => hbF (e ▸ hq'), (hF q hq').2⟩, hHb, hrel2⟩)
    have hsmL : t.text.length ≤ 8 ∧ t.attrs.length ≤ 3 := ⟨hsm.2.1, hsm.2.2.1⟩
    have HPK := hide (And.intro hN5 (And.intro hOw (And.intro hnd (And.intro hF (And.intro hbF hsm)))))
    clear hfd hBS hN5 hOw hr1 hr2 hr3 hr4 hsm
    go_upto_region 5 with fail
    go_cut [22] from 13 to 22 (fun tv wx => ∃ bb : Bool, tv = .bool bb ∧ (bb = true → 0 < t.kids.length) ∧ Cur w0 wx g code l ∧ wr.grownBy wx (some g))
    case first =>
      have hCr := (unhide HBS).2.2.2.1
      by_cases hk0 : 0 < t.kids.length
      · have hk0' : (0 : Int) < (t.kids.length : Int) := by omega
        have HO := hide (l1Once_any w0 wr g code l 2 hCr (by decide) (by decide))
        clear hCr
        go_wp2_with fail
        refine (unhide HO).mono ?_
        rintro e w4 ⟨b6, rfl, hC4, hG4⟩
        go_wp2_with fail
        go_meet
        exact ⟨_, rfl, (fun _ => hk0), hC4, hG4⟩
      · have hk0' : ¬ (0 : Int) < (t.kids.length : Int) := by omega
        go_wp2_with fail
        go_meet
        exact ⟨false, rfl, (fun h => by cases h), hCr, World.grownBy.refl _ _⟩
    case rest =>
    obtain ⟨bb, rfl, hbb, hC4, hG4⟩ := hcut
    have hfr := Frm.ofGrown hG4
    have hBS4 := (unhide HBS).frm hfr (fun q hq => by simp at hq; exact .inl hq) hlt (by have := (unhide HBS).2.2.1; simp; omega) hC4
    have hTg4 := (unhide HTG).frm hfr (by simp; omega) (fun q hq e => by have := ((unhide HTG).2.2.2.2.1 q hq).1; simp at e; omega)
    clear HBS HTG hF hbF hFe z0 z1 z2 z3 z4 hnd
    cases bb with
    | true =>
      have hk0 := hbb rfl
      obtain ⟨hN5, hOw, hnd, hF, hbF, hsm⟩ := unhide HPK
      have hN5c := hN5.frm hfr (by simp; omega)
      have hOwc := hOw.frm hfr (fun q hq e => by have := (hF q hq).1; simp at e; omega)
      have hkl0 : t.kids.length = t.kids.length := rfl
      obtain ⟨gk, cp, _, _, _, _, _, _, e4, _⟩ := hOwc.kid hnd 0 hk0
      injection e4 with e41 _ e43
      subst e41 e43
      have HPK := hide (And.intro hN5c (And.intro hOwc (And.intro hnd (And.intro hF (And.intro hbF hsm)))))
      have hdr : Below wc.heap.size wc wc.drew := (Below.refl _ _).drew
      have HB := hide (l1Below_any w0 wc.drew g code l (t.kids.length : Int) (hC4.keepAll hdr) (by omega) (by omega))
      have HBS := hide hBS4
      have z4d : wc.drew.cell? ⟨bx, off + 4, none⟩ = some (.slice (some ⟨gk, 0, none⟩) t.kids.length y4) := hN5c.cells.2.2.2.2
      have he2 : ∀ args wst, (callFunc 74 args).run Tryz.prog wst = .ok (.enter 74 args) wst := enters_of Tryz.func74 (by kernel_rfl) rfl
      clear hbb hN5 hOw hN5c hOwc hnd hF hbF hsm hTg4 hBS4 hfr hG4
      go_wp2_with fail
      go_region_law (refine step_call (by rfl) 74 [.tmp 27, .tmp 32] #[70, 3] (by rfl) he2 [.pointer (some ⟨g, 0, none⟩), .int .i64 (t.kids.length : Int)] (by rfl) (unhide HB) ?_; clear HB; rintro e w6 ⟨kk, hkk0, hkk1, rfl, hC6, hG6⟩; obtain ⟨kk, rfl⟩ := Int.eq_ofNat_of_zero_le hkk0; have z46 : w6.cell? ⟨bx, off + 4, none⟩ = some (.slice (some ⟨gk, 0, none⟩) t.kids.length y4) := (hG6.cell_far ⟨bx, off + 4, none⟩ (by have := (unhide HPK).1.lt; exact this) (by simp; omega)).trans z4d; refine ⟨_, rfl, ?_⟩)
      all_goals
        have hkl : kk < t.kids.length := by omega
        have hG6' : wc.grownBy w6 (some g) := ⟨hG6.os, hG6.tape, hG6.output, hG6.size, hG6.block⟩
        have hfr := Frm.ofGrown hG6'
        obtain ⟨hN5, hOw, hnd, hF, hbF, hsm⟩ := unhide HPK
        obtain ⟨gk2, cp2, v0, v1, v2, v3, v4, F', e4, hk5, hkO, hknd, hkF, hkg, hkn⟩ := hOw.kid hnd kk hkl
        injection e4 with e41 _ _
        injection e41 with e41
        injection e41 with e41 _ _
        subst e41
        have hB6 := (unhide HBS).frm hfr (fun q hq => by simp at hq; exact .inl hq) hlt (by have := (unhide HBS).2.2.1; simp; omega) hC6
        have hsk := hsm.2.2.2.2.2 _ (List.getElem_mem hkl)
        have hDn : ∃ d, d < D ∧ Dn wst.heap.size b d (.pointer (some ⟨gk, kk * 5, none⟩), w6) := by
          cases D with
          | zero => exact hkO.elim
          | succ d => exact ⟨d, Nat.lt_succ_self _, gk, kk * 5, v0, v1, v2, v3, v4, t.kids[kk], F', rfl, hk5.frm hfr (by have := (hF _ hkg).1; simp; omega), OwNodeM.frm hkO hfr (fun q hq e => by have := (hF q (hkF q hq)).1; simp at e; omega), hknd, fun q hq => hF q (hkF q hq), hkn, (hF _ hkg).1, .inr (hF _ hkg).2, hsk⟩
        have HE := hide (And.intro hB6 hDn)
        clear hN5 hOw hnd hF hbF hsm hk5 hkO hB6 hDn hsk hfr z4d z46 hG6 hG6' HPK HBS
        go_wp2_with fail
        go_roundw
        case rel => exact ⟨(unhide HE).1, by obtain ⟨d, _, h⟩ := (unhide HE).2; exact ⟨d, h⟩⟩
        case measure =>
          obtain ⟨d, hd1, hd2⟩ := (unhide HE).2
          obtain ⟨D2, hD2, _, hle⟩ := hf _ _ hd2
          rw [← hDe, ← hD2]
          omega
    | false =>
      have HBS := hide hBS4
      have HTG := hide hTg4
      have HO := hide (l1Below_any w0 wc g code l 7 hC4 (by decide) (by decide))
      clear hbb HPK hBS4 hTg4 hC4 hG4 hfr
      go_wp2_with fail
      refine (unhide HO).mono ?_
      rintro e w5 ⟨ks, hks0, hks1, rfl, hC5, hG5⟩
      have hfr := Frm.ofGrown hG5
      have hBS5 := (unhide HBS).frm hfr (fun q hq => by simp at hq; exact .inl hq) hlt (by have := (unhide HBS).2.2.1; simp; omega) hC5
      have hTg5 := (unhide HTG).frm hfr (by simp; omega) (fun q hq e => by have := ((unhide HTG).2.2.2.2.1 q hq).1; simp at e; omega)
      have HBS5 := hide hBS5
      have HTG5 := hide hTg5
      clear HO HBS HTG hfr hG5 hBS5 hTg5 hC5
      go_upto_block 2 with fail
      go_cut [] from 5 to 128 (fun wx => BS w0 wst g code l b wx)
      case first =>
        by_cases k0 : ks = 0
        · subst k0
          have HO := hide (l1Below_any w0 w5 g code l 4 (unhide HBS5).2.2.2.1 (by decide) (by decide))
          go_wp2_with fail
          refine (unhide HO).mono ?_
          rintro e w6 ⟨y, hy0, hy1, rfl, hC6, hG6⟩
          have hfr := Frm.ofGrown hG6
          have hB6 := (unhide HBS5).frm hfr (fun q hq => by simp at hq; exact .inl hq) hlt (by have := (unhide HBS5).2.2.1; simp; omega) hC6
          have hT6 := (unhide HTG5).frm hfr (by have := (unhide HTG5).2.2.2.2.2.1; simp; omega) (fun q hq e => by have := ((unhide HTG5).2.2.2.2.1 q hq).1; simp at e; omega)
          obtain ⟨hN6, _, _, _, _, hHb, hrel2⟩ := hT6
          obtain ⟨z0, _, _, _, _⟩ := hN6.cells
          have g0 := hN6.frozen off
          have HE := hide (fun v hv => hB6.store hrel2 hHb hlt hs0 0 v hv)
          clear hB6 hN6 hG6 hC6 hfr HO HBS5 HTG5 hrel2
          go_wp2_with fail
          go_meet
          exact unhide HE _ ⟨_, rfl⟩
        by_cases k1 : ks = 1
        · subst k1
          have hA := (Below.refl w5.heap.size w5).alloc (Nat.le_refl _) (.cells #[.string ⟨#[]⟩, .string ⟨#[80]⟩, .string ⟨#[49, 97]⟩, .string ⟨#[116, 111, 111, 108, 111, 110, 103, 120, 120]⟩, .string ⟨#[98, 114]⟩] 9)
          have lt := Loc.made w5 #[.string ⟨#[]⟩, .string ⟨#[80]⟩, .string ⟨#[49, 97]⟩, .string ⟨#[116, 111, 111, 108, 111, 110, 103, 120, 120]⟩, .string ⟨#[98, 114]⟩] 9
          have hg5 := (unhide HBS5).2.2.2.1.lt
          have HO := hide (l1Below_any w0 _ g code l 5 ((unhide HBS5).2.2.2.1.keepAll hA) (by decide) (by decide))
          have LL := hide (And.intro hA lt)
          clear hA lt
          go_wp2_with fail
          refine (unhide HO).mono ?_
          rintro e w6 ⟨y, hy0, hy1, rfl, hC6, hG6⟩
          obtain ⟨hA, lt⟩ := unhide LL
          clear LL HO
          have hG6' := grown_below' hA hG6
          have lt1 := lt.frm (Frm.ofGrown hG6) (by simp; omega)
          obtain ⟨y, rfl⟩ := Int.eq_ofNat_of_zero_le hy0
          obtain ⟨s, hs, hs9⟩ : ∃ s : ByteArray, w6.cell? ⟨w5.heap.size, y, none⟩ = some (.string s) ∧ s.size ≤ 9 := by
            rw [lt1.cell y]
            have hk : y < 5 := by omega
            match y, hk with
            | 0, _ => exact ⟨_, rfl, by decide⟩
            | 1, _ => exact ⟨_, rfl, by decide⟩
            | 2, _ => exact ⟨_, rfl, by decide⟩
            | 3, _ => exact ⟨_, rfl, by decide⟩
            | 4, _ => exact ⟨_, rfl, by decide⟩
          have hfr := Frm.ofGrown hG6'
          have hB6 := (unhide HBS5).frm hfr (fun q hq => by simp at hq; exact .inl hq) hlt (by have := (unhide HBS5).2.2.1; simp; omega) hC6
          have hT6 := (unhide HTG5).frm hfr (by have := (unhide HTG5).2.2.2.2.2.1; simp; omega) (fun q hq e => by have := ((unhide HTG5).2.2.2.2.1 q hq).1; simp at e; omega)
          obtain ⟨w7, cap, hrun, hrow, hB⟩ := conv_row w6 s (by omega)
          have hB7 := hB6.frm (Frm.ofBelow hB []) (fun q hq => by cases hq) hlt (by simp) (hC6.keepAll hB)
          have hT7 := hT6.frm (Frm.ofBelow hB []) (by simp) (fun _ _ => by simp)
          obtain ⟨hN7, _, _, _, _, hHb, hrel2⟩ := hT7
          obtain ⟨_, z1, _, _, _⟩ := hN7.cells
          have g1 := hN7.frozen (off + 1)
          have HE := hide (fun v hv => hB7.store hrel2 hHb hlt hs0 1 v hv)
          have hy5 : (y : Int) < 5 := hy1
          clear hB6 hB7 hT6 hN7 hG6 hG6' hC6 hfr HBS5 HTG5 hrel2 hA lt lt1 hrow hB
          go_wp2_with fail
          go_meet
          exact unhide HE _ ⟨_, _, _, rfl⟩
        by_cases k2 : ks = 2
        · subst k2
          obtain ⟨iz, hty⟩ := zty0
          have hdr : Below w5.heap.size w5 w5.drew := (Below.refl _ _).drew
          have HB := hide (l1Byte_any w0 w5.drew g code l ((unhide HBS5).2.2.2.1.keepAll hdr))
          have he2 : ∀ args wst, (callFunc 76 args).run Tryz.prog wst = .ok (.enter 76 args) wst := enters_of Tryz.func76 (by kernel_rfl) rfl
          have z2d : w5.drew.cell? ⟨bx, off + 2, none⟩ = some (.slice x2 t.text.length y2) := (unhide HTG5).1.cells.2.2.1
          have hbl := (unhide HTG5).1.lt
          have hHb' := (unhide HTG5).2.2.2.2.2.1
          go_wp2_with fail
          go_region_law
            (first
              | (refine step_call (by rfl) 76 [.tmp 80] #[70] (by rfl) he2 [.pointer (some ⟨g, 0, none⟩)] (by rfl) (unhide HB) ?_; clear HB; rintro e w6 ⟨y, hy0, hy1, rfl, hC6, hG6⟩; have hwy : IntKind.u8.wrap y = y := (IntWalk.u8_in y ⟨hy0, hy1⟩); have hG6' : w5.grownBy w6 (some g) := ⟨hG6.os, hG6.tape, hG6.output, hG6.size, hG6.block⟩; have hfr := Frm.ofGrown hG6'; have hB6 := (unhide HBS5).frm hfr (fun q hq => by simp at hq; exact .inl hq) hlt (by have := (unhide HBS5).2.2.1; simp; omega) hC6; have hT6 := (unhide HTG5).frm hfr (by simp; omega) (fun q hq e => by have := ((unhide HTG5).2.2.2.2.1 q hq).1; simp at e; omega); have z26 := hT6.1.cells.2.2.1; have hA6 : Below w6.heap.size w6 (w6.alloc (.cells #[.int .u8 y] 5)) := (Below.refl _ _).alloc (Nat.le_refl _) _; have hT7 := hT6.frm (Frm.ofBelow hA6 []) (by simp) (fun _ _ => by simp); have hB7 := hB6.frm (Frm.ofBelow hA6 []) (fun q hq => by cases hq) hlt (by simp) (hC6.keepAll hA6); have z27 := hT7.1.cells.2.2.1; have HW := hide (And.intro hB7 hT7); clear hB6 hT6 hB7 hT7 hfr hG6 hC6; refine ⟨_, rfl, ?_⟩)
              | (refine step_raw hty (by rfl) (.tmp 79) (.tmp 83) (by rfl) x2 t.text.length y2 (by rfl) (unhide HW).2.2.1 ⟨w6.heap.size, 0, none⟩ 1 [.int .u8 y] (by rfl) rfl (cell_one_new _ _ _) (fun u hu => by simp at hu; subst hu; rfl) (by omega) ?_; intro g8 cap8 w8 hraw hg8 hw8; have hS : ∀ q ∈ (Value.slice x2 t.text.length y2).ownBlock.toList, wst.heap.size < q ∧ q ≠ bx ∧ q ≠ b := (fun q hq => (unhide HW).2.2.2.2.2.1 q (by simp only [FB, List.mem_append]; exact .inl (.inl hq))); have hfr := Frm.ofGrown hg8; have hN8 := (unhide HW).2.1.frm hfr (fun e => (hS bx e).2.1 rfl); have z28 := hN8.cells.2.2.1; have g28 := hN8.frozen (off + 2)))
          all_goals
            obtain ⟨hB7, hT7⟩ := unhide HW
            have hB8 := hB7.frm hfr (fun q hq => .inr (hS q hq).1) hlt (fun e => (hS b e).2.2 rfl) (hB7.2.2.2.1.keep hg8 (fun e => by have := (hS g (by rw [← e]; simp)).1; omega) (fun q hq => by have := (hS q (by rw [hq]; simp)).1; omega))
            have HE := hide (fun v hv => hB8.store hT7.2.2.2.2.2.2 hT7.2.2.2.2.2.1 hlt hs0 2 v hv)
            clear hB7 hT7 hB8 hfr hS hN8 hg8 hraw hw8 HW z2d z26 z27
            go_wp2_with fail
            go_meet
            exact unhide HE _ ⟨_, _, _, rfl⟩
        by_cases k3 : ks = 3
        · subst k3
          have kc := Lib.run_convert_bytes_const (P := Tryz.prog) w5 22 5 #[.int .u8 97] 1 1 Tryz.underlying22 Tryz.underlying5
          have hA : Below w5.heap.size w5 ((w5.alloc (.cells #[.int .u8 97] 5 (1, 2))).alloc (.cells #[.slice (some ⟨w5.heap.size, 0, none⟩) 1 1, .slice none 0 0] 109)) := bstep ((Below.refl _ _).alloc (Nat.le_refl _) _) ((Below.refl _ _).alloc (Nat.le_refl _) _)
          have hB6 := (unhide HBS5).frm (Frm.ofBelow hA []) (fun q hq => by cases hq) hlt (by simp) ((unhide HBS5).2.2.2.1.keepAll hA)
          have hT6 := (unhide HTG5).frm (Frm.ofBelow hA []) (by simp) (fun _ _ => by simp)
          have hnw : ∀ j u, [.slice (some ⟨w5.heap.size, 0, none⟩) 1 1, .slice none 0 0][j]? = some u → ((w5.alloc (.cells #[.int .u8 97] 5 (1, 2))).alloc (.cells #[.slice (some ⟨w5.heap.size, 0, none⟩) 1 1, .slice none 0 0] 109)).cell? ((⟨w5.heap.size + 1, 0, none⟩ : Addr).add j) = some u := fun j u hu => by
            have := World.news_of_block (heap_alloc_new (w5.alloc (.cells #[.int .u8 97] 5 (1, 2))) (.cells #[.slice (some ⟨w5.heap.size, 0, none⟩) 1 1, .slice none 0 0] 109)) j u (by simpa using hu)
            simpa using this
          have HW := hide (And.intro hB6 (And.intro hT6 hnw))
          obtain ⟨iz, hty⟩ := zty1
          have z3 := (unhide HTG5).1.cells.2.2.2.1
          clear hB6 hT6 hnw hA HBS5 HTG5
          go_wp2_with (at_builtin; refine wpList_raw hty rfl _ _ rfl x3 t.attrs.length y3 rfl (unhide HW).2.1.2.2.1 ⟨w5.heap.size + 1, 0, none⟩ 1 [.slice (some ⟨w5.heap.size, 0, none⟩) 1 1, .slice none 0 0] rfl rfl (unhide HW).2.2 (fun u hu => by simp at hu; rcases hu with rfl | rfl <;> rfl) (by omega) ?_)
          intro g6 cap6 w6 hraw hg6 hw6
          have hfr := Frm.ofGrown hg6
          obtain ⟨hB6, hT6, _⟩ := unhide HW
          have hS : ∀ q ∈ (Value.slice x3 t.attrs.length y3).ownBlock.toList, wst.heap.size < q ∧ q ≠ bx ∧ q ≠ b := fun q hq => hT6.2.2.2.2.1 q (by simp only [FB, List.mem_append]; exact .inl (.inr hq))
          have hB7 := hB6.frm hfr (fun q hq => .inr (hS q hq).1) hlt (fun e => (hS b e).2.2 rfl) (hB6.2.2.2.1.keep hg6 (fun e => by have := (hS g (by rw [← e]; simp)).1; omega) (fun q hq => by have := (hS q (by rw [hq]; simp)).1; omega))
          have hN7 := hT6.1.frm hfr (fun e => (hS bx e).2.1 rfl)
          obtain ⟨_, _, _, z3', _⟩ := hN7.cells
          have g3 := hN7.frozen (off + 3)
          have HE := hide (fun v hv => hB7.store hT6.2.2.2.2.2.2 hT6.2.2.2.2.2.1 hlt hs0 3 v hv)
          clear hB6 hB7 hT6 hN7 hg6 hw6 hraw hfr HW hS z3
          go_wp2_with fail
          go_meet
          exact unhide HE _ ⟨_, _, _, rfl⟩
        by_cases k4 : ks = 4
        · subst k4
          obtain ⟨ka, hka⟩ : ∃ ka, ka = x4 := ⟨_, rfl⟩
          obtain ⟨kc, hkc⟩ : ∃ kc, kc = y4 := ⟨_, rfl⟩
          subst hka hkc
          generalize hknE : t.kids.length = kn at *
          clear hknE
          obtain ⟨iz, hty⟩ := zty2
          obtain ⟨hN5, hq2, hq3, hq4, hqd, hHb, hrel2⟩ := unhide HTG5
          have hBS := unhide HBS5
          obtain ⟨w3, hw3⟩ : ∃ w3, w3 = w5 := ⟨_, rfl⟩
          subst hw3
          have hbx3 := hN5.lt
          have hb3 : b < w3.heap.size := by obtain ⟨_, _, _, _, _, _, _, _, _, _, _, _, _, h⟩ := hBS.2.1; exact h.lt
          have hKV : ∀ q ∈ FB (.slice ka kn kc), wst.heap.size < q ∧ q ≠ bx ∧ q ≠ b ∧ q < w3.heap.size := fun q hq => ⟨(hqd q (by simp only [List.mem_append]; exact .inr hq)).1, (hqd q (by simp only [List.mem_append]; exact .inr hq)).2.1, (hqd q (by simp only [List.mem_append]; exact .inr hq)).2.2, by
            obtain ⟨_, _, _, e, _, _, ⟨e0, _⟩ | ⟨g9, cur, fz, e0, h9, _⟩⟩ := hq4
            · cases e; subst e0; simp [FB, Value.ownBlock] at hq
            · cases e; subst e0; simp [FB, Value.ownBlock] at hq; subst hq; exact (Array.getElem?_eq_some_iff.1 h9).1⟩
          have hbk : Bk w3.drew bx off := hN5.bk
          have hc4 : w3.drew.cell? ⟨bx, off + 4, none⟩ = some (.slice ka kn kc) := hN5.cells.2.2.2.2
          have hq4d : Raw w3.drew 26 5 (.slice ka kn kc) := hq4
          have hBSd : BS w0 wst g code l b w3.drew := hBS.frm (Frm.ofBelow ((Below.refl _ _).drew) []) (fun q hq => by cases hq) hlt (by simp) (hBS.2.2.2.1.keepAll ((Below.refl _ _).drew))
          clear hN5 hq2 hq3 hqd HTG5 HBS5
          go_wp2_with fail
          refine region_inv (by kernel_rfl) (Lb21 w0 wst w3 g b bx off code l ka kn kc (undef) (.pointer (some ⟨wst.heap.size, 0, none⟩)) (.pointer (some ⟨b, 0, none⟩)) (undef) (undef) (.pointer (some ⟨g, 0, none⟩)) (.agg #[.int .i64 k, .slice p1 n1 c1, .slice p2 n2 c2, .slice p3 n3 c3, .slice p4 n4 c4]) (.pointer (some ⟨g, 0, none⟩)) (.bool true) (.bool false) (undef) (u13) (u14) (u15) (u16) (u17) (u18) (u19) (u20) (u21) (.bool false) (u23) (u24) (u25) (u26) (u27) (u28) (u29) (u30) (u31) (u32) (u33) (u34) (.pointer (some ⟨g, 0, none⟩)) (.int .i64 4) (undef) (undef) (undef) (undef) (undef) (undef) (undef) (undef) (undef) (undef) (undef) (undef) (undef) (undef) (undef) (undef) (undef) (.bool false) (.bool false) (undef) (undef) (undef) (undef) (undef) (undef) (.bool false) (.bool false) (undef) (undef) (undef) (undef) (undef) (undef) (undef) (undef) (undef) (.bool false) (.bool false) (undef) (undef) (undef) (undef) (undef) (undef) (undef) (undef) (undef) (undef) (undef) (undef) (.bool false) (.bool false) (undef) (undef) (undef) (undef) (undef) (undef) (undef) (undef) (undef) (undef) (undef) (undef) (.bool true) (.bool true) (undef) (undef) (undef) (undef) (undef) (undef) (undef) (undef) (undef) (undef) (undef) (undef)) ?sz ?h0 ?step ?dn
          case sz =>
            intro L a w hI
            refine hI _ ?_
            intro b0 b1 b2 b3 b4 b5 b6 b7 b8 b9 b10 b11 b12 b13 b14 b15 b16 x103 x104 x105 x106 x107 x108 x109 x110 x111 x112 x113 x114 x115 x116 x117 eL eA h0 h1 h2 h3 f0 f1 f2 f3 f4 f5 f6 f7 f8 f9 f10 f11 f12 f14 f15 f16
            subst eL
            rfl
          case h0 =>
            exact fun _ k_ => k_ false false false false false false false false false false false false false false false false false _ _ _ _ _ _ _ _ _ _ _ _ _ _ _ rfl rfl hBSd (Nat.le_refl _) hbk (fun _ => ⟨hc4, hq4d⟩) (fun h => by cases h) (fun h => by cases h) (fun h => by cases h) (fun h => by cases h) (fun h => by cases h) (fun h => by cases h) (fun h => by cases h) (fun h => by cases h) (fun h => by cases h) (fun h => by cases h) (fun h => by cases h) (fun h => by cases h) (fun h => by cases h) (fun h => by cases h) (fun h => by cases h) (fun h => by cases h)
          case step =>
            intro L a w i o hI hi ho
            refine hI _ ?_
            clear hI
            intro b0 b1 b2 b3 b4 b5 b6 b7 b8 b9 b10 b11 b12 b13 b14 b15 b16 x103 x104 x105 x106 x107 x108 x109 x110 x111 x112 x113 x114 x115 x116 x117 eL eA h0 h1 h2 h3 f0 f1 f2 f3 f4 f5 f6 f7 f8 f9 f10 f11 f12 f14 f15 f16
            subst eL eA
            rcases Lb21_cases (ready_lt hi) with rfl | rfl | rfl | rfl | rfl | rfl | rfl | rfl | rfl | rfl | rfl | rfl | rfl | rfl | rfl | rfl | rfl
            · obtain rfl := Option.some.inj ho
              go_simp
              exact fun _ k_ => k_ true b1 b2 b3 b4 b5 b6 b7 b8 b9 b10 b11 b12 b13 b14 b15 b16 _ x104 x105 x106 x107 x108 x109 x110 x111 x112 x113 x114 x115 x116 x117 rfl rfl h0 h1 h2 h3 (fun _ => rfl) f1 f2 f3 f4 f5 f6 f7 f8 f9 f10 f11 f12 f14 f15 f16
            · have g0 := ready_pred hi ho 0
              obtain rfl := Option.some.inj ho
              have e0 := f0 (g0 (by kernel_rfl))
              subst e0
              go_simp
              exact fun _ k_ => k_ b0 true b2 b3 b4 b5 b6 b7 b8 b9 b10 b11 b12 b13 b14 b15 b16 _ _ x105 x106 x107 x108 x109 x110 x111 x112 x113 x114 x115 x116 x117 rfl rfl h0 h1 h2 h3 f0 (fun _ => rfl) f2 f3 f4 f5 f6 f7 f8 f9 f10 f11 f12 f14 f15 f16
            · have g1 := ready_pred hi ho 1
              obtain rfl := Option.some.inj ho
              have e1 := f1 (g1 (by kernel_rfl))
              subst e1
              go_simp
              exact fun _ k_ => k_ b0 b1 true b3 b4 b5 b6 b7 b8 b9 b10 b11 b12 b13 b14 b15 b16 x103 _ _ x106 x107 x108 x109 x110 x111 x112 x113 x114 x115 x116 x117 rfl rfl h0 h1 h2 h3 f0 f1 (fun _ => rfl) f3 f4 f5 f6 f7 f8 f9 f10 f11 f12 f14 f15 f16
            · have g2 := ready_pred hi ho 2
              obtain rfl := Option.some.inj ho
              have e2 := f2 (g2 (by kernel_rfl))
              subst e2
              have hbz : b3 = false := by simpa using ready_off rfl hi
              have ck := (h3 (by cases hb : b11 with
                | false => rfl
                | true => have := (f11 hb).1; rw [hbz] at this; cases this)).1
              clear hbz
              go_simp
              exact fun _ k_ => k_ b0 b1 b2 true b4 b5 b6 b7 b8 b9 b10 b11 b12 b13 b14 b15 b16 x103 x104 _ _ x107 x108 x109 x110 x111 x112 x113 x114 x115 x116 x117 rfl rfl h0 h1 h2 h3 f0 f1 f2 (fun _ => rfl) f4 f5 f6 f7 f8 f9 f10 (fun h => ⟨rfl, (f11 h).2⟩) f12 f14 f15 f16
            · obtain rfl := Option.some.inj ho
              go_simp
              exact fun _ k_ => k_ b0 b1 b2 b3 true b5 b6 b7 b8 b9 b10 b11 b12 b13 b14 b15 b16 x103 x104 x105 x106 _ x108 x109 x110 x111 x112 x113 x114 x115 x116 x117 rfl rfl h0 h1 h2 h3 f0 f1 f2 f3 (fun _ => rfl) f5 f6 f7 f8 f9 f10 f11 f12 f14 f15 f16
            · have g4 := ready_pred hi ho 4
              have hbz : b5 = false := by simpa using ready_off rfl hi
              obtain rfl := Option.some.inj ho
              have e4 := f4 (g4 (by kernel_rfl))
              subst e4
              clear hbz
              go_simp
              refine (l1Below_any w0 w g code l 2 h0.2.2.2.1 (by decide) (by decide)).mono ?_
              rintro e w9 ⟨y, hy0, hy1, rfl, hC9, hG9⟩
              have hf := Frm.ofGrown hG9
              have hB9 := h0.frm hf (fun q hq => by simp at hq; exact .inl hq) hlt (by have := h0.2.2.1; simp; omega) hC9
              have hs9 := Nat.le_trans h1 hG9.size
              have nbx : bx ∉ (some g).toList := by simp; omega
              have nKV : ∀ q ∈ FB (.slice ka kn kc), q ∉ (some g).toList := fun q hq => by have := (hKV q hq).1; simp; omega
              have nz : ∀ z, w3.heap.size ≤ z → Loc w z #[.int .i64 0, .slice none 0 0, .slice none 0 0, .slice none 0 0, .slice none 0 0] 26 → z ∉ (some g).toList := fun z hz _ => by simp; omega
              have ng9 : ∀ q, wst.heap.size < q → q ∉ (some g).toList := fun q hq => by simp; omega
              exact fun _ k_ => k_ b0 b1 b2 b3 b4 true b6 b7 b8 b9 b10 b11 b12 b13 b14 b15 b16 x103 x104 x105 x106 _ _ x109 x110 x111 x112 x113 x114 x115 x116 x117 rfl rfl hB9 hs9 (h2.frm hf nbx) (fun ha => ⟨(hf.cell4 h2 nbx).trans (h3 ha).1, (h3 ha).2.frm hf nKV⟩) f0 f1 f2 f3 f4 (fun _ => ⟨y, hy0, hy1, rfl⟩) f6 f7 f8 f9 (fun h => by obtain ⟨z, e, hz, t⟩ := f10 h; exact ⟨z, e, hz, fun ha => (t ha).frm hf (nz z hz (t ha))⟩) (fun h => by obtain ⟨e1, e2, e3, gq, cq, e, t, q1, q2, q3⟩ := f11 h; exact ⟨e1, e2, e3, gq, cq, e, t.frm hf (fun q hq => ng9 q (by have e9 : q = gq := (by simpa [FB, Value.ownBlock, eq_comm] using hq); omega)), q1, q2, q3⟩) f12 f14 f15 (fun h => ⟨(f16 h).1, (hf.cell4 h2 nbx).trans (f16 h).2⟩)
            · have g5 := ready_pred hi ho 5
              obtain rfl := Option.some.inj ho
              obtain ⟨y, hy0, hy1, ex⟩ := f5 (g5 (by kernel_rfl))
              subst ex
              have hwr : IntKind.i64.wrap (30 + y) = 30 + y := by rw [IntKind.wrap_i64]; omega
              go_simp
              exact fun _ k_ => k_ b0 b1 b2 b3 b4 b5 true b7 b8 b9 b10 b11 b12 b13 b14 b15 b16 x103 x104 x105 x106 x107 _ _ x110 x111 x112 x113 x114 x115 x116 x117 rfl rfl h0 h1 h2 h3 f0 f1 f2 f3 f4 (fun _ => ⟨y, hy0, hy1, rfl⟩) (fun _ => ⟨y, hy0, hy1, by first | rfl | rw [hwr]⟩) f7 f8 f9 f10 f11 f12 f14 f15 f16
            · have g6 := ready_pred hi ho 6
              obtain rfl := Option.some.inj ho
              obtain ⟨y, hy0, hy1, ex⟩ := f6 (g6 (by kernel_rfl))
              subst ex
              have hfo := fun (o : Obj) => Frm.ofBelow ((Below.refl w.heap.size w).alloc (Nat.le_refl _) o) []
              have hBo := fun (o : Obj) => h0.frm (hfo o) (fun q hq => by cases hq) hlt (by simp) (h0.2.2.2.1.keepAll ((Below.refl w.heap.size w).alloc (Nat.le_refl _) o))
              have hso := fun (o : Obj) => Nat.le_trans h1 (hfo o).size
              have nbx : bx ∉ ([] : List Nat) := by simp
              have nKV : ∀ q ∈ FB (.slice ka kn kc), q ∉ ([] : List Nat) := fun _ _ => by simp
              have nz : ∀ z, w3.heap.size ≤ z → Loc w z #[.int .i64 0, .slice none 0 0, .slice none 0 0, .slice none 0 0, .slice none 0 0] 26 → z ∉ ([] : List Nat) := fun _ _ _ => by simp
              have ng9 : ∀ q, wst.heap.size < q → q ∉ ([] : List Nat) := fun _ _ => by simp
              by_cases hy : y = 0
              · subst hy
                go_simp
                exact fun _ k_ => k_ b0 b1 b2 b3 b4 b5 b6 true b8 b9 b10 b11 b12 b13 b14 b15 b16 x103 x104 x105 x106 x107 x108 _ _ x111 x112 x113 x114 x115 x116 x117 rfl rfl ((hBo _)) ((hso _)) ((h2.frm (hfo _) nbx)) (fun ha => ⟨((hfo _).cell4 h2 nbx).trans (h3 ha).1, (h3 ha).2.frm (hfo _) nKV⟩) f0 f1 f2 f3 f4 f5 (fun _ => ⟨0, by decide, by decide, rfl⟩) (fun _ => ⟨_, _, rfl⟩) f8 f9 (fun h => by obtain ⟨z, e, hz, t⟩ := f10 h; exact ⟨z, e, hz, fun ha => (t ha).frm (hfo _) (nz z hz (t ha))⟩) (fun h => by obtain ⟨e1, e2, e3, gq, cq, e, t, q1, q2, q3⟩ := f11 h; exact ⟨e1, e2, e3, gq, cq, e, t.frm (hfo _) (fun q hq => ng9 q (by have e9 : q = gq := (by simpa [FB, Value.ownBlock, eq_comm] using hq); omega)), q1, q2, q3⟩) f12 f14 f15 (fun h => ⟨(f16 h).1, ((hfo _).cell4 h2 nbx).trans (f16 h).2⟩)
              obtain rfl : y = 1 := by omega
              go_simp
              exact fun _ k_ => k_ b0 b1 b2 b3 b4 b5 b6 true b8 b9 b10 b11 b12 b13 b14 b15 b16 x103 x104 x105 x106 x107 x108 _ _ x111 x112 x113 x114 x115 x116 x117 rfl rfl ((hBo _)) ((hso _)) ((h2.frm (hfo _) nbx)) (fun ha => ⟨((hfo _).cell4 h2 nbx).trans (h3 ha).1, (h3 ha).2.frm (hfo _) nKV⟩) f0 f1 f2 f3 f4 f5 (fun _ => ⟨1, by decide, by decide, rfl⟩) (fun _ => ⟨_, _, rfl⟩) f8 f9 (fun h => by obtain ⟨z, e, hz, t⟩ := f10 h; exact ⟨z, e, hz, fun ha => (t ha).frm (hfo _) (nz z hz (t ha))⟩) (fun h => by obtain ⟨e1, e2, e3, gq, cq, e, t, q1, q2, q3⟩ := f11 h; exact ⟨e1, e2, e3, gq, cq, e, t.frm (hfo _) (fun q hq => ng9 q (by have e9 : q = gq := (by simpa [FB, Value.ownBlock, eq_comm] using hq); omega)), q1, q2, q3⟩) f12 f14 f15 (fun h => ⟨(f16 h).1, ((hfo _).cell4 h2 nbx).trans (f16 h).2⟩)
            · have g7 := ready_pred hi ho 7
              obtain rfl := Option.some.inj ho
              obtain ⟨p, m, ex⟩ := f7 (g7 (by kernel_rfl))
              subst ex
              go_simp
              exact fun _ k_ => k_ b0 b1 b2 b3 b4 b5 b6 b7 true b9 b10 b11 b12 b13 b14 b15 b16 x103 x104 x105 x106 x107 x108 x109 _ _ x112 x113 x114 x115 x116 x117 rfl rfl h0 h1 h2 h3 f0 f1 f2 f3 f4 f5 f6 (fun _ => ⟨p, m, rfl⟩) (fun _ => ⟨_, _, _, _, _, _, _, _, _, _, _, _, _, rfl⟩) f9 f10 f11 f12 f14 f15 f16
            · have g3 := ready_pred hi ho 3
              obtain rfl := Option.some.inj ho
              have e3 := f3 (g3 (by kernel_rfl))
              subst e3
              go_simp
              exact fun _ k_ => k_ b0 b1 b2 b3 b4 b5 b6 b7 b8 true b10 b11 b12 b13 b14 b15 b16 x103 x104 x105 _ x107 x108 x109 x110 x111 _ x113 x114 x115 x116 x117 rfl rfl h0 h1 h2 h3 f0 f1 f2 f3 f4 f5 f6 f7 f8 (fun _ => rfl) f10 f11 f12 f14 f15 f16
            · have hbz : b10 = false := by simpa using ready_off rfl hi
              obtain rfl := Option.some.inj ho
              have hb9 : Below w.heap.size w (w.alloc (.cells #[.int .i64 0, .slice none 0 0, .slice none 0 0, .slice none 0 0, .slice none 0 0] 26)) := (Below.refl _ _).alloc (Nat.le_refl _) _
              have lm9 := Loc.made w #[.int .i64 0, .slice none 0 0, .slice none 0 0, .slice none 0 0, .slice none 0 0] 26
              have hf := Frm.ofBelow hb9 []
              have hB9 := h0.frm hf (fun q hq => by cases hq) hlt (by simp) (h0.2.2.2.1.keepAll hb9)
              have hs9 := Nat.le_trans h1 hb9.size
              have nbx : bx ∉ ([] : List Nat) := by simp
              have nKV : ∀ q ∈ FB (.slice ka kn kc), q ∉ ([] : List Nat) := fun _ _ => by simp
              have nz : ∀ z, w3.heap.size ≤ z → Loc w z #[.int .i64 0, .slice none 0 0, .slice none 0 0, .slice none 0 0, .slice none 0 0] 26 → z ∉ ([] : List Nat) := fun _ _ _ => by simp
              have ng9 : ∀ q, wst.heap.size < q → q ∉ ([] : List Nat) := fun _ _ => by simp
              have hw9 : w3.heap.size ≤ w.heap.size := h1
              have HBZ := hide hbz
              clear hbz
              go_simp
              exact fun _ k_ => k_ b0 b1 b2 b3 b4 b5 b6 b7 b8 b9 true b11 b12 b13 b14 b15 b16 x103 x104 x105 x106 x107 x108 x109 x110 x111 x112 _ x114 x115 x116 x117 rfl rfl hB9 hs9 (h2.frm hf nbx) (fun ha => ⟨(hf.cell4 h2 nbx).trans (h3 ha).1, (h3 ha).2.frm hf nKV⟩) f0 f1 f2 f3 f4 f5 f6 f7 f8 f9 (fun _ => ⟨w.heap.size, rfl, hw9, fun _ => lm9⟩) (fun h => by have := (f11 h).2.1; rw [unhide HBZ] at this; cases this) f12 f14 f15 (fun h => ⟨(f16 h).1, (hf.cell4 h2 nbx).trans (f16 h).2⟩)
            · have g3 := ready_pred hi ho 3
              have g10 := ready_pred hi ho 10
              have hbz : b11 = false := by simpa using ready_off rfl hi
              obtain rfl := Option.some.inj ho
              have t3 : b3 = true := g3 (by kernel_rfl)
              have t10 : b10 = true := g10 (by kernel_rfl)
              have e1 := f3 t3
              obtain ⟨z, ez, hz, lz0⟩ := f10 t10
              have lz := lz0 hbz
              have hr := (h3 hbz).2
              subst e1 ez
              refine step_raw hty (by rfl) (.tmp 106) (.tmp 113) (by rfl) ka kn kc (by rfl) hr ⟨z, 0, none⟩ 1 [.int .i64 0, .slice none 0 0, .slice none 0 0, .slice none 0 0, .slice none 0 0] (by rfl) rfl (fun i u hu => World.news_of_block lz i u (by simpa using hu)) (fun u hu => by simp at hu; rcases hu with rfl | rfl <;> rfl) (by omega) ?_
              intro gq cq w9 hraw hG9 hw9
              have hf := Frm.ofGrown hG9
              have hS : ∀ q ∈ (Value.ownBlock (.slice ka kn kc)).toList, wst.heap.size < q ∧ q ≠ bx ∧ q ≠ b := fun q hq => ⟨(hKV q hq).1, (hKV q hq).2.1, (hKV q hq).2.2.1⟩
              have hB9 := h0.frm hf (fun q hq => .inr (hS q hq).1) hlt (fun e => (hS b e).2.2 rfl) (h0.2.2.2.1.keep hG9 (fun e => by have := (hS g (by rw [← e]; simp)).1; omega) (fun q hq => by have := (hS q (by rw [hq]; simp)).1; omega))
              have hs9 := Nat.le_trans h1 hG9.size
              have nbx : bx ∉ (Value.ownBlock (.slice ka kn kc)).toList := fun e => (hS bx e).2.1 rfl
              have hg9 : wst.heap.size < gq ∧ gq ≠ bx ∧ gq ≠ b := by
                rcases hw9 with h | h
                · exact hS gq h
                · have := h0.2.2.1; have := h1; omega
              exact fun _ k_ => k_ b0 b1 b2 b3 b4 b5 b6 b7 b8 b9 b10 true b12 b13 b14 b15 b16 x103 x104 x105 _ x107 x108 x109 x110 x111 x112 _ _ x115 x116 x117 rfl rfl hB9 hs9 (h2.frm hf nbx) (fun ha => by cases ha) f0 f1 f2 (fun _ => rfl) f4 f5 f6 f7 f8 f9 (fun _ => ⟨z, rfl, hz, fun ha => by cases ha⟩) (fun _ => ⟨t3, t10, trivial, gq, cq, rfl, hraw, hg9.1, hg9.2.1, hg9.2.2⟩) (fun h => by have := (f12 h).1; rw [hbz] at this; cases this) f14 f15 (fun h => by have := (f16 h).1; rw [hbz] at this; cases this)
            · have g11 := ready_pred hi ho 11
              have g9 := ready_pred hi ho 9
              obtain rfl := Option.some.inj ho
              have ta : b11 = true := g11 (by kernel_rfl)
              obtain ⟨e1, e2, e3, gq, cq, ex, hraw, q1, q2, q3⟩ := f11 ta
              have el := f9 (g9 (by kernel_rfl))
              subst ex el
              have hk1 : (kn : Int) < ((kn + 1 : Nat) : Int) := by omega
              have hk1b : (kn : Int) < (kn : Int) + 1 := by omega
              have hk0 : (0 : Int) ≤ (kn : Int) := by omega
              have EB := hide (And.intro ta (And.intro e1 (And.intro e2 e3)))
              clear ta e1 e2 e3
              go_simp
              exact fun _ k_ => k_ b0 b1 b2 b3 b4 b5 b6 b7 b8 b9 b10 b11 true b13 b14 b15 b16 x103 x104 x105 x106 x107 x108 x109 x110 x111 _ x113 _ _ x116 x117 rfl rfl h0 h1 h2 h3 f0 f1 f2 f3 f4 f5 f6 f7 f8 (fun _ => rfl) f10 (fun _ => ⟨(unhide EB).2.1, (unhide EB).2.2.1, (unhide EB).2.2.2, gq, cq, rfl, hraw, q1, q2, q3⟩) (fun _ => ⟨(unhide EB).1, gq, cq, rfl, rfl⟩) f14 f15 f16
            · have g12 := ready_pred hi ho 12
              have g8 := ready_pred hi ho 8
              obtain rfl := Option.some.inj ho
              obtain ⟨ta, gq, cq, ex, ei⟩ := f12 (g12 (by kernel_rfl))
              obtain ⟨kd', a1', n1', c1', a2', n2', c2', a3', n3', c3', a4', n4', c4', en⟩ := f8 (g8 (by kernel_rfl))
              obtain ⟨e1, e2, e3, gr, cr, ex8, hraw, q1, q2, q3⟩ := f11 ta
              have EX8 := ex8.symm.trans ex
              injection EX8 with y1 _ y3
              injection y1 with y1
              injection y1 with y1 _ _
              subst y1 y3
              clear ex8
              have hle : (kn + 1) * 5 ≤ cr * 5 := by
                obtain ⟨_, _, _, e9, hnc, _⟩ := id hraw
                cases e9
                exact Nat.mul_le_mul_right _ hnc
              obtain ⟨_, q50, t50⟩ := hraw.cell (kn * 5) (by omega)
              obtain ⟨_, q51, t51⟩ := hraw.cell (kn * 5 + 1) (by omega)
              obtain ⟨_, q52, t52⟩ := hraw.cell (kn * 5 + 2) (by omega)
              obtain ⟨_, q53, t53⟩ := hraw.cell (kn * 5 + 3) (by omega)
              obtain ⟨_, q54, t54⟩ := hraw.cell (kn * 5 + 4) (by omega)
              have hf : Frm w ((((((w).setCell ⟨gr, kn * 5, none⟩ (.int .i64 kd')).setCell ⟨gr, kn * 5 + 1, none⟩ (.slice a1' n1' c1')).setCell ⟨gr, kn * 5 + 2, none⟩ (.slice a2' n2' c2')).setCell ⟨gr, kn * 5 + 3, none⟩ (.slice a3' n3' c3')).setCell ⟨gr, kn * 5 + 4, none⟩ (.slice a4' n4' c4')) [gr] := ((((set_frm _ _ _ _).trans (set_frm _ _ _ _)).trans (set_frm _ _ _ _)).trans (set_frm _ _ _ _)).trans (set_frm _ _ _ _)
              have hraw9 := (((((hraw).set (kn * 5) (.int .i64 kd')).set (kn * 5 + 1) (.slice a1' n1' c1')).set (kn * 5 + 2) (.slice a2' n2' c2')).set (kn * 5 + 3) (.slice a3' n3' c3')).set (kn * 5 + 4) (.slice a4' n4' c4')
              have hB9 := h0.frm hf (fun q hq => by simp at hq; right; omega) hlt (by simp; omega) (h0.2.2.2.1.keep (Frm.toGrown' hf) (by simp; omega) (fun q hq => by cases hq; omega))
              have hs9 := Nat.le_trans h1 hf.size
              have nbx : bx ∉ [gr] := by simp; omega
              have hbk9 := h2.frm hf nbx
              have HC9 := hide (fun h => (hf.cell4 h2 nbx).trans (f16 h).2)
              have EB := hide (And.intro ta (And.intro e1 (And.intro e2 e3)))
              have HW := hide (And.intro hB9 (And.intro hs9 (And.intro hbk9 hraw9)))
              clear ta e1 e2 e3 hB9 hs9 hbk9 hraw9 hf hraw
              subst ei en ex
              clear f11
              go_simp
              exact fun _ k_ => k_ b0 b1 b2 b3 b4 b5 b6 b7 b8 b9 b10 b11 b12 true b14 b15 b16 x103 x104 x105 x106 x107 x108 x109 x110 _ x112 x113 _ _ x116 x117 rfl rfl ((unhide HW).1) ((unhide HW).2.1) ((unhide HW).2.2.1) (fun ha => by rw [(unhide EB).1] at ha; cases ha) f0 f1 f2 f3 f4 f5 f6 f7 (fun _ => ⟨_, _, _, _, _, _, _, _, _, _, _, _, _, rfl⟩) f9 (fun h => by obtain ⟨z, e, hz, _⟩ := f10 h; exact ⟨z, e, hz, fun ha => by rw [(unhide EB).1] at ha; cases ha⟩) (fun _ => ⟨(unhide EB).2.1, (unhide EB).2.2.1, (unhide EB).2.2.2, gr, cr, rfl, (unhide HW).2.2.2, q1, q2, q3⟩) (fun _ => ⟨(unhide EB).1, gr, cr, rfl, rfl⟩) f14 f15 (fun h => ⟨(unhide EB).1, unhide HC9 h⟩)
            · have g0 := ready_pred hi ho 0
              obtain rfl := Option.some.inj ho
              have e0 := f0 (g0 (by kernel_rfl))
              subst e0
              go_simp
              exact fun _ k_ => k_ b0 b1 b2 b3 b4 b5 b6 b7 b8 b9 b10 b11 b12 b13 true b15 b16 _ x104 x105 x106 x107 x108 x109 x110 x111 x112 x113 x114 x115 _ x117 rfl rfl h0 h1 h2 h3 f0 f1 f2 f3 f4 f5 f6 f7 f8 f9 f10 f11 f12 (fun _ => rfl) f15 f16
            · have g14 := ready_pred hi ho 14
              obtain rfl := Option.some.inj ho
              have e14 := f14 (g14 (by kernel_rfl))
              subst e14
              go_simp
              exact fun _ k_ => k_ b0 b1 b2 b3 b4 b5 b6 b7 b8 b9 b10 b11 b12 b13 b14 true b16 x103 x104 x105 x106 x107 x108 x109 x110 x111 x112 x113 x114 x115 _ _ rfl rfl h0 h1 h2 h3 f0 f1 f2 f3 f4 f5 f6 f7 f8 f9 f10 f11 f12 f14 (fun _ => rfl) f16
            · have g15 := ready_pred hi ho 15
              have g11 := ready_pred hi ho 11
              obtain rfl := Option.some.inj ho
              have ta : b11 = true := g11 (by kernel_rfl)
              have ef := f15 (g15 (by kernel_rfl))
              obtain ⟨e1, e2, e3, gq, cq, ex, hraw, q1, q2, q3⟩ := f11 ta
              subst ef ex
              obtain ⟨_, c4, t4⟩ := h2.cell 4 (by decide)
              have hB9 := h0.store hrel2 hHb hlt hs0 4 (.slice (some ⟨gq, 0, none⟩) (kn + 1) cq) ⟨_, _, _, rfl⟩
              have hf := set_frm w bx (off + 4) (.slice (some ⟨gq, 0, none⟩) (kn + 1) cq)
              have hs9 := Nat.le_trans h1 hf.size
              have hbk9 := h2.set (off + 4) (.slice (some ⟨gq, 0, none⟩) (kn + 1) cq)
              have HC9 := hide (h2.put4 (.slice (some ⟨gq, 0, none⟩) (kn + 1) cq))
              have hraw9 := hraw.frm hf (fun q hq => by have e9 : q = gq := (by simpa [FB, Value.ownBlock, eq_comm] using hq); simp; omega)
              have EB := hide (And.intro ta (And.intro e1 (And.intro e2 e3)))
              have HW := hide (And.intro hB9 (And.intro hs9 (And.intro hbk9 hraw9)))
              clear ta e1 e2 e3 hB9 hs9 hbk9 hraw9 hf hraw
              clear f11
              go_simp
              exact fun _ k_ => k_ b0 b1 b2 b3 b4 b5 b6 b7 b8 b9 b10 b11 b12 b13 b14 b15 true x103 x104 x105 x106 x107 x108 x109 x110 x111 x112 x113 _ x115 x116 _ rfl rfl ((unhide HW).1) ((unhide HW).2.1) ((unhide HW).2.2.1) (fun ha => by rw [(unhide EB).1] at ha; cases ha) f0 f1 f2 f3 f4 f5 f6 f7 f8 f9 (fun h => by obtain ⟨z, e, hz, _⟩ := f10 h; exact ⟨z, e, hz, fun ha => by rw [(unhide EB).1] at ha; cases ha⟩) (fun _ => ⟨(unhide EB).2.1, (unhide EB).2.2.1, (unhide EB).2.2.2, gq, cq, rfl, (unhide HW).2.2.2, q1, q2, q3⟩) f12 f14 (fun _ => rfl) (fun _ => ⟨(unhide EB).1, unhide HC9⟩)
          case dn =>
            intro L a w4 hI hre
            have hall := ready_all (L := L) (by refine hI _ ?_; intro b0 b1 b2 b3 b4 b5 b6 b7 b8 b9 b10 b11 b12 b13 b14 b15 b16 x103 x104 x105 x106 x107 x108 x109 x110 x111 x112 x113 x114 x115 x116 x117 eL eA h0 h1 h2 h3 f0 f1 f2 f3 f4 f5 f6 f7 f8 f9 f10 f11 f12 f14 f15 f16; subst eL; rfl) (by kernel_rfl) hre 17
            refine hI _ ?_
            clear hI
            intro b0 b1 b2 b3 b4 b5 b6 b7 b8 b9 b10 b11 b12 b13 b14 b15 b16 x103 x104 x105 x106 x107 x108 x109 x110 x111 x112 x113 x114 x115 x116 x117 eL eA h0 h1 h2 h3 f0 f1 f2 f3 f4 f5 f6 f7 f8 f9 f10 f11 f12 f14 f15 f16
            subst eL eA
            have hB4 := h0
            have HE := hide hB4
            clear hB4 h0 h1 h2 h3 hall f0 f1 f2 f3 f4 f5 f6 f7 f8 f9 f10 f11 f12 f14 f15 f16
            go_wp2_with fail
            go_meet
            exact unhide HE
        by_cases k5 : ks = 5
        · subst k5
          clear HTG5
          go_wp2_with fail
          go_loopw [5] (fun i wr => ∃ j : Nat, j ≤ 25 ∧ i = .int .i64 j ∧ BS w0 wst g code l b wr) (fun i _ => 25 - (intOf i).toNat)
          case atStart => exact ⟨0, by decide, rfl, unhide HBS5⟩
          case round =>
            clear HBS5
            obtain ⟨j, hj, rfl, hBS⟩ := hrel
            by_cases hj5 : j < 25
            · have hj5' : (j : Int) < 25 := by omega
              have kc := Lib.run_convert_bytes_const (P := Tryz.prog) wr 22 5 #[.int .u8 112] 1 1 Tryz.underlying22 Tryz.underlying5
              obtain ⟨hrb, ⟨kd, a1, n1, c1, a2, n2, c2, a3, n3, c3, a4, n4, c4, hnb⟩, hbl, hC, hG⟩ := id hBS
              have hA1 : Below wr.heap.size wr (wr.alloc (.cells #[.int .u8 112] 5 (1, 2))) := (Below.refl _ _).alloc (Nat.le_refl _) _
              have hA : Below wr.heap.size wr ((wr.alloc (.cells #[.int .u8 112] 5 (1, 2))).alloc (.cells #[.int .i64 kd, .slice a1 n1 c1, .slice a2 n2 c2, .slice a3 n3 c3, .slice a4 n4 c4] 26)) := bstep hA1 ((Below.refl _ _).alloc (Nat.le_refl _) _)
              obtain ⟨z0, z1, z2, z3, z4⟩ := (hnb.frm (Frm.ofBelow hA1 []) (by simp)).cells
              have hn2 := hnb.frm (Frm.ofBelow hA []) (by simp)
              obtain ⟨y0, y1, y2, y3, y4⟩ := hn2.cells
              have g0 := hn2.frozen 0
              have g1 := hn2.frozen 1
              have g2 := hn2.frozen 2
              have g3 := hn2.frozen 3
              have g4 := hn2.frozen 4
              have hB2 := hBS.frm (Frm.ofBelow hA []) (fun q hq => by cases hq) hlt (by simp) (hC.keepAll hA)
              have HE := hide (fun u1 u4 (h1 : ∃ a n c, u1 = .slice a n c) (h4 : ∃ a n c, u4 = .slice a n c) => BS.put5 hB2 hlt hs0 u1 u4 h1 h4)
              simp only [Nat.zero_add] at y0 y1 y2 y3 y4 z0 z1 z2 z3 z4
              clear hBS hrb hnb hC hG hA1 hA hn2 hB2
              go_wp2_with fail
              go_roundw
              case rel => exact ⟨j + 1, by omega, by go_num, unhide HE _ _ ⟨_, _, _, rfl⟩ ⟨_, _, _, rfl⟩⟩
              case measure => simp [intOf]; omega
            · have hj5' : ¬ (j : Int) < 25 := by omega
              have HE := hide hBS
              clear hBS
              go_wp2_with fail
              go_meet
              exact unhide HE
        obtain rfl : ks = 6 := by omega
        clear k0 k1 k2 k3 k4 k5
        go_wp2_with fail
        go_loopw [6] (fun i wr => ∃ j : Nat, j ≤ 120 ∧ i = .int .i64 j ∧ BS w0 wst g code l b wr ∧ Bk wr bx off ∧ ∃ ka kn kc, kn ≤ 3 + j ∧ wr.cell? ⟨bx, off + 4, none⟩ = some (.slice ka kn kc) ∧ Raw wr 26 5 (.slice ka kn kc) ∧ ∀ q ∈ FB (.slice ka kn kc), wst.heap.size < q ∧ q ≠ bx ∧ q ≠ b) (fun i _ => 120 - (intOf i).toNat)
        case atStart => exact ⟨0, by decide, rfl, unhide HBS5, (unhide HTG5).1.bk, _, _, _, by omega, (unhide HTG5).1.cells.2.2.2.2, (unhide HTG5).2.2.2.1, fun q hq => (unhide HTG5).2.2.2.2.1 q (by simp only [List.mem_append]; exact .inr hq)⟩
        case round =>
          have hHb := (unhide HTG5).2.2.2.2.2.1
          have hrel2 := (unhide HTG5).2.2.2.2.2.2
          clear HBS5 HTG5
          obtain ⟨j, hj, rfl, hBS, hbk0, ka, kn, kc, hkn, hc40, hq4, hqd⟩ := hrel
          by_cases hj5 : j < 120
          · have hj5' : (j : Int) < 120 := by omega
            obtain ⟨iz, hty⟩ := zty2
            obtain ⟨w3, hw3⟩ : ∃ w3, w3 = wr := ⟨_, rfl⟩
            subst hw3
            have hbx3 := hbk0.lt
            have hb3 : b < w3.heap.size := by obtain ⟨_, _, _, _, _, _, _, _, _, _, _, _, _, h⟩ := hBS.2.1; exact h.lt
            have hKV : ∀ q ∈ FB (.slice ka kn kc), wst.heap.size < q ∧ q ≠ bx ∧ q ≠ b ∧ q < w3.heap.size := fun q hq => ⟨(hqd q hq).1, (hqd q hq).2.1, (hqd q hq).2.2, by
              obtain ⟨_, _, _, e, _, _, ⟨e0, _⟩ | ⟨g9, cur, fz, e0, h9, _⟩⟩ := hq4
              · cases e; subst e0; simp [FB, Value.ownBlock] at hq
              · cases e; subst e0; simp [FB, Value.ownBlock] at hq; subst hq; exact (Array.getElem?_eq_some_iff.1 h9).1⟩
            have hbk : Bk w3.drew bx off := hbk0
            have hc4 : w3.drew.cell? ⟨bx, off + 4, none⟩ = some (.slice ka kn kc) := hc40
            have hq4d : Raw w3.drew 26 5 (.slice ka kn kc) := hq4
            have hBSd : BS w0 wst g code l b w3.drew := hBS.frm (Frm.ofBelow ((Below.refl _ _).drew) []) (fun q hq => by cases hq) hlt (by simp) (hBS.2.2.2.1.keepAll ((Below.refl _ _).drew))
            clear hqd hbk0 hc40 hBS
            go_wp2_with fail
            refine region_inv (by kernel_rfl) (Lb11 w0 wst w3 g b bx off code l ka kn kc (undef) (.pointer (some ⟨wst.heap.size, 0, none⟩)) (.pointer (some ⟨b, 0, none⟩)) (undef) (.int .i64 (j : Int)) (.pointer (some ⟨g, 0, none⟩)) (.agg #[.int .i64 k, .slice p1 n1 c1, .slice p2 n2 c2, .slice p3 n3 c3, .slice p4 n4 c4]) (.pointer (some ⟨g, 0, none⟩)) (.bool true) (.bool false) (undef) (u13) (u14) (u15) (u16) (u17) (u18) (u19) (u20) (u21) (.bool false) (u23) (u24) (u25) (u26) (u27) (u28) (u29) (u30) (u31) (u32) (u33) (u34) (.pointer (some ⟨g, 0, none⟩)) (.int .i64 6) (.int .i64 (j : Int)) (.bool true) (u39) (u40) (.bool false) (.bool false) (undef) (undef) (undef) (undef) (undef) (undef) (.bool false) (.bool false) (undef) (undef) (undef) (undef) (undef) (undef) (undef) (undef) (undef) (.bool false) (.bool false) (undef) (undef) (undef) (undef) (undef) (undef) (undef) (undef) (undef) (undef) (undef) (undef) (.bool false) (.bool false) (undef) (undef) (undef) (undef) (undef) (undef) (undef) (undef) (undef) (undef) (undef) (undef) (.bool false) (.bool false) (undef) (undef) (undef) (undef) (undef) (undef) (undef) (undef) (undef) (undef) (undef) (undef) (undef) (undef) (undef) (.bool false) (.bool false) (undef) (undef) (undef) (undef) (undef) (undef) (undef) (undef) (undef) (undef)) ?sz ?h0 ?step ?dn
            case sz =>
              intro L a w hI
              refine hI _ ?_
              intro b0 b1 b2 b3 b4 b5 b6 b7 b8 b9 b10 b11 b12 b13 b14 x41 x42 x43 x44 x45 x46 x47 x48 x49 x50 x51 x52 x53 eL eA h0 h1 h2 h3 f0 f1 f2 f3 f4 f5 f6 f7 f8 f9 f10 f12 f13 f14
              subst eL
              rfl
            case h0 =>
              exact fun _ k_ => k_ false false false false false false false false false false false false false false false _ _ _ _ _ _ _ _ _ _ _ _ _ rfl rfl hBSd (Nat.le_refl _) hbk (fun _ => ⟨hc4, hq4d⟩) (fun h => by cases h) (fun h => by cases h) (fun h => by cases h) (fun h => by cases h) (fun h => by cases h) (fun h => by cases h) (fun h => by cases h) (fun h => by cases h) (fun h => by cases h) (fun h => by cases h) (fun h => by cases h) (fun h => by cases h) (fun h => by cases h) (fun h => by cases h)
            case step =>
              intro L a w i o hI hi ho
              refine hI _ ?_
              clear hI
              intro b0 b1 b2 b3 b4 b5 b6 b7 b8 b9 b10 b11 b12 b13 b14 x41 x42 x43 x44 x45 x46 x47 x48 x49 x50 x51 x52 x53 eL eA h0 h1 h2 h3 f0 f1 f2 f3 f4 f5 f6 f7 f8 f9 f10 f12 f13 f14
              subst eL eA
              rcases Lb11_cases (ready_lt hi) with rfl | rfl | rfl | rfl | rfl | rfl | rfl | rfl | rfl | rfl | rfl | rfl | rfl | rfl | rfl
              · obtain rfl := Option.some.inj ho
                go_simp
                exact fun _ k_ => k_ true b1 b2 b3 b4 b5 b6 b7 b8 b9 b10 b11 b12 b13 b14 _ x42 x43 x44 x45 x46 x47 x48 x49 x50 x51 x52 x53 rfl rfl h0 h1 h2 h3 (fun _ => rfl) f1 f2 f3 f4 f5 f6 f7 f8 f9 f10 f12 f13 f14
              · have g0 := ready_pred hi ho 0
                obtain rfl := Option.some.inj ho
                have e0 := f0 (g0 (by kernel_rfl))
                subst e0
                go_simp
                exact fun _ k_ => k_ b0 true b2 b3 b4 b5 b6 b7 b8 b9 b10 b11 b12 b13 b14 _ _ x43 x44 x45 x46 x47 x48 x49 x50 x51 x52 x53 rfl rfl h0 h1 h2 h3 f0 (fun _ => rfl) f2 f3 f4 f5 f6 f7 f8 f9 f10 f12 f13 f14
              · have g1 := ready_pred hi ho 1
                obtain rfl := Option.some.inj ho
                have e1 := f1 (g1 (by kernel_rfl))
                subst e1
                go_simp
                exact fun _ k_ => k_ b0 b1 true b3 b4 b5 b6 b7 b8 b9 b10 b11 b12 b13 b14 x41 _ _ x44 x45 x46 x47 x48 x49 x50 x51 x52 x53 rfl rfl h0 h1 h2 h3 f0 f1 (fun _ => rfl) f3 f4 f5 f6 f7 f8 f9 f10 f12 f13 f14
              · have g2 := ready_pred hi ho 2
                obtain rfl := Option.some.inj ho
                have e2 := f2 (g2 (by kernel_rfl))
                subst e2
                have hbz : b3 = false := by simpa using ready_off rfl hi
                have ck := (h3 (by cases hb : b9 with
                  | false => rfl
                  | true => have := (f9 hb).1; rw [hbz] at this; cases this)).1
                clear hbz
                go_simp
                exact fun _ k_ => k_ b0 b1 b2 true b4 b5 b6 b7 b8 b9 b10 b11 b12 b13 b14 x41 x42 _ _ x45 x46 x47 x48 x49 x50 x51 x52 x53 rfl rfl h0 h1 h2 h3 f0 f1 f2 (fun _ => rfl) f4 f5 f6 f7 f8 (fun h => ⟨rfl, (f9 h).2⟩) f10 f12 f13 f14
              · have hbz : b4 = false := by simpa using ready_off rfl hi
                obtain rfl := Option.some.inj ho
                have hb9 : Below w.heap.size w (w.alloc (.cells #[.int .u8 98] 5)) := (Below.refl _ _).alloc (Nat.le_refl _) _
                have lm9 := Loc.made w #[.int .u8 98] 5
                have hf := Frm.ofBelow hb9 []
                have hB9 := h0.frm hf (fun q hq => by cases hq) hlt (by simp) (h0.2.2.2.1.keepAll hb9)
                have hs9 := Nat.le_trans h1 hb9.size
                have nbx : bx ∉ ([] : List Nat) := by simp
                have nKV : ∀ q ∈ FB (.slice ka kn kc), q ∉ ([] : List Nat) := fun _ _ => by simp
                have nz : ∀ z, w3.heap.size ≤ z → Loc w z #[.int .i64 0, .slice none 0 0, .slice none 0 0, .slice none 0 0, .slice none 0 0] 26 → z ∉ ([] : List Nat) := fun _ _ _ => by simp
                have ng9 : ∀ q, wst.heap.size < q → q ∉ ([] : List Nat) := fun _ _ => by simp
                have np : ∀ p, w3.heap.size ≤ p → Loc w p #[.int .u8 98] 5 → p ∉ ([] : List Nat) := fun _ _ _ => by simp
                have hw9 : w3.heap.size ≤ w.heap.size := h1
                go_simp
                exact fun _ k_ => k_ b0 b1 b2 b3 true b5 b6 b7 b8 b9 b10 b11 b12 b13 b14 x41 x42 x43 x44 _ x46 x47 x48 x49 x50 x51 x52 x53 rfl rfl hB9 hs9 (h2.frm hf nbx) (fun ha => ⟨(hf.cell4 h2 nbx).trans (h3 ha).1, (h3 ha).2.frm hf nKV⟩) f0 f1 f2 f3 (fun _ => ⟨w.heap.size, rfl, hw9, fun _ => lm9⟩) (fun h => ⟨rfl, (f5 h).2⟩) f6 f7 (fun h => by obtain ⟨z, e, hz, t⟩ := f8 h; exact ⟨z, e, hz, fun ha => (t ha).frm hf (nz z hz (t ha))⟩) (fun h => by obtain ⟨e1, e2, e3, gq, cq, e, t, q1, q2, q3⟩ := f9 h; exact ⟨e1, e2, e3, gq, cq, e, t.frm hf (fun q hq => ng9 q (by have e9 : q = gq := (by simpa [FB, Value.ownBlock, eq_comm] using hq); omega)), q1, q2, q3⟩) f10 f12 f13 (fun h => ⟨(f14 h).1, (hf.cell4 h2 nbx).trans (f14 h).2⟩)
              · have g4 := ready_pred hi ho 4
                have hbz : b5 = false := by simpa using ready_off rfl hi
                obtain rfl := Option.some.inj ho
                have eb : b4 = true := g4 (by kernel_rfl)
                obtain ⟨p, ex, hp, lp0⟩ := f4 eb
                have lp := lp0 hbz
                subst ex
                obtain ⟨w9, hrun, hf, hsz9⟩ := mark_any w p 1 1 #[.int .u8 98] lp
                have hpg : p ≠ g := by have := h1; omega
                have hpl := lp.lt
                have hB9 := h0.frm hf (fun q hq => by simp at hq; right; omega) hlt (by simp; omega) (h0.2.2.2.1.keep (Frm.toGrown' hf) (by simp; omega) (fun q hq => by cases hq; omega))
                have hs9 : w3.heap.size ≤ w9.heap.size := by omega
                have nbx : bx ∉ [p] := by simp; omega
                have nKV : ∀ q ∈ FB (.slice ka kn kc), q ∉ [p] := fun q hq => by have := (hKV q hq).2.2.2; simp; omega
                have nz : ∀ z, w3.heap.size ≤ z → Loc w z #[.int .i64 0, .slice none 0 0, .slice none 0 0, .slice none 0 0, .slice none 0 0] 26 → z ∉ [p] := fun z _ lz e => by
                  simp at e
                  subst e
                  unfold Loc at lz lp
                  rw [lz] at lp
                  injection lp with lp
                  injection lp with _ h9
                  revert h9
                  decide
                have HBZ := hide hbz
                have EB := hide eb
                clear hbz eb lp0 lp
                go_simp
                exact fun _ k_ => k_ b0 b1 b2 b3 b4 true b6 b7 b8 b9 b10 b11 b12 b13 b14 x41 x42 x43 x44 _ _ x47 x48 x49 x50 x51 x52 x53 rfl rfl hB9 hs9 (h2.frm hf nbx) (fun ha => ⟨(hf.cell4 h2 nbx).trans (h3 ha).1, (h3 ha).2.frm hf nKV⟩) f0 f1 f2 f3 (fun _ => ⟨p, rfl, hp, fun h => by cases h⟩) (fun _ => ⟨unhide EB, p, rfl⟩) f6 f7 (fun h => by obtain ⟨z, e, hz, t⟩ := f8 h; exact ⟨z, e, hz, fun ha => (t ha).frm hf (nz z hz (t ha))⟩) (fun h => by have := (f9 h).2.2.1; rw [unhide HBZ] at this; cases this) f10 f12 f13 (fun h => ⟨(f14 h).1, (hf.cell4 h2 nbx).trans (f14 h).2⟩)
              · have g5 := ready_pred hi ho 5
                obtain rfl := Option.some.inj ho
                obtain ⟨eb, p, ex⟩ := f5 (g5 (by kernel_rfl))
                have EB := hide (And.intro eb (g5 (by kernel_rfl)))
                clear eb
                subst ex
                go_simp
                exact fun _ k_ => k_ b0 b1 b2 b3 b4 b5 true b7 b8 b9 b10 b11 b12 b13 b14 x41 x42 x43 x44 x45 _ _ x48 x49 x50 x51 x52 x53 rfl rfl h0 h1 h2 h3 f0 f1 f2 f3 f4 (fun _ => ⟨(unhide EB).1, p, rfl⟩) (fun _ => ⟨_, _, _, _, _, _, _, _, _, _, _, _, _, rfl⟩) f7 f8 f9 f10 f12 f13 f14
              · have g3 := ready_pred hi ho 3
                obtain rfl := Option.some.inj ho
                have e3 := f3 (g3 (by kernel_rfl))
                subst e3
                go_simp
                exact fun _ k_ => k_ b0 b1 b2 b3 b4 b5 b6 true b8 b9 b10 b11 b12 b13 b14 x41 x42 x43 _ x45 x46 x47 _ x49 x50 x51 x52 x53 rfl rfl h0 h1 h2 h3 f0 f1 f2 f3 f4 f5 f6 (fun _ => rfl) f8 f9 f10 f12 f13 f14
              · have hbz : b8 = false := by simpa using ready_off rfl hi
                obtain rfl := Option.some.inj ho
                have hb9 : Below w.heap.size w (w.alloc (.cells #[.int .i64 0, .slice none 0 0, .slice none 0 0, .slice none 0 0, .slice none 0 0] 26)) := (Below.refl _ _).alloc (Nat.le_refl _) _
                have lm9 := Loc.made w #[.int .i64 0, .slice none 0 0, .slice none 0 0, .slice none 0 0, .slice none 0 0] 26
                have hf := Frm.ofBelow hb9 []
                have hB9 := h0.frm hf (fun q hq => by cases hq) hlt (by simp) (h0.2.2.2.1.keepAll hb9)
                have hs9 := Nat.le_trans h1 hb9.size
                have nbx : bx ∉ ([] : List Nat) := by simp
                have nKV : ∀ q ∈ FB (.slice ka kn kc), q ∉ ([] : List Nat) := fun _ _ => by simp
                have nz : ∀ z, w3.heap.size ≤ z → Loc w z #[.int .i64 0, .slice none 0 0, .slice none 0 0, .slice none 0 0, .slice none 0 0] 26 → z ∉ ([] : List Nat) := fun _ _ _ => by simp
                have ng9 : ∀ q, wst.heap.size < q → q ∉ ([] : List Nat) := fun _ _ => by simp
                have np : ∀ p, w3.heap.size ≤ p → Loc w p #[.int .u8 98] 5 → p ∉ ([] : List Nat) := fun _ _ _ => by simp
                have hw9 : w3.heap.size ≤ w.heap.size := h1
                have HBZ := hide hbz
                clear hbz
                go_simp
                exact fun _ k_ => k_ b0 b1 b2 b3 b4 b5 b6 b7 true b9 b10 b11 b12 b13 b14 x41 x42 x43 x44 x45 x46 x47 x48 _ x50 x51 x52 x53 rfl rfl hB9 hs9 (h2.frm hf nbx) (fun ha => ⟨(hf.cell4 h2 nbx).trans (h3 ha).1, (h3 ha).2.frm hf nKV⟩) f0 f1 f2 f3 (fun h => by obtain ⟨p, e, hp, t⟩ := f4 h; exact ⟨p, e, hp, fun ha => (t ha).frm hf (np p hp (t ha))⟩) f5 f6 f7 (fun _ => ⟨w.heap.size, rfl, hw9, fun _ => lm9⟩) (fun h => by have := (f9 h).2.1; rw [unhide HBZ] at this; cases this) f10 f12 f13 (fun h => ⟨(f14 h).1, (hf.cell4 h2 nbx).trans (f14 h).2⟩)
              · have g3 := ready_pred hi ho 3
                have g8 := ready_pred hi ho 8
                have g5 := ready_pred hi ho 5
                have hbz : b9 = false := by simpa using ready_off rfl hi
                obtain rfl := Option.some.inj ho
                have t3 : b3 = true := g3 (by kernel_rfl)
                have t8 : b8 = true := g8 (by kernel_rfl)
                have t5 : b5 = true := g5 (by kernel_rfl)
                have e1 := f3 t3
                obtain ⟨z, ez, hz, lz0⟩ := f8 t8
                have lz := lz0 hbz
                have hr := (h3 hbz).2
                subst e1 ez
                refine step_raw hty (by rfl) (.tmp 44) (.tmp 49) (by rfl) ka kn kc (by rfl) hr ⟨z, 0, none⟩ 1 [.int .i64 0, .slice none 0 0, .slice none 0 0, .slice none 0 0, .slice none 0 0] (by rfl) rfl (fun i u hu => World.news_of_block lz i u (by simpa using hu)) (fun u hu => by simp at hu; rcases hu with rfl | rfl <;> rfl) (by omega) ?_
                intro gq cq w9 hraw hG9 hw9
                have hf := Frm.ofGrown hG9
                have hS : ∀ q ∈ (Value.ownBlock (.slice ka kn kc)).toList, wst.heap.size < q ∧ q ≠ bx ∧ q ≠ b := fun q hq => ⟨(hKV q hq).1, (hKV q hq).2.1, (hKV q hq).2.2.1⟩
                have hB9 := h0.frm hf (fun q hq => .inr (hS q hq).1) hlt (fun e => (hS b e).2.2 rfl) (h0.2.2.2.1.keep hG9 (fun e => by have := (hS g (by rw [← e]; simp)).1; omega) (fun q hq => by have := (hS q (by rw [hq]; simp)).1; omega))
                have hs9 := Nat.le_trans h1 hG9.size
                have nbx : bx ∉ (Value.ownBlock (.slice ka kn kc)).toList := fun e => (hS bx e).2.1 rfl
                have hg9 : wst.heap.size < gq ∧ gq ≠ bx ∧ gq ≠ b := by
                  rcases hw9 with h | h
                  · exact hS gq h
                  · have := h0.2.2.1; have := h1; omega
                exact fun _ k_ => k_ b0 b1 b2 b3 b4 b5 b6 b7 b8 true b10 b11 b12 b13 b14 x41 x42 x43 _ x45 x46 x47 x48 _ _ x51 x52 x53 rfl rfl hB9 hs9 (h2.frm hf nbx) (fun ha => by cases ha) f0 f1 f2 (fun _ => rfl) (fun h => by obtain ⟨p, e, hp, _⟩ := f4 h; exact ⟨p, e, hp, fun ha => by rw [t5] at ha; cases ha⟩) f5 f6 f7 (fun _ => ⟨z, rfl, hz, fun ha => by cases ha⟩) (fun _ => ⟨t3, t8, t5, gq, cq, rfl, hraw, hg9.1, hg9.2.1, hg9.2.2⟩) (fun h => by have := (f10 h).1; rw [hbz] at this; cases this) f12 f13 (fun h => by have := (f14 h).1; rw [hbz] at this; cases this)
              · have g9 := ready_pred hi ho 9
                have g7 := ready_pred hi ho 7
                obtain rfl := Option.some.inj ho
                have ta : b9 = true := g9 (by kernel_rfl)
                obtain ⟨e1, e2, e3, gq, cq, ex, hraw, q1, q2, q3⟩ := f9 ta
                have el := f7 (g7 (by kernel_rfl))
                subst ex el
                have hk1 : (kn : Int) < ((kn + 1 : Nat) : Int) := by omega
                have hk1b : (kn : Int) < (kn : Int) + 1 := by omega
                have hk0 : (0 : Int) ≤ (kn : Int) := by omega
                have EB := hide (And.intro ta (And.intro e1 (And.intro e2 e3)))
                clear ta e1 e2 e3
                go_simp
                exact fun _ k_ => k_ b0 b1 b2 b3 b4 b5 b6 b7 b8 b9 true b11 b12 b13 b14 x41 x42 x43 x44 x45 x46 x47 _ x49 _ _ x52 x53 rfl rfl h0 h1 h2 h3 f0 f1 f2 f3 f4 f5 f6 (fun _ => rfl) f8 (fun _ => ⟨(unhide EB).2.1, (unhide EB).2.2.1, (unhide EB).2.2.2, gq, cq, rfl, hraw, q1, q2, q3⟩) (fun _ => ⟨(unhide EB).1, gq, cq, rfl, rfl⟩) f12 f13 f14
              · have g10 := ready_pred hi ho 10
                have g6 := ready_pred hi ho 6
                obtain rfl := Option.some.inj ho
                obtain ⟨ta, gq, cq, ex, ei⟩ := f10 (g10 (by kernel_rfl))
                obtain ⟨kd', a1', n1', c1', a2', n2', c2', a3', n3', c3', a4', n4', c4', en⟩ := f6 (g6 (by kernel_rfl))
                obtain ⟨e1, e2, e3, gr, cr, ex8, hraw, q1, q2, q3⟩ := f9 ta
                have EX8 := ex8.symm.trans ex
                injection EX8 with y1 _ y3
                injection y1 with y1
                injection y1 with y1 _ _
                subst y1 y3
                clear ex8
                have hle : (kn + 1) * 5 ≤ cr * 5 := by
                  obtain ⟨_, _, _, e9, hnc, _⟩ := id hraw
                  cases e9
                  exact Nat.mul_le_mul_right _ hnc
                obtain ⟨_, q50, t50⟩ := hraw.cell (kn * 5) (by omega)
                obtain ⟨_, q51, t51⟩ := hraw.cell (kn * 5 + 1) (by omega)
                obtain ⟨_, q52, t52⟩ := hraw.cell (kn * 5 + 2) (by omega)
                obtain ⟨_, q53, t53⟩ := hraw.cell (kn * 5 + 3) (by omega)
                obtain ⟨_, q54, t54⟩ := hraw.cell (kn * 5 + 4) (by omega)
                have hf : Frm w ((((((w).setCell ⟨gr, kn * 5, none⟩ (.int .i64 kd')).setCell ⟨gr, kn * 5 + 1, none⟩ (.slice a1' n1' c1')).setCell ⟨gr, kn * 5 + 2, none⟩ (.slice a2' n2' c2')).setCell ⟨gr, kn * 5 + 3, none⟩ (.slice a3' n3' c3')).setCell ⟨gr, kn * 5 + 4, none⟩ (.slice a4' n4' c4')) [gr] := ((((set_frm _ _ _ _).trans (set_frm _ _ _ _)).trans (set_frm _ _ _ _)).trans (set_frm _ _ _ _)).trans (set_frm _ _ _ _)
                have hraw9 := (((((hraw).set (kn * 5) (.int .i64 kd')).set (kn * 5 + 1) (.slice a1' n1' c1')).set (kn * 5 + 2) (.slice a2' n2' c2')).set (kn * 5 + 3) (.slice a3' n3' c3')).set (kn * 5 + 4) (.slice a4' n4' c4')
                have hB9 := h0.frm hf (fun q hq => by simp at hq; right; omega) hlt (by simp; omega) (h0.2.2.2.1.keep (Frm.toGrown' hf) (by simp; omega) (fun q hq => by cases hq; omega))
                have hs9 := Nat.le_trans h1 hf.size
                have nbx : bx ∉ [gr] := by simp; omega
                have hbk9 := h2.frm hf nbx
                have HC9 := hide (fun h => (hf.cell4 h2 nbx).trans (f14 h).2)
                have EB := hide (And.intro ta (And.intro e1 (And.intro e2 e3)))
                have HW := hide (And.intro hB9 (And.intro hs9 (And.intro hbk9 hraw9)))
                clear ta e1 e2 e3 hB9 hs9 hbk9 hraw9 hf hraw
                subst ei en ex
                clear f9
                go_simp
                exact fun _ k_ => k_ b0 b1 b2 b3 b4 b5 b6 b7 b8 b9 b10 true b12 b13 b14 x41 x42 x43 x44 x45 x46 _ x48 x49 _ _ x52 x53 rfl rfl ((unhide HW).1) ((unhide HW).2.1) ((unhide HW).2.2.1) (fun ha => by rw [(unhide EB).1] at ha; cases ha) f0 f1 f2 f3 (fun h => by obtain ⟨p, e, hp, _⟩ := f4 h; exact ⟨p, e, hp, fun ha => by rw [(unhide EB).2.2.2] at ha; cases ha⟩) f5 (fun _ => ⟨_, _, _, _, _, _, _, _, _, _, _, _, _, rfl⟩) f7 (fun h => by obtain ⟨z, e, hz, _⟩ := f8 h; exact ⟨z, e, hz, fun ha => by rw [(unhide EB).1] at ha; cases ha⟩) (fun _ => ⟨(unhide EB).2.1, (unhide EB).2.2.1, (unhide EB).2.2.2, gr, cr, rfl, (unhide HW).2.2.2, q1, q2, q3⟩) (fun _ => ⟨(unhide EB).1, gr, cr, rfl, rfl⟩) f12 f13 (fun h => ⟨(unhide EB).1, unhide HC9 h⟩)
              · have g0 := ready_pred hi ho 0
                obtain rfl := Option.some.inj ho
                have e0 := f0 (g0 (by kernel_rfl))
                subst e0
                go_simp
                exact fun _ k_ => k_ b0 b1 b2 b3 b4 b5 b6 b7 b8 b9 b10 b11 true b13 b14 _ x42 x43 x44 x45 x46 x47 x48 x49 x50 x51 _ x53 rfl rfl h0 h1 h2 h3 f0 f1 f2 f3 f4 f5 f6 f7 f8 f9 f10 (fun _ => rfl) f13 f14
              · have g12 := ready_pred hi ho 12
                obtain rfl := Option.some.inj ho
                have e12 := f12 (g12 (by kernel_rfl))
                subst e12
                go_simp
                exact fun _ k_ => k_ b0 b1 b2 b3 b4 b5 b6 b7 b8 b9 b10 b11 b12 true b14 x41 x42 x43 x44 x45 x46 x47 x48 x49 x50 x51 _ _ rfl rfl h0 h1 h2 h3 f0 f1 f2 f3 f4 f5 f6 f7 f8 f9 f10 f12 (fun _ => rfl) f14
              · have g13 := ready_pred hi ho 13
                have g9 := ready_pred hi ho 9
                obtain rfl := Option.some.inj ho
                have ta : b9 = true := g9 (by kernel_rfl)
                have ef := f13 (g13 (by kernel_rfl))
                obtain ⟨e1, e2, e3, gq, cq, ex, hraw, q1, q2, q3⟩ := f9 ta
                subst ef ex
                obtain ⟨_, c4, t4⟩ := h2.cell 4 (by decide)
                have hB9 := h0.store hrel2 hHb hlt hs0 4 (.slice (some ⟨gq, 0, none⟩) (kn + 1) cq) ⟨_, _, _, rfl⟩
                have hf := set_frm w bx (off + 4) (.slice (some ⟨gq, 0, none⟩) (kn + 1) cq)
                have hs9 := Nat.le_trans h1 hf.size
                have hbk9 := h2.set (off + 4) (.slice (some ⟨gq, 0, none⟩) (kn + 1) cq)
                have HC9 := hide (h2.put4 (.slice (some ⟨gq, 0, none⟩) (kn + 1) cq))
                have hraw9 := hraw.frm hf (fun q hq => by have e9 : q = gq := (by simpa [FB, Value.ownBlock, eq_comm] using hq); simp; omega)
                have EB := hide (And.intro ta (And.intro e1 (And.intro e2 e3)))
                have HW := hide (And.intro hB9 (And.intro hs9 (And.intro hbk9 hraw9)))
                clear ta e1 e2 e3 hB9 hs9 hbk9 hraw9 hf hraw
                clear f9
                go_simp
                exact fun _ k_ => k_ b0 b1 b2 b3 b4 b5 b6 b7 b8 b9 b10 b11 b12 b13 true x41 x42 x43 x44 x45 x46 x47 x48 x49 _ x51 x52 _ rfl rfl ((unhide HW).1) ((unhide HW).2.1) ((unhide HW).2.2.1) (fun ha => by rw [(unhide EB).1] at ha; cases ha) f0 f1 f2 f3 (fun h => by obtain ⟨p, e, hp, _⟩ := f4 h; exact ⟨p, e, hp, fun ha => by rw [(unhide EB).2.2.2] at ha; cases ha⟩) f5 f6 f7 (fun h => by obtain ⟨z, e, hz, _⟩ := f8 h; exact ⟨z, e, hz, fun ha => by rw [(unhide EB).1] at ha; cases ha⟩) (fun _ => ⟨(unhide EB).2.1, (unhide EB).2.2.1, (unhide EB).2.2.2, gq, cq, rfl, (unhide HW).2.2.2, q1, q2, q3⟩) f10 f12 (fun _ => rfl) (fun _ => ⟨(unhide EB).1, unhide HC9⟩)
            case dn =>
              intro L a w4 hI hre
              have hall := ready_all (L := L) (by refine hI _ ?_; intro b0 b1 b2 b3 b4 b5 b6 b7 b8 b9 b10 b11 b12 b13 b14 x41 x42 x43 x44 x45 x46 x47 x48 x49 x50 x51 x52 x53 eL eA h0 h1 h2 h3 f0 f1 f2 f3 f4 f5 f6 f7 f8 f9 f10 f12 f13 f14; subst eL; rfl) (by kernel_rfl) hre 15
              refine hI _ ?_
              clear hI
              intro b0 b1 b2 b3 b4 b5 b6 b7 b8 b9 b10 b11 b12 b13 b14 x41 x42 x43 x44 x45 x46 x47 x48 x49 x50 x51 x52 x53 eL eA h0 h1 h2 h3 f0 f1 f2 f3 f4 f5 f6 f7 f8 f9 f10 f12 f13 f14
              subst eL eA
              have ta : b9 = true := hall 9 (by omega) (by decide)
              have ts : b14 = true := hall 14 (by omega) (by decide)
              obtain ⟨_, _, _, gq, cq, ex, hraw, q1, q2, q3⟩ := f9 ta
              have hc := (f14 ts).2
              rw [ex] at hc
              have HX := hide (show BS w0 wst g code l b w4 ∧ Bk w4 bx off ∧ ∃ ka kn kc, kn ≤ 3 + (j + 1) ∧ w4.cell? ⟨bx, off + 4, none⟩ = some (.slice ka kn kc) ∧ Raw w4 26 5 (.slice ka kn kc) ∧ ∀ q ∈ FB (.slice ka kn kc), wst.heap.size < q ∧ q ≠ bx ∧ q ≠ b from ⟨h0, h2, _, _, _, by omega, hc, hraw, fun q hq => by have e9 : q = gq := (by simpa [FB, Value.ownBlock, eq_comm] using hq); omega⟩)
              clear h0 h1 h2 h3 hall f0 f1 f2 f3 f4 f5 f6 f7 f8 f9 f10 f12 f13 f14 ta ts hraw hc hre
              go_wp2_with fail
              go_roundw
              case rel => exact ⟨j + 1, by omega, by go_num, unhide HX⟩
              case measure => simp [intOf]; omega
          · have hj5' : ¬ (j : Int) < 120 := by omega
            have HE := hide hBS
            clear hBS hbk0 hc40 hq4 hqd
            go_wp2_with fail
            go_meet
            exact unhide HE
      case rest =>
      have hBS := hcut
      obtain ⟨hrb, ⟨kd, a1, n1, c1, a2, n2, c2, a3, n3, c3, a4, n4, c4, hnb⟩, hbl, hC, hG⟩ := hBS
      have hput := hrb.put5 (.int .i64 kd) (.slice a1 n1 c1) (.slice a2 n2 c2) (.slice a3 n3 c3) (.slice a4 n4 c4)
      have hsf := set5_frm wc wst.heap.size (.int .i64 kd) (.slice a1 n1 c1) (.slice a2 n2 c2) (.slice a3 n3 c3) (.slice a4 n4 c4)
      have hC9 := hC.set' (Frm.toGrown' hsf) (by omega) hs0
      have hG9 := grown_new hG (Frm.toGrown' hsf) (fun q hq => by cases hq; exact Nat.le_refl _)
      obtain ⟨_, _, _, _, _, _, _, _, _, _, _, _, _, hr5⟩ := id hrb
      obtain ⟨y0, y1, y2, y3, y4⟩ := hr5.cells
      have g0 := hr5.frozen 0
      have g1 := hr5.frozen 1
      have g2 := hr5.frozen 2
      have g3 := hr5.frozen 3
      have g4 := hr5.frozen 4
      obtain ⟨z0, z1, z2, z3, z4⟩ := hnb.cells
      simp only [Nat.zero_add] at y0 y1 y2 y3 y4 z0 z1 z2 z3 z4
      have HE := hide (And.intro hput.cells (And.intro hC9 hG9))
      clear hput hsf hC9 hG9 hrb hr5 hnb hC hG
      go_wp2_with fail
      obtain ⟨⟨r0, r1, r2, r3, r4⟩, hC9, hG9⟩ := unhide HE
      simp only [Nat.zero_add] at r0 r1 r2 r3 r4
      exact bodyPost_ret (v := .agg #[.int .i64 kd, .slice a1 n1 c1, .slice a2 n2 c2, .slice a3 n3 c3, .slice a4 n4 c4]) (by simp [results, Tryz.results32, go_sem, r0, r1, r2, r3, r4]) rfl ⟨_, rfl, ⟨_, _, _, _, _, _, _, _, _, _, _, _, _, rfl⟩, hC9, hG9⟩
end Go.Proofs.YtaoodcielfabdaaGreat

/- The laws' own copy of a slice of attributes, of nodes, of a whole tree, by contracts. -/
namespace Go.Proofs.YtaoodcielfabdaaGreat
open Go.RowKit
set_option linter.unusedVariables false


theorem take_more (xs : List Value) (m j : Nat) (ys : List Value) (v : Value) (h : xs.take (m + j) = ys) (hl : m + j < xs.length) : (xs.set (m + j) v).take (m + j + 1) = ys ++ [v] := by
  subst h
  have hl2 : m + j < (xs.set (m + j) v).length := by simpa using hl
  rw [List.take_succ_eq_append_getElem hl2, List.getElem_set_self, List.take_set_of_le (Nat.le_refl _)]
/-- The elements that have been laid so far in a row of the call's own. -/
structure Half {α : Type} (w : World) (e : TypeId) (size g n : Nat) (l : List α) (R : List Value → α → List Nat → Prop) (lo k : Nat) : Prop where
  laid : ∃ (Cs : List (List Value)) (Fs : List (List Nat)) (xs : List Value), Cs.length = k ∧ Fs.length = k ∧ (∀ i (hi : i < l.length), i < k → (Cs.getD i []).length = size ∧ R (Cs.getD i []) l[i] (Fs.getD i [])) ∧
    w.ownsRow 0 e size (.slice (some ⟨g, 0, none⟩) n n) n xs ∧ xs.take (k * size) = Cs.flatten ∧ Fs.flatten.Nodup ∧ Rng Fs.flatten lo w.heap.size

theorem Half.whole {α : Type} {w : World} {e : TypeId} {size g n : Nat} {l : List α} {R : List Value → α → List Nat → Prop} {lo : Nat} (h : Half w e size g n l R lo n) (hn : l.length = n) (hg : g < lo) :
    ∃ F, OwElems w e size (.slice (some ⟨g, 0, none⟩) n n) l R F ∧ F.Nodup ∧ (∀ q ∈ F, g ≤ q ∧ q < w.heap.size) := by
  obtain ⟨Cs, Fs, xs, h1, h2, h3, h4, h5, h6, h7⟩ := h.laid
  subst hn
  have hx : xs = Cs.flatten := by rw [← h5, List.take_of_length_le (by rw [h4.1]; exact Nat.le_refl _)]
  subst hx
  have hlt := (h4.lt g rfl).2
  refine ⟨FB (.slice (some ⟨g, 0, none⟩) l.length l.length) ++ Fs.flatten, ⟨Cs, Fs, h1, h2, fun i hi => h3 i hi hi, h4, rfl⟩, ?_, fun q hq => ?_⟩
  · rw [List.nodup_append]
    refine ⟨FB_nodup _, h6, fun a ha b hb e => ?_⟩
    have := h7 b hb
    simp [FB, Value.ownBlock] at ha
    omega
  · rcases List.mem_append.1 hq with h' | h'
    · simp [FB, Value.ownBlock] at h'; omega
    · have := h7 q h'; omega

theorem Half.start {α : Type} {w : World} {e : TypeId} {size g n : Nat} {l : List α} {R : List Value → α → List Nat → Prop} (lo : Nat) {xs : List Value} (h : w.ownsRow 0 e size (.slice (some ⟨g, 0, none⟩) n n) n xs) : Half w e size g n l R lo 0 :=
  ⟨[], [], xs, rfl, rfl, fun i hi h0 => by omega, h, by simp, by simp, Rng.nil _ _⟩

theorem flat_snoc {α : Type} (Cs : List (List α)) (C : List α) : (Cs ++ [C]).flatten = Cs.flatten ++ C := by simp
theorem getD_snoc {β : Type} (Cs : List (List β)) (C : List β) (i : Nat) : (Cs ++ [C]).getD i [] = if i < Cs.length then Cs.getD i [] else if i = Cs.length then C else [] := by
  by_cases h : i < Cs.length
  · rw [if_pos h, List.getD_eq_getElem?_getD, List.getElem?_append_left h, ← List.getD_eq_getElem?_getD]
  · rw [if_neg h]
    by_cases h2 : i = Cs.length
    · subst h2; simp
    · rw [if_neg h2, List.getD_eq_getElem?_getD, List.getElem?_eq_none (by simp; omega)]; rfl

/-- One element more. w1: behind the call that made it; w2: behind its store. -/
theorem Half.step {α : Type} {w w1 w2 : World} {e : TypeId} {size g n : Nat} {l : List α} {R R2 : List Value → α → List Nat → Prop} {lo k : Nat} (h : Half w e size g n l R lo k) (hk : k < l.length) (hlo : g < lo) (hlow : lo ≤ w.heap.size)
    (hB : Below w.heap.size w w1) (C : List Value) (G : List Nat) (hC : C.length = size) (hR : R2 C l[k] G) (hG : G.Nodup) (hrng : Rng G w.heap.size w1.heap.size)
    (hmono : ∀ C x G, R C x G → (∀ q ∈ G, q ≠ g) → R2 C x G) (hf : Frm w1 w2 [g]) (hs : ∀ xs : List Value, w1.ownsRow 0 e size (.slice (some ⟨g, 0, none⟩) n n) n xs → ∃ ys, w2.ownsRow 0 e size (.slice (some ⟨g, 0, none⟩) n n) n ys ∧ ys.take (k * size + size) = xs.take (k * size) ++ C) :
    Half w2 e size g n l R2 lo (k + 1) := by
  obtain ⟨Cs, Fs, xs, h1, h2, h3, h4, h5, h6, h7⟩ := h.laid
  have h4' : w1.ownsRow 0 e size (.slice (some ⟨g, 0, none⟩) n n) n xs := ownsRow_frm h4 (Frm.ofBelow hB []) (fun _ _ => by simp)
  obtain ⟨ys, hy1, hy2⟩ := hs xs h4'
  have hsz := hf.size
  have hsz1 := hB.size
  refine ⟨Cs ++ [C], Fs ++ [G], ys, by simp [h1], by simp [h2], fun i hi hik => ?_, hy1, ?_, ?_, ?_⟩
  · rw [getD_snoc, getD_snoc, h1, h2]
    by_cases hlt : i < k
    · rw [if_pos hlt, if_pos hlt]
      have := h3 i hi hlt
      refine ⟨this.1, hmono _ _ _ this.2 (fun q hq => ?_)⟩
      have := h7 q (mem_flat hq)
      omega
    · have e : i = k := by omega
      subst e
      rw [if_neg hlt, if_neg hlt, if_pos rfl, if_pos rfl]
      exact ⟨hC, hR⟩
  · rw [flat_snoc, ← h5, Nat.succ_mul]; exact hy2
  · rw [flat_snoc, List.nodup_append]
    exact ⟨h6, hG, fun a ha b hb e => by have := h7 a ha; have := hrng b hb; omega⟩
  · rw [flat_snoc]
    exact (h7.mono (Nat.le_refl _) (by omega)).app (hrng.mono (by omega) (by omega))

end Go.Proofs.YtaoodcielfabdaaGreat

/- Rows of ints in memory: what may be read, what is owned. -/
namespace Go.Proofs.YtaoodcielfabdaaGreat
open Go.RowKit
set_option linter.unusedVariables false

/-- Each number is a byte. -/
def okZ (l : List Int) : Prop := ∀ x ∈ l, -9223372036854775808 ≤ x ∧ x ≤ 9223372036854775807

/-- The cells of a row of bytes. -/
def valz (l : List Int) : List Value := l.map (Value.int .i64)

/-- The value v is a slice whose elements can be read in w: the bytes l. -/
def Ints (w : World) (v : Value) (l : List Int) : Prop :=
  okZ l ∧ l.length ≤ maxLen ∧
  ((v = .slice none 0 0 ∧ l = []) ∨
   (∃ x cap, v = .slice (some x) 0 cap ∧ cap ≤ maxLen ∧ l = []) ∨
   (∃ b off cap, v = .slice (some ⟨b, off, none⟩) l.length cap ∧ l.length ≤ cap ∧ cap ≤ maxLen ∧ l ≠ [] ∧ b < w.heap.size ∧
      ∀ i, i < l.length → w.cell? ⟨b, off + i, none⟩ = some (.int .i64 (l.getD i 0))))

/-- The value v is a slice at the head of a block of the call's own, from 'base' on: the bytes l. -/
def OwnZ (w : World) (base : Nat) (v : Value) (l : List Int) : Prop := okZ l ∧ w.ownsRow base 3 1 v l.length (valz l)

theorem okZ_nil : okZ [] := fun _ h => by cases h
theorem okZ.app {a b : List Int} (h : okZ a) (k : okZ b) : okZ (a ++ b) := fun x hx => by
  rcases List.mem_append.1 hx with h' | h'
  · exact h x h'
  · exact k x h'
theorem okZ.take {a : List Int} (h : okZ a) (n : Nat) : okZ (a.take n) := fun x hx => h x (List.mem_of_mem_take hx)
theorem okZ.drop {a : List Int} (h : okZ a) (n : Nat) : okZ (a.drop n) := fun x hx => h x (List.mem_of_mem_drop hx)
theorem okZ.at {a : List Int} (h : okZ a) (i : Nat) : -9223372036854775808 ≤ a[i]?.getD 0 ∧ a[i]?.getD 0 ≤ 9223372036854775807 := by
  by_cases hi : i < a.length
  · rw [List.getElem?_eq_getElem hi]; exact h _ (List.getElem_mem hi)
  · rw [List.getElem?_eq_none (by omega)]; decide
theorem okZ.one {x : Int} (h0 : -9223372036854775808 ≤ x) (h1 : x ≤ 9223372036854775807) : okZ [x] := fun y hy => by simp at hy; subst hy; exact ⟨h0, h1⟩

theorem valz_len (l : List Int) : (valz l).length = l.length := by simp [valz]
theorem valz_app (a b : List Int) : valz (a ++ b) = valz a ++ valz b := by simp [valz]
theorem valz_one (l : List Int) : ∀ u ∈ valz l, u.oneCell' = true := ints_oneCell _ _
theorem valz_at {l : List Int} {i : Nat} (h : i < l.length) : (valz l)[i]? = some (.int .i64 (l.getD i 0)) := by simp [valz, h]

/-- What is owned lies in a block between 'base' and the heap's end. -/
theorem OwnZ.lt {w : World} {base : Nat} {v : Value} {l : List Int} (h : OwnZ w base v l) : ∀ k, v.ownBlock = some k → base ≤ k ∧ k < w.heap.size := h.2.lt

theorem OwnZ.mono {w : World} {base base' : Nat} {v : Value} {l : List Int} (h : OwnZ w base v l) (hb : base' ≤ base) : OwnZ w base' v l := by
  refine ⟨h.1, h.2.1, ?_⟩
  rcases h.2.2 with h' | ⟨g, cap, cur, h1, h2, h3⟩
  · exact .inl h'
  · exact .inr ⟨g, cap, cur, h1, by omega, h3⟩

/-- What is owned can be read. -/
theorem OwnZ.ints {w : World} {base : Nat} {v : Value} {l : List Int} (h : OwnZ w base v l) : Ints w v l := by
  obtain ⟨hok, hlen, hrow⟩ := h
  have hl := hlen
  rcases hrow with ⟨rfl, h0⟩ | ⟨g, cap, cur, rfl, hb, hg, hnc, hcm, hcs, htake⟩
  · exact ⟨hok, by omega, .inl ⟨rfl, List.eq_nil_of_length_eq_zero h0⟩⟩
  · refine ⟨hok, by omega, .inr ?_⟩
    by_cases h0 : l = []
    · subst h0; exact .inl ⟨_, cap, rfl, hcm, rfl⟩
    · refine .inr ⟨g, 0, cap, rfl, hnc, hcm, h0, ?_, fun i hi => ?_⟩
      · by_cases hlt : g < w.heap.size
        · exact hlt
        · rw [Array.getElem?_eq_none (by omega)] at hg; cases hg
      · have := World.ownsRow.cellAt (w := w) (base := base) (e := 3) (size := 1) (g := g) (n := l.length) (cap := cap) (xs := valz l) ⟨hlen, .inr ⟨g, cap, cur, rfl, hb, hg, hnc, hcm, hcs, htake⟩⟩ i (by omega)
        rw [valz_at hi] at this
        simpa using this

/-- The length that a readable value bears. -/
theorem Ints.shape {w : World} {v : Value} {l : List Int} (h : Ints w v l) : ∃ a cap, v = .slice a l.length cap ∧ l.length ≤ cap ∧ cap ≤ maxLen := by
  obtain ⟨_, hm, ⟨rfl, rfl⟩ | ⟨x, cap, rfl, hc, rfl⟩ | ⟨b, off, cap, rfl, h1, h2, _⟩⟩ := h
  · exact ⟨none, 0, rfl, Nat.le_refl _, hm⟩
  · exact ⟨some x, cap, rfl, Nat.zero_le _, hc⟩
  · exact ⟨_, cap, rfl, h1, h2⟩

/-- A world in which all blocks that were there stand as they stood. -/
theorem Ints.keep {w w' : World} {v : Value} {l : List Int} (h : Ints w v l) (hb : Below w.heap.size w w') : Ints w' v l := by
  obtain ⟨hok, hm, h1 | h2 | ⟨b, off, cap, rfl, h1, h2, h3, h4, h5⟩⟩ := h
  · exact ⟨hok, hm, .inl h1⟩
  · exact ⟨hok, hm, .inr (.inl h2)⟩
  · exact ⟨hok, hm, .inr (.inr ⟨b, off, cap, rfl, h1, h2, h3, Nat.lt_of_lt_of_le h4 hb.size, fun i hi => by rw [hb.cell (p := ⟨b, off + i, none⟩) h4]; exact h5 i hi⟩)⟩

theorem OwnZ.keep {w w' : World} {base : Nat} {v : Value} {l : List Int} (h : OwnZ w base v l) (hb : Below w.heap.size w w') : OwnZ w' base v l :=
  ⟨h.1, h.2.kept (row := none) ⟨hb.os, hb.tape, hb.output, hb.size, fun k hk _ => hb.block k hk⟩ (by cases hv : v.ownBlock <;> simp)⟩

/-- A write into another block leaves what is owned. -/
theorem OwnZ.keepBy {w w' : World} {base : Nat} {v : Value} {l : List Int} {row : Option Nat} (h : OwnZ w base v l) (hg : w.grownBy w' row) (hne : v.ownBlock = none ∨ v.ownBlock ≠ row) : OwnZ w' base v l :=
  ⟨h.1, h.2.kept hg hne⟩

end Go.Proofs.YtaoodcielfabdaaGreat

/- spec.l4key answers what the plain test says. -/
namespace Go.Proofs.YtaoodcielfabdaaGreat
open Go.RowKit
set_option linter.unusedVariables false

/-- A number that may stand in a key. -/
def keyCh (_ : Nat) (x : Int) : Prop := 0 ≤ x ∧ x ≤ 999
def KeyOk (l : List Int) : Prop := 1 ≤ l.length ∧ l.length ≤ 12 ∧ l.getD (l.length - 1) 0 ≠ 0 ∧ allTo keyCh l l.length

theorem keyS_short (w : World) (a : Option Addr) (n cap : Nat) (h : n < 1 ∨ 12 < n) :
    Calls Tryz.prog 82 #[.slice a n cap] w fun e w' => e = .returned (.bool false) ∧ w' = w := by
  by_cases h1 : n < 1
  · have h1' : (n : Int) < 1 := by omega
    go_enter Tryz.func82, Tryz.ntmps82
    go_wp2
    go_ret
    exact ⟨rfl, rfl⟩
  · have h1' : decide ((n : Int) < 1) = false := by simp; omega
    have h2 : (12 : Int) < (n : Int) := by omega
    go_enter Tryz.func82, Tryz.ntmps82
    go_wp2
    go_ret
    exact ⟨rfl, rfl⟩

open Classical in
set_option maxHeartbeats 1600000 in
theorem keyS_row (w : World) (b off cap : Nat) (l : List Int) (hok : okZ l) (h1 : 1 ≤ l.length) (h8 : l.length ≤ 12)
    (hc : ∀ i, i < l.length → w.cell? ⟨b, off + i, none⟩ = some (.int .i64 (l.getD i 0))) :
    Calls Tryz.prog 82 #[.slice (some ⟨b, off, none⟩) l.length cap] w fun e w' => e = .returned (.bool (decide (KeyOk l))) ∧ w' = w := by
  have d1 : decide ((l.length : Int) < 1) = false := by simp; omega
  have d2 : decide ((12 : Int) < (l.length : Int)) = false := by simp; omega
  obtain ⟨n, hn⟩ : ∃ n, l.length = n + 1 := ⟨l.length - 1, by omega⟩
  obtain ⟨z, hz⟩ : ∃ z, z = l.getD n 0 := ⟨_, rfl⟩
  have hcz : w.cell? ⟨b, off + n, none⟩ = some (.int .i64 z) := by rw [hz]; exact hc _ (by omega)
  have HZ := hide hz
  have HC := hide hc
  have HN := hide hn
  have e1 : (l.length : Int) - 1 = (n : Int) := by omega
  have hlt0 : n < l.length := by omega
  clear hc hz
  by_cases hz0 : z = 0
  · have HF := hide (show decide (KeyOk l) = false by
      simp only [decide_eq_false_iff_not]
      rintro ⟨_, _, h, _⟩
      rw [unhide HN, Nat.add_sub_cancel, ← unhide HZ] at h
      exact h hz0)
    subst hz0
    clear hn
    go_enter Tryz.func82, Tryz.ntmps82
    go_wp2
    go_ret
    exact ⟨by rw [unhide HF]; rfl, rfl⟩
  have HZ0 := hide hz0
  have dz : (z == 0) = false := by simpa using hz0
  clear hn
  go_enter Tryz.func82, Tryz.ntmps82
  go_wp2
  go_loop [3] (fun i => ∃ k : Nat, k ≤ l.length ∧ i = .int .i64 k ∧ allTo keyCh l k) (fun i => l.length - (intOf i).toNat)
  case atStart => exact ⟨0, Nat.zero_le _, rfl, fun i hi => by omega⟩
  case round =>
    obtain ⟨k, hk, rfl, ha⟩ := hrel
    have HA := hide ha
    clear ha hcz
    by_cases hlt : k < l.length
    · obtain ⟨x, hx⟩ : ∃ x, x = l.getD k 0 := ⟨_, rfl⟩
      have hcx : w.cell? ⟨b, off + k, none⟩ = some (.int .i64 x) := by rw [hx]; exact unhide HC _ hlt
      have HX := hide hx
      have hlt' : (k : Int) < (l.length : Int) := by omega
      clear hx
      by_cases hn : keyCh k x
      · have HN := hide hn
        have q1 : decide (x < 0) = false := by unfold keyCh at hn; simp; omega
        have q2 : decide (999 < x) = false := by unfold keyCh at hn; simp; omega
        clear hn
        go_wp2
        go_round
        case rel => exact ⟨k + 1, by omega, by go_num, allTo_step (unhide HA) (by rw [← unhide HX]; exact unhide HN)⟩
        case measure => simp [intOf]; omega
      · have HF := hide (show decide (KeyOk l) = false by
          simp only [decide_eq_false_iff_not]
          rintro ⟨_, _, _, h⟩
          exact hn (by rw [unhide HX]; exact h k hlt))
        have hcase : decide (x < 0) = true ∨ (decide (x < 0) = false ∧ decide (999 < x) = true) := by
          unfold keyCh at hn; simp; omega
        clear hn
        rcases hcase with q1 | ⟨q1, q2⟩
        all_goals
          go_wp2
          go_ret
          exact ⟨by rw [unhide HF]; rfl, rfl⟩
    · have e : k = l.length := by omega
      subst e
      have HF := hide (show decide (KeyOk l) = true by
        simp only [decide_eq_true_eq]
        exact ⟨h1, h8, by rw [unhide HN, Nat.add_sub_cancel, ← unhide HZ]; exact unhide HZ0, unhide HA⟩)
      go_wp2
      go_ret
      exact ⟨by rw [unhide HF]; rfl, rfl⟩

open Classical in
theorem keyS_any (w : World) (v : Value) (l : List Int) (h : Ints w v l) :
    Calls Tryz.prog 82 #[v] w fun e w' => e = .returned (.bool (decide (KeyOk l))) ∧ w' = w := by
  by_cases hl : l.length < 1 ∨ 12 < l.length
  · obtain ⟨a, cap, rfl, _⟩ := h.shape
    have hd : decide (KeyOk l) = false := by simp only [decide_eq_false_iff_not]; rintro ⟨_, _, _⟩; omega
    rw [hd]
    exact keyS_short w a _ cap hl
  · obtain ⟨hok, hm, ⟨rfl, rfl⟩ | ⟨x, cap, rfl, hc, rfl⟩ | ⟨b, off, cap, rfl, _, _, _, _, h5⟩⟩ := h
    · simp at hl
    · simp at hl
    · exact keyS_row w b off cap l hok (by omega) (by omega) h5

theorem keyS_yes (w : World) (v : Value) (l : List Int) (h : Ints w v l) (hn : KeyOk l) : Calls Tryz.prog 82 #[v] w fun e w' => e = .returned (.bool true) ∧ w' = w := by
  refine (keyS_any w v l h).mono ?_
  rintro e w' ⟨rfl, h⟩
  exact ⟨by simp [hn], h⟩
theorem keyS_no (w : World) (v : Value) (l : List Int) (h : Ints w v l) (hn : ¬ KeyOk l) : Calls Tryz.prog 82 #[v] w fun e w' => e = .returned (.bool false) ∧ w' = w := by
  refine (keyS_any w v l h).mono ?_
  rintro e w' ⟨rfl, h⟩
  exact ⟨by simp [hn], h⟩

def keyB (l : List Int) : Bool := decide (1 ≤ l.length) && (decide (l.length ≤ 12) && (decide (l.getD (l.length - 1) 0 ≠ 0) && allB (fun _ x => decide (0 ≤ x ∧ x ≤ 999)) l))
theorem keyB_iff (l : List Int) : keyB l = true ↔ KeyOk l := by
  unfold keyB KeyOk
  rw [Bool.and_eq_true, Bool.and_eq_true, Bool.and_eq_true, decide_eq_true_eq, decide_eq_true_eq, decide_eq_true_eq, allB_iff (p := keyCh) (fun i x => by unfold keyCh; rw [decide_eq_true_eq])]
/-- The three tests by their truth values. -/
theorem keyS_b (w : World) (v : Value) (l : List Int) (h : Ints w v l) : Calls Tryz.prog 82 #[v] w fun e w' => e = .returned (.bool (keyB l)) ∧ w' = w := by
  by_cases hn : KeyOk l
  · rw [(keyB_iff l).2 hn]; exact keyS_yes w v l h hn
  · rw [Bool.eq_false_iff.2 (fun k => hn ((keyB_iff l).1 k))]; exact keyS_no w v l h hn
end Go.Proofs.YtaoodcielfabdaaGreat

/- spec.l4id, spec.l4zero and spec.Less answer what the plain tests say. -/
namespace Go.Proofs.YtaoodcielfabdaaGreat
open Go.RowKit
set_option linter.unusedVariables false

/-- An Id that may be a node's. -/
def idB (n r : Int) : Bool := decide (0 ≤ n) && (decide (n ≤ 1000000) && (decide (0 ≤ r) && (decide (r < 8) || (decide (n = 0) && decide (r < 122)))))
def zeroB (n r : Int) : Bool := decide (n = 0) && decide (r = 0)

/-- The cases of idB. -/
theorem idB_cases (n r : Int) :
    (idB n r = false ∧ decide (0 ≤ n) = false) ∨
    (idB n r = false ∧ decide (0 ≤ n) = true ∧ decide (n ≤ 1000000) = false) ∨
    (idB n r = false ∧ decide (0 ≤ n) = true ∧ decide (n ≤ 1000000) = true ∧ decide (0 ≤ r) = false) ∨
    (idB n r = true ∧ decide (0 ≤ n) = true ∧ decide (n ≤ 1000000) = true ∧ decide (0 ≤ r) = true ∧ decide (r < 8) = true) ∨
    (idB n r = false ∧ decide (0 ≤ n) = true ∧ decide (n ≤ 1000000) = true ∧ decide (0 ≤ r) = true ∧ decide (r < 8) = false ∧ (n == 0) = false) ∨
    (idB n r = true ∧ decide (0 ≤ n) = true ∧ decide (n ≤ 1000000) = true ∧ decide (0 ≤ r) = true ∧ decide (r < 8) = false ∧ (n == 0) = true ∧ decide (r < 122) = true) ∨
    (idB n r = false ∧ decide (0 ≤ n) = true ∧ decide (n ≤ 1000000) = true ∧ decide (0 ≤ r) = true ∧ decide (r < 8) = false ∧ (n == 0) = true ∧ decide (r < 122) = false) := by
  unfold idB
  cases a : decide (0 ≤ n) <;> cases b : decide (n ≤ 1000000) <;> cases c : decide (0 ≤ r) <;> cases d : decide (r < 8) <;> by_cases e : n = 0 <;> cases f : decide (r < 122) <;> simp [e]

set_option maxHeartbeats 1600000 in
theorem idS_any (w : World) (n r : Int) :
    Calls Tryz.prog 81 #[.agg #[.int .i64 n, .int .i64 r]] w fun e w' => e = .returned (.bool (idB n r)) ∧ w' = w.alloc (.cells #[.int .i64 n, .int .i64 r] 35) := by
  rcases idB_cases n r with ⟨h, q1⟩ | ⟨h, q1, q2⟩ | ⟨h, q1, q2, q3⟩ | ⟨h, q1, q2, q3, q4⟩ | ⟨h, q1, q2, q3, q4, q5⟩ | ⟨h, q1, q2, q3, q4, q5, q6⟩ | ⟨h, q1, q2, q3, q4, q5, q6⟩
  all_goals
    have HE := hide h
    clear h
    go_enter Tryz.func81, Tryz.ntmps81
    go_wp2
    go_ret
    exact ⟨by rw [unhide HE]; rfl, rfl⟩

set_option maxHeartbeats 1600000 in
theorem zeroS_any (w : World) (n r : Int) :
    Calls Tryz.prog 80 #[.agg #[.int .i64 n, .int .i64 r]] w fun e w' => e = .returned (.bool (zeroB n r)) ∧ w' = w.alloc (.cells #[.int .i64 n, .int .i64 r] 35) := by
  go_enter Tryz.func80, Tryz.ntmps80
  go_wp2
  · have e0 : n = 0 := by assumption
    have e1 : r = 0 := by assumption
    go_ret
    exact ⟨by unfold zeroB; simp [e0, e1], by rw [e0, e1]⟩
  · have e0 : n = 0 := by assumption
    have e1 : ¬ r = 0 := by assumption
    go_ret
    exact ⟨by unfold zeroB; simp [e0, e1], by rw [e0]⟩
  · have e0 : ¬ n = 0 := by assumption
    go_ret
    exact ⟨by unfold zeroB; simp [e0], rfl⟩

end Go.Proofs.YtaoodcielfabdaaGreat
