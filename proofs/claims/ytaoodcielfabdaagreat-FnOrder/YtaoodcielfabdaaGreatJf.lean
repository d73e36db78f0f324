/- Own texts joined: L3close, L3end, L3tag, Build, OwnE. -/
import Derived.Test.YtaoodcielfabdaaGreatJa
import Derived.Test.YtaoodcielfabdaaGreatJb
import Derived.Test.YtaoodcielfabdaaGreatJc
import Derived.Test.YtaoodcielfabdaaGreatJd
import Derived.Test.YtaoodcielfabdaaGreatJe
import Derived.Deep.Cut
import Derived.WalkLawsBesides
import Derived.Deep.QuietTactic
import Derived.BigQuiet
import Derived.Lib.SlBytesConst

/- spec.l3close ends, in the zone. -/
namespace Go.Proofs.YtaoodcielfabdaaGreat
open Go.RowKit
set_option linter.unusedVariables false
set_option maxRecDepth 100000


def Lc4 (w3 : World) (B N xb k og c pb p2 : Nat) (m : Int) (ka : Option Addr) (kn kc : Nat) (kd : Int) (a1 : Option Addr) (n1 c1 : Nat) (a2 : Option Addr) (n2 c2 : Nat) (a3 : Option Addr) (n3 c3 : Nat) (a4 : Option Addr) (n4 c4 : Nat) (L : Array Bool) (a : Act) (w : World) : Prop :=
  ∀ C : Prop, (∀ (b0 b1 b2 b3 b4 b5 b6 b7 b8 b9 b10 b11 b12 b13 b14 b15 b16 b17 b18 b19 b20 b21 : Bool) (x28 x29 x30 x31 x32 x33 x34 x35 x36 x37 x38 x39 x40 x41 x42 x43 x44 x45 x46 x47 x48 : Value), L = #[b0, b1, b2, b3, b4, b5, b6, b7, b8, b9, b10, b11, b12, b13, b14, b15, b16, b17, b18, b19, b20, b21] → a = { tmps := #[.pointer (some ⟨xb, 0, none⟩), undef, .int .i64 ((k : Int) + 1), .pointer (some ⟨pb, 0, none⟩), .pointer (some ⟨xb, 0, none⟩), .pointer (some ⟨xb, 0, none⟩), .pointer (some ⟨xb, 0, none⟩), .slice (some ⟨og, 0, none⟩) (k + 1 + 1) c, .int .i64 ((k : Int) + 1 + 1), .int .i64 ((k : Int) + 1), .pointer (some ⟨xb, 0, none⟩), .pointer (some ⟨xb, 0, none⟩), .pointer (some ⟨xb, 0, none⟩), .slice (some ⟨og, 0, none⟩) (k + 1 + 1) c, .int .i64 ((k : Int) + 1), .pointer (some ⟨og, (k + 1) * 5, none⟩), .agg #[.int .i64 kd, .slice a1 n1 c1, .slice a2 n2 c2, .slice a3 n3 c3, .slice a4 n4 c4], .pointer (some ⟨xb, 0, none⟩), .pointer (some ⟨xb, 0, none⟩), .pointer (some ⟨xb, 0, none⟩), .pointer (some ⟨xb, 0, none⟩), .slice (some ⟨og, 0, none⟩) (k + 1 + 1) c, .int .i64 ((k : Int) + 1), .slice (some ⟨og, 0, none⟩) (k + 1) c, .pointer (some ⟨xb, 0, none⟩), .pointer (some ⟨xb, 0, none⟩), .pointer (some ⟨p2, 0, none⟩), .bool true, x28, x29, x30, x31, x32, x33, x34, x35, x36, x37, x38, x39, x40, x41, x42, x43, x44, x45, x46, x47, x48, undef, undef, undef, undef, undef, undef, undef, undef, undef, undef, undef, undef, undef, undef, undef, undef, undef, undef, undef, undef, undef], defers := [] } → Zone w B (N + 1) → Zs B [] w3 w → (b18 = false → w.cell? ⟨og, k * 5 + 4, none⟩ = some (.slice ka kn kc)) → (b0 = true → x28 = .pointer (some ⟨xb, 0, none⟩)) → (b1 = true → x29 = .pointer (some ⟨xb, 0, none⟩)) → (b2 = true → x30 = .pointer (some ⟨xb, 0, none⟩)) → (b3 = true → x31 = .slice (some ⟨og, 0, none⟩) (k + 1) c) → (b4 = true → x32 = .int .i64 ((k : Int) + 1)) → (b5 = true → x33 = .int .i64 (k : Int)) → (b6 = true → x34 = .pointer (some ⟨xb, 0, none⟩)) → (b7 = true → x35 = .pointer (some ⟨xb, 0, none⟩)) → (b8 = true → x36 = .pointer (some ⟨xb, 0, none⟩)) → (b9 = true → x37 = .slice (some ⟨og, 0, none⟩) (k + 1) c) → (b10 = true → x38 = .int .i64 ((k : Int) + 1)) → (b11 = true → x39 = .int .i64 (k : Int)) → (b12 = true → x40 = .pointer (some ⟨og, k * 5, none⟩)) → (b13 = true → x41 = .pointer (some ⟨og, k * 5 + 4, none⟩)) → (b14 = true → x42 = .slice ka kn kc) → (b15 = true → ∃ kd' a1' n1' c1' a2' n2' c2' a3' n3' c3' a4' n4' c4', x43 = .agg #[.int .i64 kd', .slice a1' n1' c1', .slice a2' n2' c2', .slice a3' n3' c3', .slice a4' n4' c4'] ∧ ZN w B (N + 1) (.int .i64 kd') (.slice a1' n1' c1') (.slice a2' n2' c2') (.slice a3' n3' c3') (.slice a4' n4' c4')) → (b16 = true → x44 = .int .i64 (kn : Int)) → (b17 = true → ∃ z, x45 = .slice (some ⟨z, 0, none⟩) 1 1 ∧ B ≤ z ∧ ZB w z 26 5) → (b18 = true → b14 = true ∧ b17 = true ∧ ∃ a' cap', x46 = .slice a' (kn + 1) cap' ∧ ZSl w B (N + 1) 26 5 (.slice a' (kn + 1) cap')) → (b19 = true → x47 = .pointer (some ⟨og, k * 5, none⟩)) → (b20 = true → x48 = .pointer (some ⟨og, k * 5 + 4, none⟩)) → C) → C
theorem Lc4_cases {i : Nat} (h : i < 22) : i = 0 ∨ i = 1 ∨ i = 2 ∨ i = 3 ∨ i = 4 ∨ i = 5 ∨ i = 6 ∨ i = 7 ∨ i = 8 ∨ i = 9 ∨ i = 10 ∨ i = 11 ∨ i = 12 ∨ i = 13 ∨ i = 14 ∨ i = 15 ∨ i = 16 ∨ i = 17 ∨ i = 18 ∨ i = 19 ∨ i = 20 ∨ i = 21 := by omega
def Lc6 (w3 : World) (B N xb k og c pb p2 : Nat) (m : Int) (ka : Option Addr) (kn kc : Nat) (kd : Int) (a1 : Option Addr) (n1 c1 : Nat) (a2 : Option Addr) (n2 c2 : Nat) (a3 : Option Addr) (n3 c3 : Nat) (a4 : Option Addr) (n4 c4 : Nat) (L : Array Bool) (a : Act) (w : World) : Prop :=
  ∀ C : Prop, (∀ (b0 b1 b2 b3 b4 b5 b6 b7 b8 b9 b10 b11 b12 b13 b14 b15 b16 b17 b18 b19 b20 : Bool) (x50 x51 x52 x53 x54 x55 x56 x57 x58 x59 x60 x61 x62 x63 x64 x65 x66 x67 x68 x69 : Value), L = #[b0, b1, b2, b3, b4, b5, b6, b7, b8, b9, b10, b11, b12, b13, b14, b15, b16, b17, b18, b19, b20] → a = { tmps := #[.pointer (some ⟨xb, 0, none⟩), undef, .int .i64 ((k : Int) + 1), .pointer (some ⟨pb, 0, none⟩), .pointer (some ⟨xb, 0, none⟩), .pointer (some ⟨xb, 0, none⟩), .pointer (some ⟨xb, 0, none⟩), .slice (some ⟨og, 0, none⟩) (k + 1 + 1) c, .int .i64 ((k : Int) + 1 + 1), .int .i64 ((k : Int) + 1), .pointer (some ⟨xb, 0, none⟩), .pointer (some ⟨xb, 0, none⟩), .pointer (some ⟨xb, 0, none⟩), .slice (some ⟨og, 0, none⟩) (k + 1 + 1) c, .int .i64 ((k : Int) + 1), .pointer (some ⟨og, (k + 1) * 5, none⟩), .agg #[.int .i64 kd, .slice a1 n1 c1, .slice a2 n2 c2, .slice a3 n3 c3, .slice a4 n4 c4], .pointer (some ⟨xb, 0, none⟩), .pointer (some ⟨xb, 0, none⟩), .pointer (some ⟨xb, 0, none⟩), .pointer (some ⟨xb, 0, none⟩), .slice (some ⟨og, 0, none⟩) (k + 1 + 1) c, .int .i64 ((k : Int) + 1), .slice (some ⟨og, 0, none⟩) (k + 1) c, .pointer (some ⟨xb, 0, none⟩), .pointer (some ⟨xb, 0, none⟩), .pointer (some ⟨p2, 0, none⟩), .bool false, undef, undef, undef, undef, undef, undef, undef, undef, undef, undef, undef, undef, undef, undef, undef, undef, undef, undef, undef, undef, undef, undef, x50, x51, x52, x53, x54, x55, x56, x57, x58, x59, x60, x61, x62, x63, x64, x65, x66, x67, x68, x69], defers := [] } → Zone w B (N + 1) → Zs B [] w3 w → (b17 = false → w.cell? ⟨og, k * 5 + 4, none⟩ = some (.slice ka kn kc)) → (b0 = true → x50 = .pointer (some ⟨xb, 0, none⟩)) → (b1 = true → x51 = .pointer (some ⟨xb, 0, none⟩)) → (b2 = true → x52 = .pointer (some ⟨xb, 0, none⟩)) → (b3 = true → x53 = .slice (some ⟨og, 0, none⟩) (k + 1) c) → (b4 = true → x54 = .int .i64 ((k : Int) + 1)) → (b5 = true → x55 = .int .i64 (k : Int)) → (b6 = true → x56 = .pointer (some ⟨xb, 0, none⟩)) → (b7 = true → x57 = .pointer (some ⟨xb, 0, none⟩)) → (b8 = true → x58 = .pointer (some ⟨xb, 0, none⟩)) → (b9 = true → x59 = .slice (some ⟨og, 0, none⟩) (k + 1) c) → (b10 = true → x60 = .int .i64 ((k : Int) + 1)) → (b11 = true → x61 = .int .i64 (k : Int)) → (b12 = true → x62 = .pointer (some ⟨og, k * 5, none⟩)) → (b13 = true → x63 = .pointer (some ⟨og, k * 5 + 4, none⟩)) → (b14 = true → x64 = .slice ka kn kc) → (b15 = true → ∃ kd' a1' n1' c1' a2' n2' c2' a3' n3' c3' a4' n4' c4', x65 = .agg #[.int .i64 kd', .slice a1' n1' c1', .slice a2' n2' c2', .slice a3' n3' c3', .slice a4' n4' c4'] ∧ ZN w B (N + 1) (.int .i64 kd') (.slice a1' n1' c1') (.slice a2' n2' c2') (.slice a3' n3' c3') (.slice a4' n4' c4')) → (b16 = true → b15 = true ∧ ∃ z, x66 = .slice (some ⟨z, 0, none⟩) 1 1 ∧ B ≤ z ∧ ZB w z 26 5) → (b17 = true → b14 = true ∧ b16 = true ∧ ∃ a' cap', x67 = .slice a' (kn + 1) cap' ∧ ZSl w B (N + 1) 26 5 (.slice a' (kn + 1) cap')) → (b18 = true → x68 = .pointer (some ⟨og, k * 5, none⟩)) → (b19 = true → x69 = .pointer (some ⟨og, k * 5 + 4, none⟩)) → C) → C
theorem Lc6_cases {i : Nat} (h : i < 21) : i = 0 ∨ i = 1 ∨ i = 2 ∨ i = 3 ∨ i = 4 ∨ i = 5 ∨ i = 6 ∨ i = 7 ∨ i = 8 ∨ i = 9 ∨ i = 10 ∨ i = 11 ∨ i = 12 ∨ i = 13 ∨ i = 14 ∨ i = 15 ∨ i = 16 ∨ i = 17 ∨ i = 18 ∨ i = 19 ∨ i = 20 := by omega
set_option maxHeartbeats 12800000 in
theorem l3close_any (w : World) (B N xb k og c : Nat) (m : Int) (ov : Bool) (hZ : Zone w B N) (hB : B ≤ w.heap.size) (hX : XB w B N xb (k + 1) og c m ov) (hxb : B ≤ xb) (hN : N ≤ 900000000) :
    Calls Tryz.prog 122 #[.pointer (some ⟨xb, 0, none⟩)] w fun e w' => (∃ v, e = .returned v) ∧ XQ w B (N + 1) xb k w' := by
  obtain ⟨lx, x1, x2, x3, x4, x5, x6, x7⟩ := hX
  have y0 : w.cell? ⟨xb, 0, none⟩ = some (.slice (some ⟨og, 0, none⟩) (k + 1 + 1) c) := lx.cell 0
  have f0 := lx.frozen 0
  have hxl := lx.lt
  obtain ⟨u0, u1, u2, u3, u4, e0, e1, e2, e3, e4, hn, _⟩ := hZ.five x4 x1 (k + 1) (by omega)
  obtain ⟨kd, a1, n1, c1, a2, n2, c2, a3, n3, c3, a4, n4, c4, rfl, rfl, rfl, rfl, rfl⟩ := hn.shape
  obtain ⟨hA, hAs⟩ := hZ.alloc (cs := #[.int .i64 kd, .slice a1 n1 c1, .slice a2 n2 c2, .slice a3 n3 c3, .slice a4 n4 c4]) (T := 26) hB (fun _ => hn.at)
  have hbx := ZB.made w #[.int .i64 kd, .slice a1 n1 c1, .slice a2 n2 c2, .slice a3 n3 c3, .slice a4 n4 c4] 26
  have hne : xb ≠ w.heap.size := by omega
  have hsz : (w.alloc (.cells #[.int .i64 kd, .slice a1 n1 c1, .slice a2 n2 c2, .slice a3 n3 c3, .slice a4 n4 c4] 26)).heap.size = w.heap.size + 1 := by simp
  have lxA := lx.zs hAs (by simp) notZ
  have x4A := hAs.zb _ _ _ (.inr (.inr rfl)) x4
  have hk1 : (k : Int) + 1 < (k : Int) + 1 + 1 := by omega
  have hcm : (k : Int) + 1 ≤ (c : Int) := by omega
  have LL := hide (And.intro hA (And.intro hAs (And.intro lxA (And.intro hbx (And.intro hsz x4A)))))
  clear hA hAs hbx hsz hZ lx lxA x4A x4 hn
  go_enter Tryz.func122, Tryz.ntmps122
  go_upto_region 2 with fail
  generalize (w.alloc (.cells #[.int .i64 kd, .slice a1 n1 c1, .slice a2 n2 c2, .slice a3 n3 c3, .slice a4 n4 c4] 26)) = w1 at *
  clear y0 e0 e1 e2 e3 e4 f0
  obtain ⟨hA, hAs, lx, hbx, hsz, x4⟩ := unhide LL
  clear LL
  generalize hpb : w.heap.size = pb at *
  have y0 : w1.cell? ⟨xb, 0, none⟩ = some (.slice (some ⟨og, 0, none⟩) (k + 1 + 1) c) := lx.cell 0
  have f0 := lx.frozen 0
  have l2 := lx.set 0 (.slice (some ⟨og, 0, none⟩) (k + 1) c)
  obtain ⟨hZ2, hZs2⟩ := hA.box lx notZ hxb 0 (.slice (some ⟨og, 0, none⟩) (k + 1) c)
  simp at l2
  have hZ2s := hAs.any.trans hZs2
  have hX2 : XB (w1.setCell ⟨xb, 0, none⟩ (.slice (some ⟨og, 0, none⟩) (k + 1) c)) B (N + 1) xb k og c m ov := ⟨l2, x1, by omega, x3, hZs2.zb _ _ _ (.inr (.inr rfl)) x4, by omega, by omega, by omega⟩
  have hb2 := hZs2.zb _ _ _ (.inr (.inr rfl)) hbx
  have LL := hide (And.intro hZ2 (And.intro hZ2s (And.intro hX2 hb2)))
  clear l2 hZ2 hZs2 hA hAs hbx lx hZ2s hX2 hb2 x4
  go_upto_region 3 with fail
  obtain ⟨hZ2, hZ2s, hX2, hb2⟩ := unhide LL
  clear LL y0 f0
  generalize (w1.setCell ⟨xb, 0, none⟩ (.slice (some ⟨og, 0, none⟩) (k + 1) c)) = w2 at *
  go_region
  · obtain ⟨hZ3, hz3⟩ := hZ2.alloc (cs := #[.bool false]) (T := 4) (by have := hZ2s.size; omega) (fun h => absurd h notZs)
    have hZs3 := (hZ2s.trans hz3.any).drew
    have hX3 := hX2.zs hz3 (Nat.le_refl _)
    have hb3 := hz3.zb _ _ _ (.inr (.inr rfl)) hb2
    have hB3 : B ≤ (w2.alloc (.cells #[.bool false] 4)).heap.size := by have := hZs3.size; have h2 : w.heap.size ≤ (w2.alloc (.cells #[.bool false] 4)).heap.size := this; omega
    have LL := hide (show Zone (w2.alloc (.cells #[.bool false] 4)).drew B N ∧ Zs B [xb] w (w2.alloc (.cells #[.bool false] 4)).drew ∧ XB (w2.alloc (.cells #[.bool false] 4)).drew B (N + 1) xb k og c m ov ∧ ZB (w2.alloc (.cells #[.bool false] 4)).drew pb 26 5 ∧ B ≤ (w2.alloc (.cells #[.bool false] 4)).drew.heap.size from ⟨hZ3, hZs3, hX3, hb3, hB3⟩)
    clear hZ3 hz3 hZs3 hX3 hb3 hB3 hZ2 hZ2s hX2 hb2
    go_wp2_with fail
    generalize (w2.alloc (.cells #[.bool false] 4)).drew = w3 at *
    obtain ⟨hZ3, hZs3, ⟨lx, hoB, hx2, hx3, ho3, hx5, hx6, hx7⟩, hb3, hB3⟩ := unhide LL
    clear LL
    generalize w2.heap.size = p2 at *
    have hkl : (k : Int) < (k : Int) + 1 := by omega
    have hwk : IntKind.i64.wrap (k : Int) = (k : Int) := by rw [IntKind.wrap_i64]; omega
    have hpB : B ≤ pb := hB
    obtain ⟨u0, u1, u2, u3, u4, _, _, _, _, ck3, hzk, _⟩ := hZ3.five ho3 hoB k (by omega)
    obtain ⟨_, _, _, _, hk3⟩ := hzk
    obtain ⟨ka, kn, kc, rfl, hkc, hkN, hkm, hkr⟩ := id hk3
    refine region_inv (by kernel_rfl) (Lc6 w3 B N xb k og c pb p2 m ka kn kc kd a1 n1 c1 a2 n2 c2 a3 n3 c3 a4 n4 c4) ?sz ?h0 ?step ?dn
    case sz =>
      intro L a w hI
      refine hI _ ?_
      intro b0 b1 b2 b3 b4 b5 b6 b7 b8 b9 b10 b11 b12 b13 b14 b15 b16 b17 b18 b19 b20 x50 x51 x52 x53 x54 x55 x56 x57 x58 x59 x60 x61 x62 x63 x64 x65 x66 x67 x68 x69 eL eA h0 h1 h2 f0 f1 f2 f3 f4 f5 f6 f7 f8 f9 f10 f11 f12 f13 f14 f15 f16 f17 f18 f19
      subst eL
      rfl
    case h0 =>
      exact fun _ k_ => k_ false false false false false false false false false false false false false false false false false false false false false _ _ _ _ _ _ _ _ _ _ _ _ _ _ _ _ _ _ _ _ rfl rfl (hZ3.mono (Nat.le_succ _)) (Zs.refl B [] w3).drew (fun _ => ck3) (fun h => by cases h) (fun h => by cases h) (fun h => by cases h) (fun h => by cases h) (fun h => by cases h) (fun h => by cases h) (fun h => by cases h) (fun h => by cases h) (fun h => by cases h) (fun h => by cases h) (fun h => by cases h) (fun h => by cases h) (fun h => by cases h) (fun h => by cases h) (fun h => by cases h) (fun h => by cases h) (fun h => by cases h) (fun h => by cases h) (fun h => by cases h) (fun h => by cases h)
    case step =>
      intro L a w i o hI hi ho
      refine hI _ ?_
      clear hI
      intro b0 b1 b2 b3 b4 b5 b6 b7 b8 b9 b10 b11 b12 b13 b14 b15 b16 b17 b18 b19 b20 x50 x51 x52 x53 x54 x55 x56 x57 x58 x59 x60 x61 x62 x63 x64 x65 x66 x67 x68 x69 eL eA h0 h1 h2 f0 f1 f2 f3 f4 f5 f6 f7 f8 f9 f10 f11 f12 f13 f14 f15 f16 f17 f18 f19
      subst eL eA
      rcases Lc6_cases (ready_lt hi) with rfl | rfl | rfl | rfl | rfl | rfl | rfl | rfl | rfl | rfl | rfl | rfl | rfl | rfl | rfl | rfl | rfl | rfl | rfl | rfl | rfl
      · obtain rfl := Option.some.inj ho
        go_simp
        exact fun _ k_ => k_ true b1 b2 b3 b4 b5 b6 b7 b8 b9 b10 b11 b12 b13 b14 b15 b16 b17 b18 b19 b20 _ x51 x52 x53 x54 x55 x56 x57 x58 x59 x60 x61 x62 x63 x64 x65 x66 x67 x68 x69 rfl rfl h0 h1 h2 (fun _ => rfl) f1 f2 f3 f4 f5 f6 f7 f8 f9 f10 f11 f12 f13 f14 f15 f16 f17 f18 f19
      · have g0 := ready_pred hi ho 0
        obtain rfl := Option.some.inj ho
        have e0 := f0 (g0 (by kernel_rfl))
        subst e0
        go_simp
        exact fun _ k_ => k_ b0 true b2 b3 b4 b5 b6 b7 b8 b9 b10 b11 b12 b13 b14 b15 b16 b17 b18 b19 b20 _ _ x52 x53 x54 x55 x56 x57 x58 x59 x60 x61 x62 x63 x64 x65 x66 x67 x68 x69 rfl rfl h0 h1 h2 f0 (fun _ => rfl) f2 f3 f4 f5 f6 f7 f8 f9 f10 f11 f12 f13 f14 f15 f16 f17 f18 f19
      · have g1 := ready_pred hi ho 1
        obtain rfl := Option.some.inj ho
        have e1 := f1 (g1 (by kernel_rfl))
        subst e1
        go_simp
        exact fun _ k_ => k_ b0 b1 true b3 b4 b5 b6 b7 b8 b9 b10 b11 b12 b13 b14 b15 b16 b17 b18 b19 b20 x50 _ _ x53 x54 x55 x56 x57 x58 x59 x60 x61 x62 x63 x64 x65 x66 x67 x68 x69 rfl rfl h0 h1 h2 f0 f1 (fun _ => rfl) f3 f4 f5 f6 f7 f8 f9 f10 f11 f12 f13 f14 f15 f16 f17 f18 f19
      · have g2 := ready_pred hi ho 2
        obtain rfl := Option.some.inj ho
        have e2 := f2 (g2 (by kernel_rfl))
        subst e2
        have co : w.cell? ⟨xb, 0, none⟩ = some (.slice (some ⟨og, 0, none⟩) (k + 1) c) := (lx.zs h1 (by simp) notZ).cell 0
        go_simp
        exact fun _ k_ => k_ b0 b1 b2 true b4 b5 b6 b7 b8 b9 b10 b11 b12 b13 b14 b15 b16 b17 b18 b19 b20 x50 x51 _ _ x54 x55 x56 x57 x58 x59 x60 x61 x62 x63 x64 x65 x66 x67 x68 x69 rfl rfl h0 h1 h2 f0 f1 f2 (fun _ => rfl) f4 f5 f6 f7 f8 f9 f10 f11 f12 f13 f14 f15 f16 f17 f18 f19
      · obtain rfl := Option.some.inj ho
        go_simp
        exact fun _ k_ => k_ b0 b1 b2 b3 true b5 b6 b7 b8 b9 b10 b11 b12 b13 b14 b15 b16 b17 b18 b19 b20 x50 x51 x52 x53 _ x55 x56 x57 x58 x59 x60 x61 x62 x63 x64 x65 x66 x67 x68 x69 rfl rfl h0 h1 h2 f0 f1 f2 f3 (fun _ => rfl) f5 f6 f7 f8 f9 f10 f11 f12 f13 f14 f15 f16 f17 f18 f19
      · have g4 := ready_pred hi ho 4
        obtain rfl := Option.some.inj ho
        have e4 := f4 (g4 (by kernel_rfl))
        subst e4
        go_simp
        exact fun _ k_ => k_ b0 b1 b2 b3 b4 true b6 b7 b8 b9 b10 b11 b12 b13 b14 b15 b16 b17 b18 b19 b20 x50 x51 x52 x53 _ _ x56 x57 x58 x59 x60 x61 x62 x63 x64 x65 x66 x67 x68 x69 rfl rfl h0 h1 h2 f0 f1 f2 f3 f4 (fun _ => rfl) f6 f7 f8 f9 f10 f11 f12 f13 f14 f15 f16 f17 f18 f19
      · obtain rfl := Option.some.inj ho
        go_simp
        exact fun _ k_ => k_ b0 b1 b2 b3 b4 b5 true b7 b8 b9 b10 b11 b12 b13 b14 b15 b16 b17 b18 b19 b20 x50 x51 x52 x53 x54 x55 _ x57 x58 x59 x60 x61 x62 x63 x64 x65 x66 x67 x68 x69 rfl rfl h0 h1 h2 f0 f1 f2 f3 f4 f5 (fun _ => rfl) f7 f8 f9 f10 f11 f12 f13 f14 f15 f16 f17 f18 f19
      · have g6 := ready_pred hi ho 6
        obtain rfl := Option.some.inj ho
        have e6 := f6 (g6 (by kernel_rfl))
        subst e6
        go_simp
        exact fun _ k_ => k_ b0 b1 b2 b3 b4 b5 b6 true b8 b9 b10 b11 b12 b13 b14 b15 b16 b17 b18 b19 b20 x50 x51 x52 x53 x54 x55 _ _ x58 x59 x60 x61 x62 x63 x64 x65 x66 x67 x68 x69 rfl rfl h0 h1 h2 f0 f1 f2 f3 f4 f5 f6 (fun _ => rfl) f8 f9 f10 f11 f12 f13 f14 f15 f16 f17 f18 f19
      · have g7 := ready_pred hi ho 7
        obtain rfl := Option.some.inj ho
        have e7 := f7 (g7 (by kernel_rfl))
        subst e7
        go_simp
        exact fun _ k_ => k_ b0 b1 b2 b3 b4 b5 b6 b7 true b9 b10 b11 b12 b13 b14 b15 b16 b17 b18 b19 b20 x50 x51 x52 x53 x54 x55 x56 _ _ x59 x60 x61 x62 x63 x64 x65 x66 x67 x68 x69 rfl rfl h0 h1 h2 f0 f1 f2 f3 f4 f5 f6 f7 (fun _ => rfl) f9 f10 f11 f12 f13 f14 f15 f16 f17 f18 f19
      · have g8 := ready_pred hi ho 8
        obtain rfl := Option.some.inj ho
        have e8 := f8 (g8 (by kernel_rfl))
        subst e8
        have co : w.cell? ⟨xb, 0, none⟩ = some (.slice (some ⟨og, 0, none⟩) (k + 1) c) := (lx.zs h1 (by simp) notZ).cell 0
        go_simp
        exact fun _ k_ => k_ b0 b1 b2 b3 b4 b5 b6 b7 b8 true b10 b11 b12 b13 b14 b15 b16 b17 b18 b19 b20 x50 x51 x52 x53 x54 x55 x56 x57 _ _ x60 x61 x62 x63 x64 x65 x66 x67 x68 x69 rfl rfl h0 h1 h2 f0 f1 f2 f3 f4 f5 f6 f7 f8 (fun _ => rfl) f10 f11 f12 f13 f14 f15 f16 f17 f18 f19
      · obtain rfl := Option.some.inj ho
        go_simp
        exact fun _ k_ => k_ b0 b1 b2 b3 b4 b5 b6 b7 b8 b9 true b11 b12 b13 b14 b15 b16 b17 b18 b19 b20 x50 x51 x52 x53 x54 x55 x56 x57 x58 x59 _ x61 x62 x63 x64 x65 x66 x67 x68 x69 rfl rfl h0 h1 h2 f0 f1 f2 f3 f4 f5 f6 f7 f8 f9 (fun _ => rfl) f11 f12 f13 f14 f15 f16 f17 f18 f19
      · have g10 := ready_pred hi ho 10
        obtain rfl := Option.some.inj ho
        have e10 := f10 (g10 (by kernel_rfl))
        subst e10
        go_simp
        exact fun _ k_ => k_ b0 b1 b2 b3 b4 b5 b6 b7 b8 b9 b10 true b12 b13 b14 b15 b16 b17 b18 b19 b20 x50 x51 x52 x53 x54 x55 x56 x57 x58 x59 _ _ x62 x63 x64 x65 x66 x67 x68 x69 rfl rfl h0 h1 h2 f0 f1 f2 f3 f4 f5 f6 f7 f8 f9 f10 (fun _ => rfl) f12 f13 f14 f15 f16 f17 f18 f19
      · have g9 := ready_pred hi ho 9
        have g11 := ready_pred hi ho 11
        obtain rfl := Option.some.inj ho
        have e9 := f9 (g9 (by kernel_rfl))
        subst e9
        have e11 := f11 (g11 (by kernel_rfl))
        subst e11
        go_simp
        exact fun _ k_ => k_ b0 b1 b2 b3 b4 b5 b6 b7 b8 b9 b10 b11 true b13 b14 b15 b16 b17 b18 b19 b20 x50 x51 x52 x53 x54 x55 x56 x57 x58 _ x60 _ _ x63 x64 x65 x66 x67 x68 x69 rfl rfl h0 h1 h2 f0 f1 f2 f3 f4 f5 f6 f7 f8 f9 f10 f11 (fun _ => rfl) f13 f14 f15 f16 f17 f18 f19
      · have g12 := ready_pred hi ho 12
        obtain rfl := Option.some.inj ho
        have e12 := f12 (g12 (by kernel_rfl))
        subst e12
        go_simp
        exact fun _ k_ => k_ b0 b1 b2 b3 b4 b5 b6 b7 b8 b9 b10 b11 b12 true b14 b15 b16 b17 b18 b19 b20 x50 x51 x52 x53 x54 x55 x56 x57 x58 x59 x60 x61 _ _ x64 x65 x66 x67 x68 x69 rfl rfl h0 h1 h2 f0 f1 f2 f3 f4 f5 f6 f7 f8 f9 f10 f11 f12 (fun _ => rfl) f14 f15 f16 f17 f18 f19
      · have g13 := ready_pred hi ho 13
        obtain rfl := Option.some.inj ho
        have e13 := f13 (g13 (by kernel_rfl))
        subst e13
        have hbz : b14 = false := by simpa using ready_off rfl hi
        have ck : w.cell? ⟨og, k * 5 + 4, none⟩ = some (.slice ka kn kc) := h2 (by cases hb : b17 with
          | false => rfl
          | true => have := (f17 hb).1; rw [hbz] at this; cases this)
        clear hbz
        go_simp
        exact fun _ k_ => k_ b0 b1 b2 b3 b4 b5 b6 b7 b8 b9 b10 b11 b12 b13 true b15 b16 b17 b18 b19 b20 x50 x51 x52 x53 x54 x55 x56 x57 x58 x59 x60 x61 x62 _ _ x65 x66 x67 x68 x69 rfl rfl h0 h1 h2 f0 f1 f2 f3 f4 f5 f6 f7 f8 f9 f10 f11 f12 f13 (fun _ => rfl) f15 f16 (fun h => ⟨rfl, (f17 h).2⟩) f18 f19
      · obtain rfl := Option.some.inj ho
        have hbp := h1.zb _ _ _ (.inr (.inr rfl)) hb3
        obtain ⟨u0, u1, u2, u3, u4, e0, e1, e2, e3, e4, hzn, _⟩ := h0.five hbp hpB 0 (by decide)
        obtain ⟨kd', a1', n1', c1', a2', n2', c2', a3', n3', c3', a4', n4', c4', rfl, rfl, rfl, rfl, rfl⟩ := hzn.shape
        simp only [Nat.zero_mul, Nat.zero_add] at e0 e1 e2 e3 e4
        go_simp
        exact fun _ k_ => k_ b0 b1 b2 b3 b4 b5 b6 b7 b8 b9 b10 b11 b12 b13 b14 true b16 b17 b18 b19 b20 x50 x51 x52 x53 x54 x55 x56 x57 x58 x59 x60 x61 x62 x63 x64 _ x66 x67 x68 x69 rfl rfl h0 h1 h2 f0 f1 f2 f3 f4 f5 f6 f7 f8 f9 f10 f11 f12 f13 f14 (fun _ => ⟨kd', a1', n1', c1', a2', n2', c2', a3', n3', c3', a4', n4', c4', rfl, hzn⟩) (fun h => ⟨rfl, (f16 h).2⟩) f17 f18 f19
      · have g15 := ready_pred hi ho 15
        obtain rfl := Option.some.inj ho
        have ej : b15 = true := g15 (by kernel_rfl)
        obtain ⟨kd', a1', n1', c1', a2', n2', c2', a3', n3', c3', a4', n4', c4', ex, hzn⟩ := f15 ej
        subst ex
        have hbz : b16 = false := by simpa using ready_off rfl hi
        have hap : b17 = false := by cases hb : b17 with
          | false => rfl
          | true => have := (f17 hb).2.1; rw [hbz] at this; cases this
        have hBw : B ≤ w.heap.size := Nat.le_trans hB3 h1.size
        have hog := (h1.zb _ _ _ (.inr (.inr rfl)) ho3).lt
        obtain ⟨hZ9, hz9⟩ := h0.alloc (cs := #[.int .i64 kd', .slice a1' n1' c1', .slice a2' n2' c2', .slice a3' n3' c3', .slice a4' n4' c4']) (T := 26) hBw (fun _ => (hzn).at)
        have hb9 : Below w.heap.size w (w.alloc (.cells #[.int .i64 kd', .slice a1' n1' c1', .slice a2' n2' c2', .slice a3' n3' c3', .slice a4' n4' c4'] 26)) := (Below.refl _ _).alloc (Nat.le_refl _) _
        have hm9 := ZB.made w #[.int .i64 kd', .slice a1' n1' c1', .slice a2' n2' c2', .slice a3' n3' c3', .slice a4' n4' c4'] 26
        have hgz : B ≤ w.heap.size := hBw
        have hck := (hb9.cell (p := ⟨og, k * 5 + 4, none⟩) hog).trans (h2 hap)
        have HAP := hide hap
        clear hap hbz
        have EJ := hide ej
        clear ej
        go_simp
        exact fun _ k_ => k_ b0 b1 b2 b3 b4 b5 b6 b7 b8 b9 b10 b11 b12 b13 b14 b15 true b17 b18 b19 b20 x50 x51 x52 x53 x54 x55 x56 x57 x58 x59 x60 x61 x62 x63 x64 _ _ x67 x68 x69 rfl rfl hZ9 (h1.trans hz9) (fun _ => hck) f0 f1 f2 f3 f4 f5 f6 f7 f8 f9 f10 f11 f12 f13 f14 (fun _ => ⟨kd', a1', n1', c1', a2', n2', c2', a3', n3', c3', a4', n4', c4', rfl, hzn.step hz9 (Nat.le_refl _)⟩) (fun _ => ⟨unhide EJ, w.heap.size, rfl, hgz, hm9⟩) (fun h => by rw [unhide HAP] at h; cases h) f18 f19
      · have g14 := ready_pred hi ho 14
        have g16 := ready_pred hi ho 16
        obtain rfl := Option.some.inj ho
        have ek : b14 = true := g14 (by kernel_rfl)
        have eb : b16 = true := g16 (by kernel_rfl)
        have e1 := f14 ek
        obtain ⟨ej, z, ez, hzB, hzz⟩ := f16 eb
        subst e1 ez
        obtain ⟨u0, u1, u2, u3, u4, q0, q1, q2, q3, q4, hzn, _⟩ := h0.five hzz hzB 0 (by decide)
        simp only [Nat.zero_mul, Nat.zero_add] at q0 q1 q2 q3 q4
        obtain ⟨iz, hty⟩ := zty2
        refine step_zapp hty (by rfl) (.tmp 64) (.tmp 66) (by rfl) h0 (Nat.le_trans hB3 h1.size) ka kn kc (by rfl) (ZSl.step (q := 2) hk3 h1 (by omega)) ⟨z, 0, none⟩ 1 1 [u0, u1, u2, u3, u4] (by rfl) rfl ?hc ?ht (Nat.le_refl _) (by omega) (by omega) ?_
        case hc =>
          intro j u hj
          match j, hj with
          | 0, hj => simp at hj; subst hj; exact q0
          | 1, hj => simp at hj; subst hj; exact q1
          | 2, hj => simp at hj; subst hj; exact q2
          | 3, hj => simp at hj; subst hj; exact q3
          | 4, hj => simp at hj; subst hj; exact q4
        case ht => exact fun j u hj => hzn.at j u (by simpa using hj)
        intro a' cap' w' k1 k2 k3
        exact fun _ k_ => k_ b0 b1 b2 b3 b4 b5 b6 b7 b8 b9 b10 b11 b12 b13 b14 b15 b16 true b18 b19 b20 x50 x51 x52 x53 x54 x55 x56 x57 x58 x59 x60 x61 x62 x63 _ x65 _ _ x68 x69 rfl rfl k2 (h1.trans k3) (fun e => by cases e) f0 f1 f2 f3 f4 f5 f6 f7 f8 f9 f10 f11 f12 f13 (fun _ => rfl) (fun h => by obtain ⟨kd', a1', n1', c1', a2', n2', c2', a3', n3', c3', a4', n4', c4', e, t⟩ := f15 h; exact ⟨kd', a1', n1', c1', a2', n2', c2', a3', n3', c3', a4', n4', c4', e, t.step k3 (Nat.le_refl _)⟩) (fun _ => ⟨ej, z, rfl, hzB, k3.zb _ _ _ (.inr (.inr rfl)) hzz⟩) (fun _ => ⟨ek, eb, a', cap', rfl, k1⟩) f18 f19
      · have g3 := ready_pred hi ho 3
        have g5 := ready_pred hi ho 5
        obtain rfl := Option.some.inj ho
        have e3 := f3 (g3 (by kernel_rfl))
        subst e3
        have e5 := f5 (g5 (by kernel_rfl))
        subst e5
        go_simp
        exact fun _ k_ => k_ b0 b1 b2 b3 b4 b5 b6 b7 b8 b9 b10 b11 b12 b13 b14 b15 b16 b17 true b19 b20 x50 x51 x52 _ x54 _ x56 x57 x58 x59 x60 x61 x62 x63 x64 x65 x66 x67 _ x69 rfl rfl h0 h1 h2 f0 f1 f2 f3 f4 f5 f6 f7 f8 f9 f10 f11 f12 f13 f14 f15 f16 f17 (fun _ => rfl) f19
      · have g18 := ready_pred hi ho 18
        obtain rfl := Option.some.inj ho
        have e18 := f18 (g18 (by kernel_rfl))
        subst e18
        go_simp
        exact fun _ k_ => k_ b0 b1 b2 b3 b4 b5 b6 b7 b8 b9 b10 b11 b12 b13 b14 b15 b16 b17 b18 true b20 x50 x51 x52 x53 x54 x55 x56 x57 x58 x59 x60 x61 x62 x63 x64 x65 x66 x67 _ _ rfl rfl h0 h1 h2 f0 f1 f2 f3 f4 f5 f6 f7 f8 f9 f10 f11 f12 f13 f14 f15 f16 f17 f18 (fun _ => rfl)
      · have g19 := ready_pred hi ho 19
        have g17 := ready_pred hi ho 17
        obtain rfl := Option.some.inj ho
        have ea : b17 = true := g17 (by kernel_rfl)
        have ef := f19 (g19 (by kernel_rfl))
        obtain ⟨ek, eb, a', cap', ex, hsl⟩ := f17 ea
        subst ef ex
        have EB := hide (And.intro ea (And.intro ek eb))
        clear ea ek eb
        have hog := h1.zb _ _ _ (.inr (.inr rfl)) ho3
        obtain ⟨v9, c9, _, z9⟩ := h0.cell hog (.inr (.inr rfl)) hoB (i := k * 5 + 4) (by omega)
        have hkk : kindAt 26 (k * 5 + 4) = 4 := by simp [kindAt]
        obtain ⟨hZ9, hz9⟩ := h0.set (i := k * 5 + 4) (v := .slice a' (kn + 1) cap') (.inr (.inr rfl)) hoB hog (by rw [hkk]; exact hsl)
        clear f17
        go_simp
        exact fun _ k_ => k_ b0 b1 b2 b3 b4 b5 b6 b7 b8 b9 b10 b11 b12 b13 b14 b15 b16 b17 b18 b19 true x50 x51 x52 x53 x54 x55 x56 x57 x58 x59 x60 x61 x62 x63 x64 x65 x66 _ x68 _ rfl rfl hZ9 (h1.trans hz9) (fun e => by rw [(unhide EB).1] at e; cases e) f0 f1 f2 f3 f4 f5 f6 f7 f8 f9 f10 f11 f12 f13 f14 (fun h => by obtain ⟨kd', a1', n1', c1', a2', n2', c2', a3', n3', c3', a4', n4', c4', e, t⟩ := f15 h; exact ⟨kd', a1', n1', c1', a2', n2', c2', a3', n3', c3', a4', n4', c4', e, t.step hz9 (Nat.le_refl _)⟩) (fun h => by obtain ⟨e0, z, e, hb, t⟩ := f16 h; exact ⟨e0, z, e, hb, hz9.zb _ _ _ (.inr (.inr rfl)) t⟩) (fun _ => ⟨(unhide EB).2.1, (unhide EB).2.2, a', cap', rfl, ZSl.step (q := 2) hsl hz9 (Nat.le_refl _)⟩) f18 (fun _ => rfl)
    case dn =>
      intro L a w4 hI hre
      have hall := ready_all (L := L) (by refine hI _ ?_; intro b0 b1 b2 b3 b4 b5 b6 b7 b8 b9 b10 b11 b12 b13 b14 b15 b16 b17 b18 b19 b20 x50 x51 x52 x53 x54 x55 x56 x57 x58 x59 x60 x61 x62 x63 x64 x65 x66 x67 x68 x69 eL eA h0 h1 h2 f0 f1 f2 f3 f4 f5 f6 f7 f8 f9 f10 f11 f12 f13 f14 f15 f16 f17 f18 f19; subst eL; rfl) (by kernel_rfl) hre 21
      refine hI _ ?_
      clear hI
      intro b0 b1 b2 b3 b4 b5 b6 b7 b8 b9 b10 b11 b12 b13 b14 b15 b16 b17 b18 b19 b20 x50 x51 x52 x53 x54 x55 x56 x57 x58 x59 x60 x61 x62 x63 x64 x65 x66 x67 x68 x69 eL eA h0 h1 h2 f0 f1 f2 f3 f4 f5 f6 f7 f8 f9 f10 f11 f12 f13 f14 f15 f16 f17 f18 f19
      subst eL eA
      have s_ : b17 = true := hall 17 (by omega) (by decide)
      obtain ⟨_, _, a', cap', e1, hsl⟩ := f17 s_
      subst e1
      clear hall s_ f0 f1 f2 f3 f4 f5 f6 f7 f8 f9 f10 f11 f12 f13 f14 f15 f16 f17 f18 f19 hre h2
      have HE := hide (show XQ w B (N + 1) xb k w4 from ⟨h0, hZs3.trans h1.any, og, c, m, ov, lx.zs h1 (by simp) notZ, hoB, hx2, hx3, h1.zb _ _ _ (.inr (.inr rfl)) ho3, hx5, hx6, hx7⟩)
      clear h0 h1 hsl lx
      go_wp2_with fail
      go_end0
      exact ⟨⟨_, rfl⟩, unhide HE⟩
  · obtain ⟨hZ3, hz3⟩ := hZ2.alloc (cs := #[.bool true]) (T := 4) (by have := hZ2s.size; omega) (fun h => absurd h notZs)
    have hZs3 := (hZ2s.trans hz3.any).drew
    have hX3 := hX2.zs hz3 (Nat.le_refl _)
    have hb3 := hz3.zb _ _ _ (.inr (.inr rfl)) hb2
    have hB3 : B ≤ (w2.alloc (.cells #[.bool true] 4)).heap.size := by have := hZs3.size; have h2 : w.heap.size ≤ (w2.alloc (.cells #[.bool true] 4)).heap.size := this; omega
    have LL := hide (show Zone (w2.alloc (.cells #[.bool true] 4)).drew B N ∧ Zs B [xb] w (w2.alloc (.cells #[.bool true] 4)).drew ∧ XB (w2.alloc (.cells #[.bool true] 4)).drew B (N + 1) xb k og c m ov ∧ ZB (w2.alloc (.cells #[.bool true] 4)).drew pb 26 5 ∧ B ≤ (w2.alloc (.cells #[.bool true] 4)).drew.heap.size from ⟨hZ3, hZs3, hX3, hb3, hB3⟩)
    clear hZ3 hz3 hZs3 hX3 hb3 hB3 hZ2 hZ2s hX2 hb2
    go_wp2_with fail
    generalize (w2.alloc (.cells #[.bool true] 4)).drew = w3 at *
    obtain ⟨hZ3, hZs3, ⟨lx, hoB, hx2, hx3, ho3, hx5, hx6, hx7⟩, hb3, hB3⟩ := unhide LL
    clear LL
    generalize w2.heap.size = p2 at *
    have hkl : (k : Int) < (k : Int) + 1 := by omega
    have hwk : IntKind.i64.wrap (k : Int) = (k : Int) := by rw [IntKind.wrap_i64]; omega
    have hpB : B ≤ pb := hB
    obtain ⟨u0, u1, u2, u3, u4, _, _, _, _, ck3, hzk, _⟩ := hZ3.five ho3 hoB k (by omega)
    obtain ⟨_, _, _, _, hk3⟩ := hzk
    obtain ⟨ka, kn, kc, rfl, hkc, hkN, hkm, hkr⟩ := id hk3
    refine region_inv (by kernel_rfl) (Lc4 w3 B N xb k og c pb p2 m ka kn kc kd a1 n1 c1 a2 n2 c2 a3 n3 c3 a4 n4 c4) ?sz ?h0 ?step ?dn
    case sz =>
      intro L a w hI
      refine hI _ ?_
      intro b0 b1 b2 b3 b4 b5 b6 b7 b8 b9 b10 b11 b12 b13 b14 b15 b16 b17 b18 b19 b20 b21 x28 x29 x30 x31 x32 x33 x34 x35 x36 x37 x38 x39 x40 x41 x42 x43 x44 x45 x46 x47 x48 eL eA h0 h1 h2 f0 f1 f2 f3 f4 f5 f6 f7 f8 f9 f10 f11 f12 f13 f14 f15 f16 f17 f18 f19 f20
      subst eL
      rfl
    case h0 =>
      exact fun _ k_ => k_ false false false false false false false false false false false false false false false false false false false false false false _ _ _ _ _ _ _ _ _ _ _ _ _ _ _ _ _ _ _ _ _ rfl rfl (hZ3.mono (Nat.le_succ _)) (Zs.refl B [] w3).drew (fun _ => ck3) (fun h => by cases h) (fun h => by cases h) (fun h => by cases h) (fun h => by cases h) (fun h => by cases h) (fun h => by cases h) (fun h => by cases h) (fun h => by cases h) (fun h => by cases h) (fun h => by cases h) (fun h => by cases h) (fun h => by cases h) (fun h => by cases h) (fun h => by cases h) (fun h => by cases h) (fun h => by cases h) (fun h => by cases h) (fun h => by cases h) (fun h => by cases h) (fun h => by cases h) (fun h => by cases h)
    case step =>
      intro L a w i o hI hi ho
      refine hI _ ?_
      clear hI
      intro b0 b1 b2 b3 b4 b5 b6 b7 b8 b9 b10 b11 b12 b13 b14 b15 b16 b17 b18 b19 b20 b21 x28 x29 x30 x31 x32 x33 x34 x35 x36 x37 x38 x39 x40 x41 x42 x43 x44 x45 x46 x47 x48 eL eA h0 h1 h2 f0 f1 f2 f3 f4 f5 f6 f7 f8 f9 f10 f11 f12 f13 f14 f15 f16 f17 f18 f19 f20
      subst eL eA
      rcases Lc4_cases (ready_lt hi) with rfl | rfl | rfl | rfl | rfl | rfl | rfl | rfl | rfl | rfl | rfl | rfl | rfl | rfl | rfl | rfl | rfl | rfl | rfl | rfl | rfl | rfl
      · obtain rfl := Option.some.inj ho
        go_simp
        exact fun _ k_ => k_ true b1 b2 b3 b4 b5 b6 b7 b8 b9 b10 b11 b12 b13 b14 b15 b16 b17 b18 b19 b20 b21 _ x29 x30 x31 x32 x33 x34 x35 x36 x37 x38 x39 x40 x41 x42 x43 x44 x45 x46 x47 x48 rfl rfl h0 h1 h2 (fun _ => rfl) f1 f2 f3 f4 f5 f6 f7 f8 f9 f10 f11 f12 f13 f14 f15 f16 f17 f18 f19 f20
      · have g0 := ready_pred hi ho 0
        obtain rfl := Option.some.inj ho
        have e0 := f0 (g0 (by kernel_rfl))
        subst e0
        go_simp
        exact fun _ k_ => k_ b0 true b2 b3 b4 b5 b6 b7 b8 b9 b10 b11 b12 b13 b14 b15 b16 b17 b18 b19 b20 b21 _ _ x30 x31 x32 x33 x34 x35 x36 x37 x38 x39 x40 x41 x42 x43 x44 x45 x46 x47 x48 rfl rfl h0 h1 h2 f0 (fun _ => rfl) f2 f3 f4 f5 f6 f7 f8 f9 f10 f11 f12 f13 f14 f15 f16 f17 f18 f19 f20
      · have g1 := ready_pred hi ho 1
        obtain rfl := Option.some.inj ho
        have e1 := f1 (g1 (by kernel_rfl))
        subst e1
        go_simp
        exact fun _ k_ => k_ b0 b1 true b3 b4 b5 b6 b7 b8 b9 b10 b11 b12 b13 b14 b15 b16 b17 b18 b19 b20 b21 x28 _ _ x31 x32 x33 x34 x35 x36 x37 x38 x39 x40 x41 x42 x43 x44 x45 x46 x47 x48 rfl rfl h0 h1 h2 f0 f1 (fun _ => rfl) f3 f4 f5 f6 f7 f8 f9 f10 f11 f12 f13 f14 f15 f16 f17 f18 f19 f20
      · have g2 := ready_pred hi ho 2
        obtain rfl := Option.some.inj ho
        have e2 := f2 (g2 (by kernel_rfl))
        subst e2
        have co : w.cell? ⟨xb, 0, none⟩ = some (.slice (some ⟨og, 0, none⟩) (k + 1) c) := (lx.zs h1 (by simp) notZ).cell 0
        go_simp
        exact fun _ k_ => k_ b0 b1 b2 true b4 b5 b6 b7 b8 b9 b10 b11 b12 b13 b14 b15 b16 b17 b18 b19 b20 b21 x28 x29 _ _ x32 x33 x34 x35 x36 x37 x38 x39 x40 x41 x42 x43 x44 x45 x46 x47 x48 rfl rfl h0 h1 h2 f0 f1 f2 (fun _ => rfl) f4 f5 f6 f7 f8 f9 f10 f11 f12 f13 f14 f15 f16 f17 f18 f19 f20
      · obtain rfl := Option.some.inj ho
        go_simp
        exact fun _ k_ => k_ b0 b1 b2 b3 true b5 b6 b7 b8 b9 b10 b11 b12 b13 b14 b15 b16 b17 b18 b19 b20 b21 x28 x29 x30 x31 _ x33 x34 x35 x36 x37 x38 x39 x40 x41 x42 x43 x44 x45 x46 x47 x48 rfl rfl h0 h1 h2 f0 f1 f2 f3 (fun _ => rfl) f5 f6 f7 f8 f9 f10 f11 f12 f13 f14 f15 f16 f17 f18 f19 f20
      · have g4 := ready_pred hi ho 4
        obtain rfl := Option.some.inj ho
        have e4 := f4 (g4 (by kernel_rfl))
        subst e4
        go_simp
        exact fun _ k_ => k_ b0 b1 b2 b3 b4 true b6 b7 b8 b9 b10 b11 b12 b13 b14 b15 b16 b17 b18 b19 b20 b21 x28 x29 x30 x31 _ _ x34 x35 x36 x37 x38 x39 x40 x41 x42 x43 x44 x45 x46 x47 x48 rfl rfl h0 h1 h2 f0 f1 f2 f3 f4 (fun _ => rfl) f6 f7 f8 f9 f10 f11 f12 f13 f14 f15 f16 f17 f18 f19 f20
      · obtain rfl := Option.some.inj ho
        go_simp
        exact fun _ k_ => k_ b0 b1 b2 b3 b4 b5 true b7 b8 b9 b10 b11 b12 b13 b14 b15 b16 b17 b18 b19 b20 b21 x28 x29 x30 x31 x32 x33 _ x35 x36 x37 x38 x39 x40 x41 x42 x43 x44 x45 x46 x47 x48 rfl rfl h0 h1 h2 f0 f1 f2 f3 f4 f5 (fun _ => rfl) f7 f8 f9 f10 f11 f12 f13 f14 f15 f16 f17 f18 f19 f20
      · have g6 := ready_pred hi ho 6
        obtain rfl := Option.some.inj ho
        have e6 := f6 (g6 (by kernel_rfl))
        subst e6
        go_simp
        exact fun _ k_ => k_ b0 b1 b2 b3 b4 b5 b6 true b8 b9 b10 b11 b12 b13 b14 b15 b16 b17 b18 b19 b20 b21 x28 x29 x30 x31 x32 x33 _ _ x36 x37 x38 x39 x40 x41 x42 x43 x44 x45 x46 x47 x48 rfl rfl h0 h1 h2 f0 f1 f2 f3 f4 f5 f6 (fun _ => rfl) f8 f9 f10 f11 f12 f13 f14 f15 f16 f17 f18 f19 f20
      · have g7 := ready_pred hi ho 7
        obtain rfl := Option.some.inj ho
        have e7 := f7 (g7 (by kernel_rfl))
        subst e7
        go_simp
        exact fun _ k_ => k_ b0 b1 b2 b3 b4 b5 b6 b7 true b9 b10 b11 b12 b13 b14 b15 b16 b17 b18 b19 b20 b21 x28 x29 x30 x31 x32 x33 x34 _ _ x37 x38 x39 x40 x41 x42 x43 x44 x45 x46 x47 x48 rfl rfl h0 h1 h2 f0 f1 f2 f3 f4 f5 f6 f7 (fun _ => rfl) f9 f10 f11 f12 f13 f14 f15 f16 f17 f18 f19 f20
      · have g8 := ready_pred hi ho 8
        obtain rfl := Option.some.inj ho
        have e8 := f8 (g8 (by kernel_rfl))
        subst e8
        have co : w.cell? ⟨xb, 0, none⟩ = some (.slice (some ⟨og, 0, none⟩) (k + 1) c) := (lx.zs h1 (by simp) notZ).cell 0
        go_simp
        exact fun _ k_ => k_ b0 b1 b2 b3 b4 b5 b6 b7 b8 true b10 b11 b12 b13 b14 b15 b16 b17 b18 b19 b20 b21 x28 x29 x30 x31 x32 x33 x34 x35 _ _ x38 x39 x40 x41 x42 x43 x44 x45 x46 x47 x48 rfl rfl h0 h1 h2 f0 f1 f2 f3 f4 f5 f6 f7 f8 (fun _ => rfl) f10 f11 f12 f13 f14 f15 f16 f17 f18 f19 f20
      · obtain rfl := Option.some.inj ho
        go_simp
        exact fun _ k_ => k_ b0 b1 b2 b3 b4 b5 b6 b7 b8 b9 true b11 b12 b13 b14 b15 b16 b17 b18 b19 b20 b21 x28 x29 x30 x31 x32 x33 x34 x35 x36 x37 _ x39 x40 x41 x42 x43 x44 x45 x46 x47 x48 rfl rfl h0 h1 h2 f0 f1 f2 f3 f4 f5 f6 f7 f8 f9 (fun _ => rfl) f11 f12 f13 f14 f15 f16 f17 f18 f19 f20
      · have g10 := ready_pred hi ho 10
        obtain rfl := Option.some.inj ho
        have e10 := f10 (g10 (by kernel_rfl))
        subst e10
        go_simp
        exact fun _ k_ => k_ b0 b1 b2 b3 b4 b5 b6 b7 b8 b9 b10 true b12 b13 b14 b15 b16 b17 b18 b19 b20 b21 x28 x29 x30 x31 x32 x33 x34 x35 x36 x37 _ _ x40 x41 x42 x43 x44 x45 x46 x47 x48 rfl rfl h0 h1 h2 f0 f1 f2 f3 f4 f5 f6 f7 f8 f9 f10 (fun _ => rfl) f12 f13 f14 f15 f16 f17 f18 f19 f20
      · have g9 := ready_pred hi ho 9
        have g11 := ready_pred hi ho 11
        obtain rfl := Option.some.inj ho
        have e9 := f9 (g9 (by kernel_rfl))
        subst e9
        have e11 := f11 (g11 (by kernel_rfl))
        subst e11
        go_simp
        exact fun _ k_ => k_ b0 b1 b2 b3 b4 b5 b6 b7 b8 b9 b10 b11 true b13 b14 b15 b16 b17 b18 b19 b20 b21 x28 x29 x30 x31 x32 x33 x34 x35 x36 _ x38 _ _ x41 x42 x43 x44 x45 x46 x47 x48 rfl rfl h0 h1 h2 f0 f1 f2 f3 f4 f5 f6 f7 f8 f9 f10 f11 (fun _ => rfl) f13 f14 f15 f16 f17 f18 f19 f20
      · have g12 := ready_pred hi ho 12
        obtain rfl := Option.some.inj ho
        have e12 := f12 (g12 (by kernel_rfl))
        subst e12
        go_simp
        exact fun _ k_ => k_ b0 b1 b2 b3 b4 b5 b6 b7 b8 b9 b10 b11 b12 true b14 b15 b16 b17 b18 b19 b20 b21 x28 x29 x30 x31 x32 x33 x34 x35 x36 x37 x38 x39 _ _ x42 x43 x44 x45 x46 x47 x48 rfl rfl h0 h1 h2 f0 f1 f2 f3 f4 f5 f6 f7 f8 f9 f10 f11 f12 (fun _ => rfl) f14 f15 f16 f17 f18 f19 f20
      · have g13 := ready_pred hi ho 13
        obtain rfl := Option.some.inj ho
        have e13 := f13 (g13 (by kernel_rfl))
        subst e13
        have hbz : b14 = false := by simpa using ready_off rfl hi
        have ck : w.cell? ⟨og, k * 5 + 4, none⟩ = some (.slice ka kn kc) := h2 (by cases hb : b18 with
          | false => rfl
          | true => have := (f18 hb).1; rw [hbz] at this; cases this)
        clear hbz
        go_simp
        exact fun _ k_ => k_ b0 b1 b2 b3 b4 b5 b6 b7 b8 b9 b10 b11 b12 b13 true b15 b16 b17 b18 b19 b20 b21 x28 x29 x30 x31 x32 x33 x34 x35 x36 x37 x38 x39 x40 _ _ x43 x44 x45 x46 x47 x48 rfl rfl h0 h1 h2 f0 f1 f2 f3 f4 f5 f6 f7 f8 f9 f10 f11 f12 f13 (fun _ => rfl) f15 f16 f17 (fun h => ⟨rfl, (f18 h).2⟩) f19 f20
      · obtain rfl := Option.some.inj ho
        have hbp := h1.zb _ _ _ (.inr (.inr rfl)) hb3
        obtain ⟨u0, u1, u2, u3, u4, e0, e1, e2, e3, e4, hzn, _⟩ := h0.five hbp hpB 0 (by decide)
        obtain ⟨kd', a1', n1', c1', a2', n2', c2', a3', n3', c3', a4', n4', c4', rfl, rfl, rfl, rfl, rfl⟩ := hzn.shape
        simp only [Nat.zero_mul, Nat.zero_add] at e0 e1 e2 e3 e4
        go_simp
        exact fun _ k_ => k_ b0 b1 b2 b3 b4 b5 b6 b7 b8 b9 b10 b11 b12 b13 b14 true b16 b17 b18 b19 b20 b21 x28 x29 x30 x31 x32 x33 x34 x35 x36 x37 x38 x39 x40 x41 x42 _ x44 x45 x46 x47 x48 rfl rfl h0 h1 h2 f0 f1 f2 f3 f4 f5 f6 f7 f8 f9 f10 f11 f12 f13 f14 (fun _ => ⟨kd', a1', n1', c1', a2', n2', c2', a3', n3', c3', a4', n4', c4', rfl, hzn⟩) f16 f17 f18 f19 f20
      · have g14 := ready_pred hi ho 14
        obtain rfl := Option.some.inj ho
        have e14 := f14 (g14 (by kernel_rfl))
        subst e14
        go_simp
        exact fun _ k_ => k_ b0 b1 b2 b3 b4 b5 b6 b7 b8 b9 b10 b11 b12 b13 b14 b15 true b17 b18 b19 b20 b21 x28 x29 x30 x31 x32 x33 x34 x35 x36 x37 x38 x39 x40 x41 _ x43 _ x45 x46 x47 x48 rfl rfl h0 h1 h2 f0 f1 f2 f3 f4 f5 f6 f7 f8 f9 f10 f11 f12 f13 f14 f15 (fun _ => rfl) f17 f18 f19 f20
      · obtain rfl := Option.some.inj ho
        have hbz : b17 = false := by simpa using ready_off rfl hi
        have hap : b18 = false := by cases hb : b18 with
          | false => rfl
          | true => have := (f18 hb).2.1; rw [hbz] at this; cases this
        have hBw : B ≤ w.heap.size := Nat.le_trans hB3 h1.size
        have hog := (h1.zb _ _ _ (.inr (.inr rfl)) ho3).lt
        obtain ⟨hZ9, hz9⟩ := h0.alloc (cs := #[.int .i64 0, .slice none 0 0, .slice none 0 0, .slice none 0 0, .slice none 0 0]) (T := 26) hBw (fun _ => (ZN.zero w B (N + 1)).at)
        have hb9 : Below w.heap.size w (w.alloc (.cells #[.int .i64 0, .slice none 0 0, .slice none 0 0, .slice none 0 0, .slice none 0 0] 26)) := (Below.refl _ _).alloc (Nat.le_refl _) _
        have hm9 := ZB.made w #[.int .i64 0, .slice none 0 0, .slice none 0 0, .slice none 0 0, .slice none 0 0] 26
        have hgz : B ≤ w.heap.size := hBw
        have hck := (hb9.cell (p := ⟨og, k * 5 + 4, none⟩) hog).trans (h2 hap)
        have HAP := hide hap
        clear hap hbz
        go_simp
        exact fun _ k_ => k_ b0 b1 b2 b3 b4 b5 b6 b7 b8 b9 b10 b11 b12 b13 b14 b15 b16 true b18 b19 b20 b21 x28 x29 x30 x31 x32 x33 x34 x35 x36 x37 x38 x39 x40 x41 x42 x43 x44 _ x46 x47 x48 rfl rfl hZ9 (h1.trans hz9) (fun _ => hck) f0 f1 f2 f3 f4 f5 f6 f7 f8 f9 f10 f11 f12 f13 f14 (fun h => by obtain ⟨kd', a1', n1', c1', a2', n2', c2', a3', n3', c3', a4', n4', c4', e, t⟩ := f15 h; exact ⟨kd', a1', n1', c1', a2', n2', c2', a3', n3', c3', a4', n4', c4', e, t.step hz9 (Nat.le_refl _)⟩) f16 (fun _ => ⟨w.heap.size, rfl, hgz, hm9⟩) (fun h => by rw [unhide HAP] at h; cases h) f19 f20
      · have g14 := ready_pred hi ho 14
        have g17 := ready_pred hi ho 17
        obtain rfl := Option.some.inj ho
        have ek : b14 = true := g14 (by kernel_rfl)
        have eb : b17 = true := g17 (by kernel_rfl)
        have e1 := f14 ek
        obtain ⟨z, ez, hzB, hzz⟩ := f17 eb
        subst e1 ez
        obtain ⟨u0, u1, u2, u3, u4, q0, q1, q2, q3, q4, hzn, _⟩ := h0.five hzz hzB 0 (by decide)
        simp only [Nat.zero_mul, Nat.zero_add] at q0 q1 q2 q3 q4
        obtain ⟨iz, hty⟩ := zty2
        refine step_zapp hty (by rfl) (.tmp 42) (.tmp 45) (by rfl) h0 (Nat.le_trans hB3 h1.size) ka kn kc (by rfl) (ZSl.step (q := 2) hk3 h1 (by omega)) ⟨z, 0, none⟩ 1 1 [u0, u1, u2, u3, u4] (by rfl) rfl ?hc ?ht (Nat.le_refl _) (by omega) (by omega) ?_
        case hc =>
          intro j u hj
          match j, hj with
          | 0, hj => simp at hj; subst hj; exact q0
          | 1, hj => simp at hj; subst hj; exact q1
          | 2, hj => simp at hj; subst hj; exact q2
          | 3, hj => simp at hj; subst hj; exact q3
          | 4, hj => simp at hj; subst hj; exact q4
        case ht => exact fun j u hj => hzn.at j u (by simpa using hj)
        intro a' cap' w' k1 k2 k3
        exact fun _ k_ => k_ b0 b1 b2 b3 b4 b5 b6 b7 b8 b9 b10 b11 b12 b13 b14 b15 b16 b17 true b19 b20 b21 x28 x29 x30 x31 x32 x33 x34 x35 x36 x37 x38 x39 x40 x41 _ x43 x44 _ _ x47 x48 rfl rfl k2 (h1.trans k3) (fun e => by cases e) f0 f1 f2 f3 f4 f5 f6 f7 f8 f9 f10 f11 f12 f13 (fun _ => rfl) (fun h => by obtain ⟨kd', a1', n1', c1', a2', n2', c2', a3', n3', c3', a4', n4', c4', e, t⟩ := f15 h; exact ⟨kd', a1', n1', c1', a2', n2', c2', a3', n3', c3', a4', n4', c4', e, t.step k3 (Nat.le_refl _)⟩) f16 (fun _ => ⟨z, rfl, hzB, k3.zb _ _ _ (.inr (.inr rfl)) hzz⟩) (fun _ => ⟨ek, eb, a', cap', rfl, k1⟩) f19 f20
      · have g3 := ready_pred hi ho 3
        have g5 := ready_pred hi ho 5
        obtain rfl := Option.some.inj ho
        have e3 := f3 (g3 (by kernel_rfl))
        subst e3
        have e5 := f5 (g5 (by kernel_rfl))
        subst e5
        go_simp
        exact fun _ k_ => k_ b0 b1 b2 b3 b4 b5 b6 b7 b8 b9 b10 b11 b12 b13 b14 b15 b16 b17 b18 true b20 b21 x28 x29 x30 _ x32 _ x34 x35 x36 x37 x38 x39 x40 x41 x42 x43 x44 x45 x46 _ x48 rfl rfl h0 h1 h2 f0 f1 f2 f3 f4 f5 f6 f7 f8 f9 f10 f11 f12 f13 f14 f15 f16 f17 f18 (fun _ => rfl) f20
      · have g19 := ready_pred hi ho 19
        obtain rfl := Option.some.inj ho
        have e19 := f19 (g19 (by kernel_rfl))
        subst e19
        go_simp
        exact fun _ k_ => k_ b0 b1 b2 b3 b4 b5 b6 b7 b8 b9 b10 b11 b12 b13 b14 b15 b16 b17 b18 b19 true b21 x28 x29 x30 x31 x32 x33 x34 x35 x36 x37 x38 x39 x40 x41 x42 x43 x44 x45 x46 _ _ rfl rfl h0 h1 h2 f0 f1 f2 f3 f4 f5 f6 f7 f8 f9 f10 f11 f12 f13 f14 f15 f16 f17 f18 f19 (fun _ => rfl)
      · have g20 := ready_pred hi ho 20
        have g18 := ready_pred hi ho 18
        obtain rfl := Option.some.inj ho
        have ea : b18 = true := g18 (by kernel_rfl)
        have ef := f20 (g20 (by kernel_rfl))
        obtain ⟨ek, eb, a', cap', ex, hsl⟩ := f18 ea
        subst ef ex
        have EB := hide (And.intro ea (And.intro ek eb))
        clear ea ek eb
        have hog := h1.zb _ _ _ (.inr (.inr rfl)) ho3
        obtain ⟨v9, c9, _, z9⟩ := h0.cell hog (.inr (.inr rfl)) hoB (i := k * 5 + 4) (by omega)
        have hkk : kindAt 26 (k * 5 + 4) = 4 := by simp [kindAt]
        obtain ⟨hZ9, hz9⟩ := h0.set (i := k * 5 + 4) (v := .slice a' (kn + 1) cap') (.inr (.inr rfl)) hoB hog (by rw [hkk]; exact hsl)
        clear f18
        go_simp
        exact fun _ k_ => k_ b0 b1 b2 b3 b4 b5 b6 b7 b8 b9 b10 b11 b12 b13 b14 b15 b16 b17 b18 b19 b20 true x28 x29 x30 x31 x32 x33 x34 x35 x36 x37 x38 x39 x40 x41 x42 x43 x44 x45 _ x47 _ rfl rfl hZ9 (h1.trans hz9) (fun e => by rw [(unhide EB).1] at e; cases e) f0 f1 f2 f3 f4 f5 f6 f7 f8 f9 f10 f11 f12 f13 f14 (fun h => by obtain ⟨kd', a1', n1', c1', a2', n2', c2', a3', n3', c3', a4', n4', c4', e, t⟩ := f15 h; exact ⟨kd', a1', n1', c1', a2', n2', c2', a3', n3', c3', a4', n4', c4', e, t.step hz9 (Nat.le_refl _)⟩) f16 (fun h => by obtain ⟨z, e, hb, t⟩ := f17 h; exact ⟨z, e, hb, hz9.zb _ _ _ (.inr (.inr rfl)) t⟩) (fun _ => ⟨(unhide EB).2.1, (unhide EB).2.2, a', cap', rfl, ZSl.step (q := 2) hsl hz9 (Nat.le_refl _)⟩) f19 (fun _ => rfl)
    case dn =>
      intro L a w4 hI hre
      have hall := ready_all (L := L) (by refine hI _ ?_; intro b0 b1 b2 b3 b4 b5 b6 b7 b8 b9 b10 b11 b12 b13 b14 b15 b16 b17 b18 b19 b20 b21 x28 x29 x30 x31 x32 x33 x34 x35 x36 x37 x38 x39 x40 x41 x42 x43 x44 x45 x46 x47 x48 eL eA h0 h1 h2 f0 f1 f2 f3 f4 f5 f6 f7 f8 f9 f10 f11 f12 f13 f14 f15 f16 f17 f18 f19 f20; subst eL; rfl) (by kernel_rfl) hre 22
      refine hI _ ?_
      clear hI
      intro b0 b1 b2 b3 b4 b5 b6 b7 b8 b9 b10 b11 b12 b13 b14 b15 b16 b17 b18 b19 b20 b21 x28 x29 x30 x31 x32 x33 x34 x35 x36 x37 x38 x39 x40 x41 x42 x43 x44 x45 x46 x47 x48 eL eA h0 h1 h2 f0 f1 f2 f3 f4 f5 f6 f7 f8 f9 f10 f11 f12 f13 f14 f15 f16 f17 f18 f19 f20
      subst eL eA
      have s_ : b18 = true := hall 18 (by omega) (by decide)
      obtain ⟨_, _, a', cap', e1, hsl⟩ := f18 s_
      have s2 : b15 = true := hall 15 (by omega) (by decide)
      obtain ⟨kd', a1', n1', c1', a2', n2', c2', a3', n3', c3', a4', n4', c4', e2, hzn⟩ := f15 s2
      have e3 := f16 (hall 16 (by omega) (by decide))
      subst e1 e2 e3
      clear hall s_ s2 f0 f1 f2 f3 f4 f5 f6 f7 f8 f9 f10 f11 f12 f13 f14 f15 f16 f17 f18 f19 f20 hre h2
      obtain ⟨_, _, _, e9, hq1, hq2, hq3, hq4⟩ := hsl
      cases e9
      obtain ⟨g9, rfl, hg9, hzb⟩ : ∃ g9, a' = some ⟨g9, 0, none⟩ ∧ B ≤ g9 ∧ ZB w4 g9 26 (cap' * 5) := by
        rcases hq4 with ⟨_, h⟩ | h
        · omega
        · exact h
      obtain ⟨_, _, _, _, _, q0, q1, q2, q3, q4, _, t0, t1, t2, t3, t4⟩ := h0.five hzb hg9 kn (by omega)
      obtain ⟨hZ5, hz5⟩ := h0.put5 hzb hg9 kn hzn
      have h15 := h1.trans hz5
      have HE := hide (show XQ w B (N + 1) xb k _ from ⟨hZ5, hZs3.trans h15.any, og, c, m, ov, lx.zs h15 (by simp) notZ, hoB, hx2, hx3, h15.zb _ _ _ (.inr (.inr rfl)) ho3, hx5, hx6, hx7⟩)
      have hnl : (kn : Int) < (kn : Int) + 1 := by omega
      clear h0 h1 lx hzn hZ5 hz5 h15 hzb
      go_wp2_with fail
      go_end0
      exact ⟨⟨_, rfl⟩, unhide HE⟩
end Go.Proofs.YtaoodcielfabdaaGreat

/- spec.l3end ends, in the zone. -/
namespace Go.Proofs.YtaoodcielfabdaaGreat
open Go.RowKit
set_option linter.unusedVariables false
set_option maxRecDepth 100000


def lenAt (w : World) (xb : Nat) : Nat := match w.cell? ⟨xb, 0, none⟩ with
  | some (.slice _ n _) => n
  | _ => 0
theorem XQ.drewN {w w' : World} {B N xb k : Nat} (h : XQ w B N xb k w') (q : Nat) : XQ w B N xb k (w'.drewN q) := ⟨h.1, h.2.1.drewN q, h.2.2⟩
set_option maxHeartbeats 12800000 in
theorem l3end_any (w : World) (B N xb k og c : Nat) (m : Int) (ov : Bool) (v : Value) (l : List Int) (hZ : Zone w B N) (hB : B ≤ w.heap.size) (hX : XB w B N xb k og c m ov) (hxb : B ≤ xb) (hv : ZSl w B N 5 1 v) (hN : N ≤ 800000000) :
    Calls Tryz.prog 153 #[.pointer (some ⟨xb, 0, none⟩), v] w fun e w' => (∃ v, e = .returned v) ∧ ∃ k', XQ w B (N + 25) xb k' w' := by
  have hk20 := hX.2.2.2.2.2.1
  obtain ⟨va, vn, vc, rfl, _⟩ := id hv
  have y0 : w.cell? ⟨xb, 0, none⟩ = some (.slice (some ⟨og, 0, none⟩) (k + 1) c) := hX.1.cell 0
  have HX := hide hX
  clear hX
  go_enter Tryz.func153, Tryz.ntmps153
  go_wp2_with fail
  go_loopw [4] (fun i wr => ∃ j : Nat, j ≤ k ∧ i = .int .i64 (j : Int) ∧ Zone wr B N ∧ Zs B [] w wr) (fun i _ => (intOf i).toNat)
  case atStart => exact ⟨k, Nat.le_refl _, rfl, hZ, Zs.refl _ _ _⟩
  case round =>
    clear y0 hZ
    obtain ⟨j, hj, rfl, hZr, hsr⟩ := hrel
    have hXr := (unhide HX).zs hsr (Nat.le_refl _)
    have HQ0 := hide (show XQ w B (N + 0) xb k wr from ⟨hZr, hsr.any, og, c, m, ov, hXr⟩)
    have y0 : wr.cell? ⟨xb, 0, none⟩ = some (.slice (some ⟨og, 0, none⟩) (k + 1) c) := hXr.1.cell 0
    obtain ⟨u0, u1, u2, u3, u4, e0, e1, e2, e3, e4, hn, _⟩ := hZr.five hXr.2.2.2.2.1 hXr.2.1 j (by have := hXr.2.2.1; omega)
    obtain ⟨kd, a1, n1, c1, a2, n2, c2, a3, n3, c3, a4, n4, c4, rfl, rfl, rfl, rfl, rfl⟩ := hn.shape
    obtain ⟨l1, hb1, _⟩ := hZr.byt hn.2.1 (by omega)
    obtain ⟨l2, hb2, _⟩ := hZr.byt (ZSl.step (q := 0) hv hsr (Nat.le_refl _)) (by omega)
    have cx := fun q => conv_any (wr.drewN q) _ l1 (hb1.keep (below_drewN (Below.refl _ _) q))
    have cy := fun q => conv_any (wr.drewN q) _ l2 (hb2.keep (below_drewN (Below.refl _ _) q))
    generalize str l1 = s1 at *
    generalize str l2 = s2 at *
    have hjk : (j : Int) < (k : Int) + 1 := by omega
    clear e0 e2 e3 e4 hn hb1 hb2 hXr
    by_cases hj0 : 0 < j
    · have hd : decide ((0 : Int) < (j : Int)) = true := by simp; omega
      have hjn : (0 : Int) ≤ (j : Int) := by omega
      cases hs : (s1.toList == s2.toList) with
      | true =>
        clear hZr hsr
        go_wp2_with fail

        go_quiet (fail)
        go_wp2_with fail
        have HQ := HQ0
        clear HQ0 y0 e1 cx cy
        go_loopw [] (fun wr => ∃ k2 t, t + k2 = k ∧ XQ w B (N + t) xb k2 wr) (fun wr => lenAt wr xb)
        case atStart => exact ⟨k, 0, by omega, XQ.drewN (unhide HQ) _⟩
        case round =>
          clear HQ
          obtain ⟨k2, t, ht, hq⟩ := hrel
          have HQ := hide hq
          obtain ⟨hz2, hs2, og2, c2, m2, ov2, hX2⟩ := hq
          have y0 : wr.cell? ⟨xb, 0, none⟩ = some (.slice (some ⟨og2, 0, none⟩) (k2 + 1) c2) := hX2.1.cell 0
          have hln : lenAt wr xb = k2 + 1 := by simp [lenAt, y0]
          have hk20 := hX2.2.2.2.2.2.1
          have hBr : B ≤ wr.heap.size := Nat.le_trans hB hs2.size
          have hj0' : (0 : Int) < (j : Int) := by omega
          by_cases hjk : j < k2 + 1
          · have hjk' : (j : Int) < (k2 : Int) + 1 := by omega
            obtain ⟨k3, rfl⟩ : ∃ k3, k2 = k3 + 1 := ⟨k2 - 1, by omega⟩
            have HC := hide (l3close_any wr B (N + t) xb k3 og2 c2 m2 ov2 hz2 hBr hX2 hxb (by omega))
            clear hX2 hz2 hs2
            go_wp2_with fail
            refine (unhide HC).mono ?_
            rintro e w9 ⟨⟨v9, rfl⟩, hq9⟩
            clear HC
            have hl9 : lenAt w9 xb = k3 + 1 := by obtain ⟨_, _, _, _, _, _, l9, _⟩ := hq9; have h := l9.cell 0; simp at h; simp [lenAt, h]
            have HQ9 := hide (hq9.after (unhide HQ))
            clear hq9 y0
            go_wp2_with fail
            go_roundw
            case rel => exact ⟨k3, t + 1, by omega, unhide HQ9⟩
            case measure => rw [hln, hl9]; omega
          · have hjk' : ¬ (j : Int) < (k2 : Int) + 1 := by omega
            have HE := hide (show ∃ k', XQ w B (N + 25) xb k' wr from ⟨k2, (unhide HQ).mono (by omega)⟩)
            clear hX2 hz2 hs2
            go_wp2_with fail
            go_end0
            exact ⟨⟨_, rfl⟩, unhide HE⟩
      | false =>
        go_wp2_with fail
        go_quiet (fail)
        go_wp2_with fail
        go_roundw
        case rel => exact ⟨j - 1, by omega, by go_num, hZr, hsr.drewN _⟩
        case measure => simp [intOf]; omega
    · have hd : decide ((0 : Int) < (j : Int)) = false := by simp; omega
      clear hZr hsr
      go_wp2_with fail
      go_quiet (fail)
      go_wp2_with fail
      have HQ := HQ0
      clear HQ0 y0 e1 cx cy
      go_loopw [] (fun wr => ∃ k2 t, t + k2 = k ∧ XQ w B (N + t) xb k2 wr) (fun wr => lenAt wr xb)
      case atStart => exact ⟨k, 0, by omega, XQ.drewN (unhide HQ) _⟩
      case round =>
        clear HQ
        obtain ⟨k2, t, ht, hq⟩ := hrel
        have HQ := hide hq
        obtain ⟨hz2, hs2, og2, c2, m2, ov2, hX2⟩ := hq
        have y0 : wr.cell? ⟨xb, 0, none⟩ = some (.slice (some ⟨og2, 0, none⟩) (k2 + 1) c2) := hX2.1.cell 0
        have hln : lenAt wr xb = k2 + 1 := by simp [lenAt, y0]
        have hk20 := hX2.2.2.2.2.2.1
        have hBr : B ≤ wr.heap.size := Nat.le_trans hB hs2.size
        have hj0' : ¬ (0 : Int) < (j : Int) := by omega
        have HE := hide (show ∃ k', XQ w B (N + 25) xb k' wr from ⟨k2, (unhide HQ).mono (by omega)⟩)
        clear hX2 hz2 hs2
        go_wp2_with fail
        go_end0
        exact ⟨⟨_, rfl⟩, unhide HE⟩
end Go.Proofs.YtaoodcielfabdaaGreat

/- spec.l3tag ends, in the zone. -/
namespace Go.Proofs.YtaoodcielfabdaaGreat
open Go.RowKit
set_option linter.unusedVariables false
set_option maxRecDepth 100000


set_option maxHeartbeats 25600000 in
theorem l3tag_any (w : World) (B N xb k og c : Nat) (m : Int) (ov : Bool) (v : Value) (l : List Int) (i : Nat) (hZ : Zone w B N) (hB : B ≤ w.heap.size) (hR : RB B v l w) (hi : i + 1 < l.length) (hl : l.length ≤ 1500) (hX : XB w B N xb k og c m ov) (hxb : B ≤ xb) (hN1 : 2000 ≤ N) (hN : N ≤ 700000000) :
    Calls Tryz.prog 118 #[.pointer (some ⟨xb, 0, none⟩), v, .int .i64 (i : Int)] w fun e w' => ∃ i' : Nat, e = .returned (.int .i64 (i' : Int)) ∧ i < i' ∧ i' ≤ l.length ∧ ∃ k', XQ w B (N + 25) xb k' w' := by
  have hbr0 := hR.byt
  obtain ⟨vb, vo, vc, e5, cl0, hx00, hx01⟩ := hbr0.cellAt (i + 1) hi
  subst e5
  generalize l.getD (i + 1) 0 = x0 at cl0 hx00 hx01
  have hi0 : (0 : Int) ≤ (i : Int) + 1 := by omega
  have hi1' : (i : Int) + 1 < (l.length : Int) := by omega
  clear hbr0
  by_cases h47 : x0 = 47
  · subst h47
    go_enter Tryz.func118, Tryz.ntmps118
    obtain ⟨hA, hAs⟩ := hZ.alloc (cs := #[.int .i64 0, .slice none 0 0, .slice none 0 0, .slice none 0 0, .slice none 0 0]) (T := 26) hB (fun _ => (ZN.zero w B N).at)
    have hbx := ZB.made w #[.int .i64 0, .slice none 0 0, .slice none 0 0, .slice none 0 0, .slice none 0 0] 26
    have HN := hide (l3name_any _ B N _ l (i + 2) hA (by simp; omega) (hR.zs hAs) (by omega) hl hN1 (by omega))
    have LL := hide (And.intro hAs hbx)
    clear hA hAs hbx
    go_wp2_with fail
    refine (unhide HN).mono ?_
    rintro e w3 ⟨na, nn, nc, i1, rfl, hn3, hi1, hi2, _, hZ3, hs3⟩
    clear HN
    obtain ⟨hAs, hbx⟩ := unhide LL
    clear LL
    have hp9 : B ≤ w.heap.size := hB
    have hb3 : ZB w3 w.heap.size 26 5 := hs3.zb _ _ _ (.inr (.inr rfl)) hbx
    obtain ⟨_, _, _, _, _, _, c91, _, _, _, _, _, g91, _, _, _⟩ := hZ3.five hb3 hp9 0 (by decide)
    obtain ⟨hZ9, hz9⟩ := hZ3.set (i := 1) (v := .slice na nn nc) (.inr (.inr rfl)) hp9 hb3 hn3
    have hb9 := hz9.zb _ _ _ (.inr (.inr rfl)) hb3
    have hs9 := (hAs.trans hs3).trans hz9
    simp only [Nat.zero_mul, Nat.zero_add] at c91 g91
    have LL := hide (And.intro hZ9 (And.intro hb9 hs9))
    clear hZ9 hz9 hb9 hs9 hZ3 hs3 hn3 hb3 hAs hbx
    go_upto_region 7 with fail
    generalize (w3.setCell ⟨w.heap.size, 1, none⟩ (.slice na nn nc)) = w9 at *
    clear c91 g91
    obtain ⟨hZ9, hb9, hs9⟩ := unhide LL
    clear LL
    generalize hpp : w.heap.size = p9 at hb9 hp9 ⊢
    go_loopw [8] (fun p wr => ∃ j : Nat, p = .int .i64 (j : Int) ∧ i < j ∧ j ≤ l.length ∧ Zone wr B N ∧ Zs B [] w9 wr) (fun p _ => l.length - (intOf p).toNat)
    case atStart => exact ⟨i1, rfl, by omega, hi2, hZ9, Zs.refl _ _ _⟩
    case round =>
      clear hZ9
      obtain ⟨j, rfl, hij, hjl, hZr, hsr⟩ := hrel
      have hbr := (hR.zs (hs9.trans hsr)).byt
      by_cases hlt : j < l.length
      · have hlt' : (j : Int) < (l.length : Int) := by omega
        have hj0 : (0 : Int) ≤ (j : Int) := by omega
        obtain ⟨_, _, _, e5, cl, hx0, hx1⟩ := hbr.cellAt j hlt
        cases e5
        have HLB := hide (show letB (l.getD j 0) = letB (l.getD j 0) from rfl)
        generalize hxg : l.getD j 0 = x at cl hx0 hx1
        have HXG := hide hxg
        clear hxg hbr HLB
        by_cases hx62 : x = 62
        · subst hx62
          obtain ⟨u0, u1, u2, u3, u4, y0, y1, y2, y3, y4, hzn, _⟩ := hZr.five (hsr.zb _ _ _ (.inr (.inr rfl)) hb9) hp9 0 (by decide)
          obtain ⟨kd, a1, n1, c1, a2, n2, c2, a3, n3, c3, a4, n4, c4, rfl, rfl, rfl, rfl, rfl⟩ := hzn.shape
          simp only [Nat.zero_mul, Nat.zero_add] at y0 y1 y2 y3 y4
          obtain ⟨nl, hby, _⟩ := hZr.byt hzn.2.1 (by omega)
          have hsw := hs9.trans hsr
          have hXr := hX.zs hsw (Nat.le_refl _)
          have hBr : B ≤ wr.heap.size := Nat.le_trans hB hsw.size
          have HV := hide (nameS_b wr _ nl hby)
          have HF := hide (l3end_any wr B N xb k og c m ov _ [] hZr hBr hXr hxb hzn.2.1 (by omega))
          have HE0 := hide (show XQ w B (N + 25) xb k wr from ⟨hZr.mono (by omega), hsw.any, og, c, m, ov, (hX.zs hsw (Nat.le_refl _)).zs (Zs.refl B [] wr) (by omega)⟩)
          have HSW := hide hsw
          clear hzn hby hXr hZr hsr hsw
          go_wp2_with fail
          refine (unhide HV).mono ?_
          rintro e wr ⟨rfl, rfl⟩
          clear HV
          cases hnb : nameB nl with
          | false =>
            clear hnb
            go_wp2_with fail
            go_ret
            exact ⟨(j + 1), rfl, by omega, by omega, k, unhide HE0⟩
          | true =>
            clear hnb
            go_wp2_with fail
            refine (unhide HF).mono ?_
            rintro e w8 ⟨⟨v8, rfl⟩, k8, hq8⟩
            have HE := hide (show ∃ k', XQ w B (N + 25) xb k' w8 from ⟨k8, (XQ.mono hq8 (by omega)).of (unhide HSW)⟩)
            clear hq8 HF y0 y1 y2 y3 y4
            go_wp2_with fail
            go_ret
            exact ⟨(j + 1), rfl, by omega, by omega, unhide HE⟩
        · have hxb' : (x == 62) = false := by simpa using hx62
          cases hlx : letB x with
          | false =>
            have HE := hide (And.intro hZr hsr)
            clear hZr hsr
            go_wp2_with fail
            refine (l3letter_any _ x hx0 hx1).mono ?_
            rintro e wr ⟨rfl, rfl⟩
            rw [hlx]
            clear hlx
            go_wp2_with fail
            go_roundw
            case rel => exact ⟨j + 1, by go_num, by omega, by omega, (unhide HE).1, (unhide HE).2⟩
            case measure => simp [intOf]; omega
          | true =>
            have hsw := hs9.trans hsr
            have hBr : B ≤ wr.heap.size := Nat.le_trans hB hsw.size
            obtain ⟨hAa, hAas⟩ := hZr.alloc (cs := #[.slice none 0 0, .slice none 0 0]) (T := 109) hBr (fun _ => ZA.at (znil wr B N 0) (znil wr B N 0))
            have hba := ZB.made wr #[.slice none 0 0, .slice none 0 0] 109
            have HN := hide (l3attr_any _ B N _ l j hAa (by simp; omega) (hR.zs (hsw.trans hAas)) hjl hl hN1 (by omega))
            have hpx : letB (l.getD j 0) = true := by rw [unhide HXG]; exact hlx
            have LL := hide (And.intro hAas (And.intro hba (And.intro hsr hpx)))
            clear hAa hAas hba hZr hsr hsw hpx
            go_wp2_with fail
            refine (l3letter_any _ x hx0 hx1).mono ?_
            rintro e wr ⟨rfl, rfl⟩
            rw [hlx]
            clear hlx
            go_wp2_with fail
            refine (unhide HN).mono ?_
            rintro e w5 ⟨d1, m1, q1, d2, m2, q2, i2, rfl, hv1, hv2, hji, hil, hpg, hZ5, hs5⟩
            clear HN cl
            obtain ⟨hAas, hba, hsr, hpx⟩ := unhide LL
            clear LL
            have hj2 : j < i2 := hpg hlt hpx
            have hba5 : ZB w5 wr.heap.size 109 2 := hs5.zb _ _ _ (.inr (.inl rfl)) hba
            have hpa : B ≤ wr.heap.size := hBr
            obtain ⟨_, _, _, _, _, _, e1, e2, _, _, g1, g2⟩ := hZ5.two hba5 hpa
            obtain ⟨hZ6, hz6, t1, t2⟩ := hZ5.put2 hba5 hpa hv1 hv2
            have hs6 := ((hsr.trans hAas).trans hs5).trans hz6
            have LL := hide (And.intro hZ6 (And.intro hs6 (And.intro t1 (And.intro t2 (And.intro (ZSl.step (q := 0) hv1 hz6 (Nat.le_refl _)) (ZSl.step (q := 0) hv2 hz6 (Nat.le_refl _)))))))
            clear hZ6 hz6 hs6 hv1 hv2 hZ5 hs5 hba hba5 hAas hsr hpx hpg t1 t2
            go_upto_region 12 with fail
            generalize ((w5.setCell ⟨wr.heap.size, 0, none⟩ (.slice d1 m1 q1)).setCell ⟨wr.heap.size, 1, none⟩ (.slice d2 m2 q2)) = w6 at *
            obtain ⟨hZ6, hs6, t1, t2, hv1, hv2⟩ := unhide LL
            clear LL e1 e2 g1 g2
            obtain ⟨_, _, _, u3, _, _, _, _, c93, _, ⟨_, _, _, hat, _⟩, _⟩ := hZ6.five (hs6.zb _ _ _ (.inr (.inr rfl)) hb9) hp9 0 (by decide)
            simp only [Nat.zero_mul, Nat.zero_add] at c93
            obtain ⟨ta, tn, tc, rfl, _⟩ := id hat
            have HK := hide (l3keep_any _ B N ta tn tc d1 m1 q1 d2 m2 q2 hZ6 (Nat.le_trans hB (hs9.trans hs6).size) hat hv1 hv2 hN1 (by omega))
            have T6 := hide hs6
            clear hZ6 hs6 hat hv1 hv2
            go_wp2_with fail
            refine (unhide HK).mono ?_
            rintro e w7 ⟨ka, kn, kc, rfl, hk, hZ7, hs7⟩
            clear HK c93 t1 t2
            have hs67 := (unhide T6).trans hs7
            have hb97 := hs67.zb _ _ _ (.inr (.inr rfl)) hb9
            obtain ⟨_, _, _, _, _, _, _, _, c93, _, _, _, _, _, g93, _⟩ := hZ7.five hb97 hp9 0 (by decide)
            simp only [Nat.zero_mul, Nat.zero_add] at c93 g93
            obtain ⟨hZ8, hz8⟩ := hZ7.set (i := 3) (v := .slice ka kn kc) (.inr (.inr rfl)) hp9 hb97 hk
            have HE := hide (And.intro hZ8 (hs67.trans hz8))
            clear hZ8 hz8 hs67 hb97 hk hZ7 hs7
            go_wp2_with fail
            go_roundw
            case rel => exact ⟨i2, rfl, by omega, hil, (unhide HE).1, (unhide HE).2⟩
            case measure => simp [intOf]; omega
      · have hlt' : ¬ (j : Int) < (l.length : Int) := by omega
        clear hbr
        obtain ⟨u0, u1, u2, u3, u4, y0, y1, y2, y3, y4, hzn, _⟩ := hZr.five (hsr.zb _ _ _ (.inr (.inr rfl)) hb9) hp9 0 (by decide)
        obtain ⟨kd, a1, n1, c1, a2, n2, c2, a3, n3, c3, a4, n4, c4, rfl, rfl, rfl, rfl, rfl⟩ := hzn.shape
        simp only [Nat.zero_mul, Nat.zero_add] at y0 y1 y2 y3 y4
        obtain ⟨nl, hby, _⟩ := hZr.byt hzn.2.1 (by omega)
        have hsw := hs9.trans hsr
        have hXr := hX.zs hsw (Nat.le_refl _)
        have hBr : B ≤ wr.heap.size := Nat.le_trans hB hsw.size
        have HV := hide (nameS_b wr _ nl hby)
        have HF := hide (l3end_any wr B N xb k og c m ov _ [] hZr hBr hXr hxb hzn.2.1 (by omega))
        have HE0 := hide (show XQ w B (N + 25) xb k wr from ⟨hZr.mono (by omega), hsw.any, og, c, m, ov, (hX.zs hsw (Nat.le_refl _)).zs (Zs.refl B [] wr) (by omega)⟩)
        have HSW := hide hsw
        clear hzn hby hXr hZr hsr hsw
        go_wp2_with fail
        refine (unhide HV).mono ?_
        rintro e wr ⟨rfl, rfl⟩
        clear HV
        cases hnb : nameB nl with
        | false =>
          clear hnb
          go_wp2_with fail
          go_ret
          exact ⟨j, rfl, by omega, by omega, k, unhide HE0⟩
        | true =>
          clear hnb
          go_wp2_with fail
          refine (unhide HF).mono ?_
          rintro e w8 ⟨⟨v8, rfl⟩, k8, hq8⟩
          have HE := hide (show ∃ k', XQ w B (N + 25) xb k' w8 from ⟨k8, (XQ.mono hq8 (by omega)).of (unhide HSW)⟩)
          clear hq8 HF y0 y1 y2 y3 y4
          go_wp2_with fail
          go_ret
          exact ⟨j, rfl, by omega, by omega, unhide HE⟩
  · have h47b : (x0 == 47) = false := by simpa using h47
    go_enter Tryz.func118, Tryz.ntmps118
    obtain ⟨hA, hAs⟩ := hZ.alloc (cs := #[.int .i64 0, .slice none 0 0, .slice none 0 0, .slice none 0 0, .slice none 0 0]) (T := 26) hB (fun _ => (ZN.zero w B N).at)
    have hbx := ZB.made w #[.int .i64 0, .slice none 0 0, .slice none 0 0, .slice none 0 0, .slice none 0 0] 26
    have HN := hide (l3name_any _ B N _ l (i + 1) hA (by simp; omega) (hR.zs hAs) (by omega) hl hN1 (by omega))
    have LL := hide (And.intro hAs hbx)
    clear hA hAs hbx
    go_wp2_with fail
    refine (unhide HN).mono ?_
    rintro e w3 ⟨na, nn, nc, i1, rfl, hn3, hi1, hi2, _, hZ3, hs3⟩
    clear HN
    obtain ⟨hAs, hbx⟩ := unhide LL
    clear LL
    have hp9 : B ≤ w.heap.size := hB
    have hb3 : ZB w3 w.heap.size 26 5 := hs3.zb _ _ _ (.inr (.inr rfl)) hbx
    obtain ⟨_, _, _, _, _, _, c91, _, _, _, _, _, g91, _, _, _⟩ := hZ3.five hb3 hp9 0 (by decide)
    obtain ⟨hZ9, hz9⟩ := hZ3.set (i := 1) (v := .slice na nn nc) (.inr (.inr rfl)) hp9 hb3 hn3
    have hb9 := hz9.zb _ _ _ (.inr (.inr rfl)) hb3
    have hs9 := (hAs.trans hs3).trans hz9
    simp only [Nat.zero_mul, Nat.zero_add] at c91 g91
    have LL := hide (And.intro hZ9 (And.intro hb9 hs9))
    clear hZ9 hz9 hb9 hs9 hZ3 hs3 hn3 hb3 hAs hbx
    go_upto_region 7 with fail
    generalize (w3.setCell ⟨w.heap.size, 1, none⟩ (.slice na nn nc)) = w9 at *
    clear c91 g91
    obtain ⟨hZ9, hb9, hs9⟩ := unhide LL
    clear LL
    generalize hpp : w.heap.size = p9 at hb9 hp9 ⊢
    go_loopw [8] (fun p wr => ∃ j : Nat, p = .int .i64 (j : Int) ∧ i < j ∧ j ≤ l.length ∧ Zone wr B N ∧ Zs B [] w9 wr) (fun p _ => l.length - (intOf p).toNat)
    case atStart => exact ⟨i1, rfl, by omega, hi2, hZ9, Zs.refl _ _ _⟩
    case round =>
      clear hZ9
      obtain ⟨j, rfl, hij, hjl, hZr, hsr⟩ := hrel
      have hbr := (hR.zs (hs9.trans hsr)).byt
      by_cases hlt : j < l.length
      · have hlt' : (j : Int) < (l.length : Int) := by omega
        have hj0 : (0 : Int) ≤ (j : Int) := by omega
        obtain ⟨_, _, _, e5, cl, hx0, hx1⟩ := hbr.cellAt j hlt
        cases e5
        have HLB := hide (show letB (l.getD j 0) = letB (l.getD j 0) from rfl)
        generalize hxg : l.getD j 0 = x at cl hx0 hx1
        have HXG := hide hxg
        clear hxg hbr HLB
        by_cases hx62 : x = 62
        · subst hx62
          obtain ⟨u0, u1, u2, u3, u4, y0, y1, y2, y3, y4, hzn, _⟩ := hZr.five (hsr.zb _ _ _ (.inr (.inr rfl)) hb9) hp9 0 (by decide)
          obtain ⟨kd, a1, n1, c1, a2, n2, c2, a3, n3, c3, a4, n4, c4, rfl, rfl, rfl, rfl, rfl⟩ := hzn.shape
          simp only [Nat.zero_mul, Nat.zero_add] at y0 y1 y2 y3 y4
          obtain ⟨nl, hby, _⟩ := hZr.byt hzn.2.1 (by omega)
          have hsw := hs9.trans hsr
          have hXr := hX.zs hsw (Nat.le_refl _)
          have hBr : B ≤ wr.heap.size := Nat.le_trans hB hsw.size
          have HV := hide (nameS_b wr _ nl hby)
          have HF := hide (l3open_any wr B N xb k og c m ov kd a1 n1 c1 a2 n2 c2 a3 n3 c3 a4 n4 c4 hZr hBr hXr hxb hzn (by omega) (by omega))
          have HE0 := hide (show XQ w B (N + 25) xb k wr from ⟨hZr.mono (by omega), hsw.any, og, c, m, ov, (hX.zs hsw (Nat.le_refl _)).zs (Zs.refl B [] wr) (by omega)⟩)
          have HSW := hide hsw
          clear hzn hby hXr hZr hsr hsw
          go_wp2_with fail
          refine (unhide HV).mono ?_
          rintro e wr ⟨rfl, rfl⟩
          clear HV
          cases hnb : nameB nl with
          | false =>
            clear hnb
            go_wp2_with fail
            go_ret
            exact ⟨(j + 1), rfl, by omega, by omega, k, unhide HE0⟩
          | true =>
            clear hnb
            go_wp2_with fail
            refine (unhide HF).mono ?_
            rintro e w8 ⟨⟨v8, rfl⟩, k8, hq8⟩
            have HE := hide (show ∃ k', XQ w B (N + 25) xb k' w8 from ⟨k8, (XQ.mono hq8 (by omega)).of (unhide HSW)⟩)
            clear hq8 HF y0 y1 y2 y3 y4
            go_wp2_with fail
            go_ret
            exact ⟨(j + 1), rfl, by omega, by omega, unhide HE⟩
        · have hxb' : (x == 62) = false := by simpa using hx62
          cases hlx : letB x with
          | false =>
            have HE := hide (And.intro hZr hsr)
            clear hZr hsr
            go_wp2_with fail
            refine (l3letter_any _ x hx0 hx1).mono ?_
            rintro e wr ⟨rfl, rfl⟩
            rw [hlx]
            clear hlx
            go_wp2_with fail
            go_roundw
            case rel => exact ⟨j + 1, by go_num, by omega, by omega, (unhide HE).1, (unhide HE).2⟩
            case measure => simp [intOf]; omega
          | true =>
            have hsw := hs9.trans hsr
            have hBr : B ≤ wr.heap.size := Nat.le_trans hB hsw.size
            obtain ⟨hAa, hAas⟩ := hZr.alloc (cs := #[.slice none 0 0, .slice none 0 0]) (T := 109) hBr (fun _ => ZA.at (znil wr B N 0) (znil wr B N 0))
            have hba := ZB.made wr #[.slice none 0 0, .slice none 0 0] 109
            have HN := hide (l3attr_any _ B N _ l j hAa (by simp; omega) (hR.zs (hsw.trans hAas)) hjl hl hN1 (by omega))
            have hpx : letB (l.getD j 0) = true := by rw [unhide HXG]; exact hlx
            have LL := hide (And.intro hAas (And.intro hba (And.intro hsr hpx)))
            clear hAa hAas hba hZr hsr hsw hpx
            go_wp2_with fail
            refine (l3letter_any _ x hx0 hx1).mono ?_
            rintro e wr ⟨rfl, rfl⟩
            rw [hlx]
            clear hlx
            go_wp2_with fail
            refine (unhide HN).mono ?_
            rintro e w5 ⟨d1, m1, q1, d2, m2, q2, i2, rfl, hv1, hv2, hji, hil, hpg, hZ5, hs5⟩
            clear HN cl
            obtain ⟨hAas, hba, hsr, hpx⟩ := unhide LL
            clear LL
            have hj2 : j < i2 := hpg hlt hpx
            have hba5 : ZB w5 wr.heap.size 109 2 := hs5.zb _ _ _ (.inr (.inl rfl)) hba
            have hpa : B ≤ wr.heap.size := hBr
            obtain ⟨_, _, _, _, _, _, e1, e2, _, _, g1, g2⟩ := hZ5.two hba5 hpa
            obtain ⟨hZ6, hz6, t1, t2⟩ := hZ5.put2 hba5 hpa hv1 hv2
            have hs6 := ((hsr.trans hAas).trans hs5).trans hz6
            have LL := hide (And.intro hZ6 (And.intro hs6 (And.intro t1 (And.intro t2 (And.intro (ZSl.step (q := 0) hv1 hz6 (Nat.le_refl _)) (ZSl.step (q := 0) hv2 hz6 (Nat.le_refl _)))))))
            clear hZ6 hz6 hs6 hv1 hv2 hZ5 hs5 hba hba5 hAas hsr hpx hpg t1 t2
            go_upto_region 12 with fail
            generalize ((w5.setCell ⟨wr.heap.size, 0, none⟩ (.slice d1 m1 q1)).setCell ⟨wr.heap.size, 1, none⟩ (.slice d2 m2 q2)) = w6 at *
            obtain ⟨hZ6, hs6, t1, t2, hv1, hv2⟩ := unhide LL
            clear LL e1 e2 g1 g2
            obtain ⟨_, _, _, u3, _, _, _, _, c93, _, ⟨_, _, _, hat, _⟩, _⟩ := hZ6.five (hs6.zb _ _ _ (.inr (.inr rfl)) hb9) hp9 0 (by decide)
            simp only [Nat.zero_mul, Nat.zero_add] at c93
            obtain ⟨ta, tn, tc, rfl, _⟩ := id hat
            have HK := hide (l3keep_any _ B N ta tn tc d1 m1 q1 d2 m2 q2 hZ6 (Nat.le_trans hB (hs9.trans hs6).size) hat hv1 hv2 hN1 (by omega))
            have T6 := hide hs6
            clear hZ6 hs6 hat hv1 hv2
            go_wp2_with fail
            refine (unhide HK).mono ?_
            rintro e w7 ⟨ka, kn, kc, rfl, hk, hZ7, hs7⟩
            clear HK c93 t1 t2
            have hs67 := (unhide T6).trans hs7
            have hb97 := hs67.zb _ _ _ (.inr (.inr rfl)) hb9
            obtain ⟨_, _, _, _, _, _, _, _, c93, _, _, _, _, _, g93, _⟩ := hZ7.five hb97 hp9 0 (by decide)
            simp only [Nat.zero_mul, Nat.zero_add] at c93 g93
            obtain ⟨hZ8, hz8⟩ := hZ7.set (i := 3) (v := .slice ka kn kc) (.inr (.inr rfl)) hp9 hb97 hk
            have HE := hide (And.intro hZ8 (hs67.trans hz8))
            clear hZ8 hz8 hs67 hb97 hk hZ7 hs7
            go_wp2_with fail
            go_roundw
            case rel => exact ⟨i2, rfl, by omega, hil, (unhide HE).1, (unhide HE).2⟩
            case measure => simp [intOf]; omega
      · have hlt' : ¬ (j : Int) < (l.length : Int) := by omega
        clear hbr
        obtain ⟨u0, u1, u2, u3, u4, y0, y1, y2, y3, y4, hzn, _⟩ := hZr.five (hsr.zb _ _ _ (.inr (.inr rfl)) hb9) hp9 0 (by decide)
        obtain ⟨kd, a1, n1, c1, a2, n2, c2, a3, n3, c3, a4, n4, c4, rfl, rfl, rfl, rfl, rfl⟩ := hzn.shape
        simp only [Nat.zero_mul, Nat.zero_add] at y0 y1 y2 y3 y4
        obtain ⟨nl, hby, _⟩ := hZr.byt hzn.2.1 (by omega)
        have hsw := hs9.trans hsr
        have hXr := hX.zs hsw (Nat.le_refl _)
        have hBr : B ≤ wr.heap.size := Nat.le_trans hB hsw.size
        have HV := hide (nameS_b wr _ nl hby)
        have HF := hide (l3open_any wr B N xb k og c m ov kd a1 n1 c1 a2 n2 c2 a3 n3 c3 a4 n4 c4 hZr hBr hXr hxb hzn (by omega) (by omega))
        have HE0 := hide (show XQ w B (N + 25) xb k wr from ⟨hZr.mono (by omega), hsw.any, og, c, m, ov, (hX.zs hsw (Nat.le_refl _)).zs (Zs.refl B [] wr) (by omega)⟩)
        have HSW := hide hsw
        clear hzn hby hXr hZr hsr hsw
        go_wp2_with fail
        refine (unhide HV).mono ?_
        rintro e wr ⟨rfl, rfl⟩
        clear HV
        cases hnb : nameB nl with
        | false =>
          clear hnb
          go_wp2_with fail
          go_ret
          exact ⟨j, rfl, by omega, by omega, k, unhide HE0⟩
        | true =>
          clear hnb
          go_wp2_with fail
          refine (unhide HF).mono ?_
          rintro e w8 ⟨⟨v8, rfl⟩, k8, hq8⟩
          have HE := hide (show ∃ k', XQ w B (N + 25) xb k' w8 from ⟨k8, (XQ.mono hq8 (by omega)).of (unhide HSW)⟩)
          clear hq8 HF y0 y1 y2 y3 y4
          go_wp2_with fail
          go_ret
          exact ⟨j, rfl, by omega, by omega, unhide HE⟩
end Go.Proofs.YtaoodcielfabdaaGreat

/- spec.Build ends, and writes nothing that was there. -/
namespace Go.Proofs.YtaoodcielfabdaaGreat
open Go.RowKit
set_option linter.unusedVariables false
set_option maxRecDepth 100000

theorem Zone.marked {w : World} {B N : Nat} {cs : Array Value} (h : Zone w B N) (hB : B ≤ w.heap.size) (hv : ∀ i v, cs[i]? = some v → ZV w B N (kindAt 5 i) v) :
    Zone (w.alloc (.cells cs 5 (cs.size, cs.size + 1))) B N ∧ Zs B [] w (w.alloc (.cells cs 5 (cs.size, cs.size + 1))) :=
  h.new hB (heap_alloc_new w _) ((Below.refl _ _).alloc (Nat.le_refl _) _) (by simp) (fun hT => ⟨fun j hj hk => by simp at hk; omega, hv⟩)
def BdR (v : Value) : Prop := ∃ kd a1 n1 c1 a2 n2 c2 a3 n3 c3 a4 n4 c4 ok, v = .tuple #[.agg #[.int .i64 kd, .slice a1 n1 c1, .slice a2 n2 c2, .slice a3 n3 c3, .slice a4 n4 c4], .bool ok]
set_option maxHeartbeats 25600000 in
theorem build_any (w : World) (v : Value) (l : List Int) (hv : Byt w v l) :
    Calls Tryz.prog 72 #[v] w fun e w' => ∃ v, e = .returned v ∧ BdR v ∧ Below w.heap.size w w' := by
  obtain ⟨va, vc, hve, hvc, hvm⟩ := hv.shape
  have hR0 : RB w.heap.size v l w := ⟨w, rfl, hv, Below.refl _ _⟩
  subst hve
  have hm := hv.2.1
  unfold maxLen at hm
  clear hv
  by_cases hlen : 1500 < l.length
  · have hlen' : (1500 : Int) < (l.length : Int) := by omega
    have hb1 := Loc.made w #[.int .i64 0, .slice none 0 0, .slice none 0 0, .slice none 0 0, .slice none 0 0] 26
    have hB1 : Below w.heap.size w (w.alloc (.cells #[.int .i64 0, .slice none 0 0, .slice none 0 0, .slice none 0 0, .slice none 0 0] 26)) := (Below.refl _ _).alloc (Nat.le_refl _) _
    have HB := hide hB1
    clear hB1
    obtain ⟨y0, y1, y2, y3, y4⟩ := five' hb1
    have g0 := hb1.frozen 0
    have g1 := hb1.frozen 1
    have g2 := hb1.frozen 2
    have g3 := hb1.frozen 3
    have g4 := hb1.frozen 4
    clear hlen
    go_enter Tryz.func72, Tryz.ntmps72
    go_wp2_with fail
    exact bodyPost_ret (v := .tuple #[.agg #[.int .i64 0, .slice none 0 0, .slice none 0 0, .slice none 0 0, .slice none 0 0], .bool false]) (by simp [results, Tryz.results72, go_sem, y0, y1, y2, y3, y4]) rfl ⟨_, rfl, ⟨_, _, _, _, _, _, _, _, _, _, _, _, _, _, rfl⟩, unhide HB⟩
  · have hlen' : ¬ (1500 : Int) < (l.length : Int) := by omega
    have hl : l.length ≤ 1500 := by omega
    have kc := Lib.run_convert_bytes_const (P := Tryz.prog) (w.alloc (.cells #[.int .i64 0, .slice none 0 0, .slice none 0 0, .slice none 0 0, .slice none 0 0] 26)) 22 5 #[.int .u8 98, .int .u8 111, .int .u8 100, .int .u8 121] 4 4 Tryz.underlying22 Tryz.underlying5
    simp only [World.size_alloc] at kc
    obtain ⟨hZ1, hs1⟩ := (Zone.start w 2000).alloc (cs := #[.int .i64 0, .slice none 0 0, .slice none 0 0, .slice none 0 0, .slice none 0 0]) (T := 26) (Nat.le_refl _) (fun _ => (ZN.zero w w.heap.size 2000).at)
    have hb1 := ZB.made w #[.int .i64 0, .slice none 0 0, .slice none 0 0, .slice none 0 0, .slice none 0 0] 26
    obtain ⟨hZ2, hs2⟩ := hZ1.marked (cs := #[.int .u8 98, .int .u8 111, .int .u8 100, .int .u8 121]) (by simp) (fun i v hv => by
      match i, hv with
      | 0, hv => simp at hv; subst hv; exact ⟨98, rfl, by decide, by decide⟩
      | 1, hv => simp at hv; subst hv; exact ⟨111, rfl, by decide, by decide⟩
      | 2, hv => simp at hv; subst hv; exact ⟨100, rfl, by decide, by decide⟩
      | 3, hv => simp at hv; subst hv; exact ⟨121, rfl, by decide, by decide⟩)
    have hb2 : ZB ((w.alloc (.cells #[.int .i64 0, .slice none 0 0, .slice none 0 0, .slice none 0 0, .slice none 0 0] 26)).alloc (.cells #[.int .u8 98, .int .u8 111, .int .u8 100, .int .u8 121] 5 (4, 5))) (w.heap.size + 1) 5 4 := ⟨#[.int .u8 98, .int .u8 111, .int .u8 100, .int .u8 121], (4, 5), by have := heap_alloc_new (w.alloc (.cells #[.int .i64 0, .slice none 0 0, .slice none 0 0, .slice none 0 0, .slice none 0 0] 26)) (.cells #[.int .u8 98, .int .u8 111, .int .u8 100, .int .u8 121] 5 (4, 5)); simpa using this, rfl⟩
    obtain ⟨hZ3, hs3⟩ := hZ2.alloc (cs := #[.int .i64 0, .slice (some ⟨w.heap.size + 1, 0, none⟩) 4 4, .slice none 0 0, .slice none 0 0, .slice none 0 0]) (T := 26) (by simp; omega) (fun _ => ZN.at (u0 := .int .i64 0) (u1 := .slice (some ⟨w.heap.size + 1, 0, none⟩) 4 4) (u2 := .slice none 0 0) (u3 := .slice none 0 0) (u4 := .slice none 0 0) ⟨⟨0, rfl⟩, ⟨_, 4, 4, rfl, by decide, by decide, by decide, .inr ⟨_, rfl, by omega, hb2⟩⟩, znil _ _ _ 0, znil _ _ _ 1, znil _ _ _ 2⟩)
    have hb3 := ZB.made ((w.alloc (.cells #[.int .i64 0, .slice none 0 0, .slice none 0 0, .slice none 0 0, .slice none 0 0] 26)).alloc (.cells #[.int .u8 98, .int .u8 111, .int .u8 100, .int .u8 121] 5 (4, 5))) #[.int .i64 0, .slice (some ⟨w.heap.size + 1, 0, none⟩) 4 4, .slice none 0 0, .slice none 0 0, .slice none 0 0] 26
    obtain ⟨hZ4, hs4⟩ := hZ3.alloc (cs := #[.slice (some ⟨w.heap.size + 1 + 1, 0, none⟩) 1 1, .int .i64 1, .bool false]) (T := 134) (by simp; omega) (fun h => absurd h notZ)
    have hb4 := Loc.made (((w.alloc (.cells #[.int .i64 0, .slice none 0 0, .slice none 0 0, .slice none 0 0, .slice none 0 0] 26)).alloc (.cells #[.int .u8 98, .int .u8 111, .int .u8 100, .int .u8 121] 5 (4, 5))).alloc (.cells #[.int .i64 0, .slice (some ⟨w.heap.size + 1, 0, none⟩) 4 4, .slice none 0 0, .slice none 0 0, .slice none 0 0] 26)) #[.slice (some ⟨w.heap.size + 1 + 1, 0, none⟩) 1 1, .int .i64 1, .bool false] 134
    have hsw := ((hs1.trans hs2).trans hs3).trans hs4
    have hb3' := hs4.zb _ _ _ (.inr (.inr rfl)) hb3
    have hb1' := ((hs2.trans hs3).trans hs4).zb _ _ _ (.inr (.inr rfl)) hb1
    simp only [World.size_alloc] at hb4 hb3'
    have LL := hide (And.intro hZ4 (And.intro hsw (And.intro hb1' (And.intro hb3' hb4))))
    clear hZ1 hs1 hb1 hZ2 hs2 hb2 hZ3 hs3 hb3 hZ4 hs4 hb4 hsw hb3' hb1'
    go_enter Tryz.func72, Tryz.ntmps72
    go_upto_region 4 with fail
    clear kc
    generalize ((((w.alloc (.cells #[.int .i64 0, .slice none 0 0, .slice none 0 0, .slice none 0 0, .slice none 0 0] 26)).alloc (.cells #[.int .u8 98, .int .u8 111, .int .u8 100, .int .u8 121] 5 (4, 5))).alloc (.cells #[.int .i64 0, .slice (some ⟨w.heap.size + 1, 0, none⟩) 4 4, .slice none 0 0, .slice none 0 0, .slice none 0 0] 26)).alloc (.cells #[.slice (some ⟨w.heap.size + 1 + 1, 0, none⟩) 1 1, .int .i64 1, .bool false] 134)) = w4 at *
    obtain ⟨hZ4, hsw, hb1, hb3, hb4⟩ := unhide LL
    clear LL hlen hlen'
    have hX4 : XB w4 w.heap.size 2000 (w.heap.size + 1 + 1 + 1) 0 (w.heap.size + 1 + 1) 1 1 false := ⟨hb4, by omega, by decide, by decide, hb3, by decide, by decide, by decide⟩
    have hxb : w.heap.size ≤ w.heap.size + 1 + 1 + 1 := by omega
    have hpB : w.heap.size ≤ w.heap.size := Nat.le_refl _
    clear hb3 hb4
    have hBw : w.heap.size ≤ w4.heap.size := hsw.size
    generalize hxe : w.heap.size + 1 + 1 + 1 = xb at *
    generalize w.heap.size + 1 + 1 = og at *
    have hR4 := hR0.zs hsw
    have hbel := hsw.below
    generalize hBe : w.heap.size = B at *
    have HBE := hide hBe
    clear hBe
    have hp : B ≤ B := Nat.le_refl _
    go_wp2_with fail
    go_loopw [5] (fun p wr => ∃ j : Nat, p = .int .i64 (j : Int) ∧ j ≤ l.length ∧ ∃ k', XQ w4 B (2000 + 30 * j) xb k' wr) (fun p _ => l.length - (intOf p).toNat)
    case atStart => exact ⟨0, rfl, Nat.zero_le _, 0, hZ4, Zs.refl _ _ _, _, _, _, _, hX4⟩
    case round =>
      clear hZ4 hX4
      obtain ⟨j, rfl, hjl, k', hq⟩ := hrel
      have HQ := hide hq
      obtain ⟨hZr, hsr, og', c', m', ov', hXr⟩ := hq
      have y2 : wr.cell? ⟨xb, 2, none⟩ = some (.bool ov') := hXr.1.cell 2
      have hBr : B ≤ wr.heap.size := Nat.le_trans hBw hsr.size
      have hRr := hR4.zs hsr
      have hbr := hRr.byt
      have hjz : (0 : Int) ≤ (j : Int) := by omega
      go_upto_region 5 with fail
      go_cut [28] from 18 to 28 (fun t wx => ∃ bb : Bool, t = .bool bb ∧ (bb = true → j < l.length) ∧ wx = wr)
      case first =>
        by_cases hlt : j < l.length
        · have hlt' : (j : Int) < (l.length : Int) := by omega
          clear hjl
          cases ov' with
          | true =>
            go_wp2_with fail
            go_meet
            exact ⟨_, rfl, (fun _ => hlt), rfl⟩
          | false =>
            go_wp2_with fail
            go_meet
            exact ⟨_, rfl, (fun _ => hlt), rfl⟩
        · have hlt' : ¬ (j : Int) < (l.length : Int) := by omega
          clear hlt
          go_wp2_with fail
          go_meet
          exact ⟨false, rfl, (fun h => by cases h), rfl⟩
      case rest =>
      obtain ⟨bb, rfl, hbb, hw⟩ := hcut
      subst wc
      cases bb with
      | false =>
        have HJ := hide hjl
        clear hbb hbr hRr hXr hZr hsr y2 hjl
        go_wp2_with fail
        go_loopw [] (fun wr => ∃ k2 t, t + k2 = k' ∧ XQ w4 B (2000 + 30 * j + t) xb k2 wr) (fun wr => lenAt wr xb)
        case atStart => exact ⟨k', 0, by omega, unhide HQ⟩
        case round =>
          have hk' := (unhide HQ).2.2
          clear HQ hBr
          obtain ⟨k2, t, ht, hq⟩ := hrel
          have HQ := hide hq
          obtain ⟨hz2, hs2, og2, c2, m2, ov2, hX2⟩ := hq
          have y0 : wr.cell? ⟨xb, 0, none⟩ = some (.slice (some ⟨og2, 0, none⟩) (k2 + 1) c2) := hX2.1.cell 0
          have y2 : wr.cell? ⟨xb, 2, none⟩ = some (.bool ov2) := hX2.1.cell 2
          have hln : lenAt wr xb = k2 + 1 := by simp [lenAt, y0]
          obtain ⟨_, _, _, _, hk'⟩ := hk'
          have hk20 := hk'.2.2.2.2.2.1
          clear hk'
          have hBr : B ≤ wr.heap.size := Nat.le_trans hBw hs2.size
          have hj := unhide HJ
          by_cases hk : 0 < k2
          · have hkk : (1 : Int) < (k2 : Int) + 1 := by omega
            obtain ⟨k3, rfl⟩ : ∃ k3, k2 = k3 + 1 := ⟨k2 - 1, by omega⟩
            have HC := hide (l3close_any wr B (2000 + 30 * j + t) xb k3 og2 c2 m2 ov2 hz2 hBr hX2 hxb (by omega))
            clear hX2 hz2 hs2 y2 hj
            go_wp2_with fail
            refine (unhide HC).mono ?_
            rintro e w9 ⟨⟨v9, rfl⟩, hq9⟩
            clear HC
            have hl9 : lenAt w9 xb = k3 + 1 := by obtain ⟨_, _, _, _, _, _, l9, _⟩ := hq9; have h := l9.cell 0; simp at h; simp [lenAt, h]
            have HQ9 := hide (hq9.after (unhide HQ))
            clear hq9 y0
            go_wp2_with fail
            go_roundw
            case rel => exact ⟨k3, t + 1, by omega, unhide HQ9⟩
            case measure => rw [hln, hl9]; omega
          · have hkk : ¬ (1 : Int) < (k2 : Int) + 1 := by omega
            obtain rfl : k2 = 0 := by omega
            have hb12 := hs2.zb _ _ _ (.inr (.inr rfl)) hb1
            obtain ⟨_, _, _, _, _, z0, z1, z2, z3, z4, -, g0, g1, g2, g3, g4⟩ := hz2.five hb12 hp 0 (by decide)
            simp only [Nat.zero_mul, Nat.zero_add] at z0 z1 z2 z3 z4 g0 g1 g2 g3 g4
            cases ov2 with
            | true =>
              obtain ⟨hZ9, hz9⟩ := hz2.put5 hb12 hp 0 (ZN.zero wr B _)
              have hb9 := hz9.zb _ _ _ (.inr (.inr rfl)) hb12
              obtain ⟨_, _, _, _, _, r0, r1, r2, r3, r4, hn9, -⟩ := hZ9.five hb9 hp 0 (by decide)
              simp only [Nat.zero_mul, Nat.zero_add] at r0 r1 r2 r3 r4 hZ9 hz9
              have HE := hide (And.intro (And.intro r0 (And.intro r1 (And.intro r2 (And.intro r3 r4)))) (And.intro hn9 (hbel.trans (hs2.below.trans hz9.below))))
              clear hX2 hz2 hs2 hj hZ9 hz9 hb9 hn9 r0 r1 r2 r3 r4 hb12 HQ hln
              go_wp2_with fail
              obtain ⟨⟨r0, r1, r2, r3, r4⟩, hn9, hb9⟩ := unhide HE
              obtain ⟨kd', a1', n1', c1', a2', n2', c2', a3', n3', c3', a4', n4', c4', rfl, rfl, rfl, rfl, rfl⟩ := hn9.shape
              exact bodyPost_ret (v := .tuple #[.agg #[.int .i64 kd', .slice a1' n1' c1', .slice a2' n2' c2', .slice a3' n3' c3', .slice a4' n4' c4'], .bool false]) (by simp [results, Tryz.results72, go_sem, r0, r1, r2, r3, r4]) rfl ⟨_, rfl, ⟨_, _, _, _, _, _, _, _, _, _, _, _, _, _, rfl⟩, by rw [unhide HBE]; exact hb9⟩
            | false =>
              obtain ⟨u0, u1, u2, u3, u4, e0, e1, e2, e3, e4, hn, _⟩ := hz2.five hX2.2.2.2.2.1 hX2.2.1 0 (by have := hX2.2.2.1; omega)
              simp only [Nat.zero_mul, Nat.zero_add] at e0 e1 e2 e3 e4
              obtain ⟨hZ9, hz9⟩ := hz2.put5 hb12 hp 0 hn
              obtain ⟨kd, a1, n1, c1, a2, n2, c2, a3, n3, c3, a4, n4, c4, rfl, rfl, rfl, rfl, rfl⟩ := hn.shape
              have hb9 := hz9.zb _ _ _ (.inr (.inr rfl)) hb12
              obtain ⟨_, _, _, _, _, r0, r1, r2, r3, r4, hn9, -⟩ := hZ9.five hb9 hp 0 (by decide)
              simp only [Nat.zero_mul, Nat.zero_add] at r0 r1 r2 r3 r4 hZ9 hz9
              have HE := hide (And.intro (And.intro r0 (And.intro r1 (And.intro r2 (And.intro r3 r4)))) (And.intro hn9 (hbel.trans (hs2.below.trans hz9.below))))
              clear hX2 hz2 hs2 hj hZ9 hz9 hb9 hn9 r0 r1 r2 r3 r4 hb12 HQ hln hn
              go_wp2_with fail
              obtain ⟨⟨r0, r1, r2, r3, r4⟩, hn9, hb9⟩ := unhide HE
              obtain ⟨kd', a1', n1', c1', a2', n2', c2', a3', n3', c3', a4', n4', c4', rfl, rfl, rfl, rfl, rfl⟩ := hn9.shape
              exact bodyPost_ret (v := .tuple #[.agg #[.int .i64 kd', .slice a1' n1' c1', .slice a2' n2' c2', .slice a3' n3' c3', .slice a4' n4' c4'], .bool true]) (by simp [results, Tryz.results72, go_sem, r0, r1, r2, r3, r4]) rfl ⟨_, rfl, ⟨_, _, _, _, _, _, _, _, _, _, _, _, _, _, rfl⟩, by rw [unhide HBE]; exact hb9⟩
      | true =>
        have hlt := hbb rfl
        clear hbb
        obtain ⟨_, _, _, e5, cl, hx0, hx1⟩ := hbr.cellAt j hlt
        cases e5
        generalize l.getD j 0 = x at cl hx0 hx1
        have hlt' : (j : Int) < (l.length : Int) := by omega
        clear y2
        go_upto_region 6 with fail
        go_cut [71] from 29 to 71 (fun t wx => ∃ bb : Bool, t = .bool bb ∧ (bb = true → j + 1 < l.length) ∧ wx = wr)
        case first =>
          have HK := hide (And.intro hZr (And.intro hsr (And.intro hXr hRr)))
          clear hZr hsr hXr hRr HQ
          by_cases h60 : x = 60
          · subst h60
            by_cases hlt1 : j + 1 < l.length
            · have hlt1' : (j : Int) + 1 < (l.length : Int) := by omega
              have hjz1 : (0 : Int) ≤ (j : Int) + 1 := by omega
              obtain ⟨_, _, _, e5, cl1, hy0, hy1⟩ := hbr.cellAt (j + 1) hlt1
              cases e5
              generalize l.getD (j + 1) 0 = x1 at cl1 hy0 hy1
              have HL := hide hlt1
              cases hlx : letB x1 with
              | true =>
                clear hlt1 hbr
                go_wp2_with fail
                refine (l3letter_any _ x1 hy0 hy1).mono ?_
                rintro e wr ⟨rfl, rfl⟩
                rw [hlx]
                clear hlx
                go_wp2_with fail
                go_meet
                exact ⟨_, rfl, (fun _ => unhide HL), rfl⟩
              | false =>
                by_cases h47 : x1 = 47
                · subst h47
                  by_cases hlt2 : j + 2 < l.length
                  · have hlt2' : (j : Int) + 2 < (l.length : Int) := by omega
                    have hjz2 : (0 : Int) ≤ (j : Int) + 2 := by omega
                    obtain ⟨_, _, _, e5, cl2, hu0, hu1⟩ := hbr.cellAt (j + 2) hlt2
                    cases e5
                    generalize l.getD (j + 2) 0 = x2 at cl2 hu0 hu1
                    clear hlt1 hlt2 hbr
                    go_wp2_with fail
                    refine (l3letter_any _ 47 hy0 hy1).mono ?_
                    rintro e wr ⟨rfl, rfl⟩
                    rw [hlx]
                    clear hlx
                    go_wp2_with fail
                    refine (l3letter_any _ x2 hu0 hu1).mono ?_
                    rintro e wr ⟨rfl, rfl⟩
                    generalize letB x2 = bz
                    go_wp2_with fail
                    go_meet
                    exact ⟨_, rfl, (fun _ => unhide HL), rfl⟩
                  · have hlt2' : ¬ (j : Int) + 2 < (l.length : Int) := by omega
                    clear hlt1 hlt2 hbr
                    go_wp2_with fail
                    refine (l3letter_any _ 47 hy0 hy1).mono ?_
                    rintro e wr ⟨rfl, rfl⟩
                    rw [hlx]
                    clear hlx
                    go_wp2_with fail
                    go_meet
                    exact ⟨_, rfl, (fun _ => unhide HL), rfl⟩
                · have h47b : (x1 == 47) = false := by simpa using h47
                  clear hlt1 hbr
                  go_wp2_with fail
                  refine (l3letter_any _ x1 hy0 hy1).mono ?_
                  rintro e wr ⟨rfl, rfl⟩
                  rw [hlx]
                  clear hlx
                  go_wp2_with fail
                  go_meet
                  exact ⟨_, rfl, (fun _ => unhide HL), rfl⟩
            · have hlt1' : ¬ (j : Int) + 1 < (l.length : Int) := by omega
              clear hlt1 hbr
              go_wp2_with fail
              go_meet
              exact ⟨false, rfl, (fun h => by cases h), rfl⟩
          · have h60b : (x == 60) = false := by simpa using h60
            clear hbr
            go_wp2_with fail
            go_meet
            exact ⟨false, rfl, (fun h => by cases h), rfl⟩
        case rest =>
        obtain ⟨bb, rfl, hbb, hw⟩ := hcut
        subst wc
        cases bb with
        | true =>
          have hlt1 := hbb rfl
          clear hbb hbr
          have HT := hide (l3tag_any wr B (2000 + 30 * j) xb k' og' c' m' ov' _ l j hZr hBr hRr hlt1 hl hXr hxb (by omega) (by omega))
          clear hZr hsr hXr hRr cl
          go_wp2_with fail
          refine (unhide HT).mono ?_
          rintro e w5 ⟨i5, rfl, hi5, hi5l, k5, hq5⟩
          clear HT
          have HQ5 := hide (show XQ w4 B (2000 + 30 * i5) xb k5 w5 from XQ.mono (XQ.after hq5 (unhide HQ)) (by omega))
          clear hq5 HQ
          go_wp2_with fail
          go_roundw
          case rel => exact ⟨i5, rfl, hi5l, k5, unhide HQ5⟩
          case measure => simp [intOf]; omega
        | false =>
          clear hbb
          have HF := hide (l3ref_any wr B (2000 + 30 * j) _ l j hZr hBr hRr hlt hl)
          have HX := hide hXr
          have HR := hide hRr
          clear hZr hsr hXr cl hRr hbr
          go_wp2_with fail
          refine (unhide HF).mono ?_
          rintro e w5 ⟨c0, n0, rfl, hc0, hc1, hjn, hZ5, hs5⟩
          clear HF
          have hX5 := (unhide HX).zs hs5 (Nat.le_refl _)
          have hq5 : XQ w4 B (2000 + 30 * j) xb k' w5 := XQ.after ⟨hZ5, hs5.any, _, _, _, _, hX5⟩ (unhide HQ)
          have hbr := ((unhide HR).zs hs5).byt
          have hB5 : B ≤ w5.heap.size := Nat.le_trans hBr hs5.size
          obtain ⟨_, _, _, e5, cl, hx0', hx1'⟩ := hbr.cellAt j hlt
          cases e5
          generalize l.getD j 0 = x at cl hx0' hx1'
          clear hbr HX HR HQ hs5
          go_upto_region 9 with fail
          go_upto_if 83 with fail
          go_cut [6, 7] from 84 to 89 (fun p q wx => ∃ (y : Int) (n : Nat), p = .int .u8 y ∧ q = .int .i64 (n : Int) ∧ 0 ≤ y ∧ y ≤ 255 ∧ 0 < n ∧ j + n ≤ l.length ∧ wx = w5)
          case first =>
            have HZ := hide (And.intro hZ5 (And.intro hX5 hq5))
            clear hZ5 hX5 hq5
            by_cases hn0 : n0 = 0
            · subst hn0
              go_wp2_with fail
              refine (l3blank_any _ x hx0' hx1').mono ?_
              rintro e wr ⟨b9, rfl, rfl⟩
              cases b9 with
              | true =>
                go_wp2_with fail
                go_meet
                exact ⟨32, 1, rfl, rfl, by decide, by decide, by decide, by omega, rfl⟩
              | false =>
                go_wp2_with fail
                go_meet
                exact ⟨x, 1, rfl, rfl, hx0', hx1', by decide, by omega, rfl⟩
            · have hn0b : ((n0 : Int) == 0) = false := by simp; omega
              go_wp2_with fail
              go_meet
              exact ⟨c0, n0, rfl, rfl, hc0, hc1, by omega, hjn, rfl⟩
          case rest =>
          obtain ⟨y, n, rfl, rfl, hy0, hy1, hn, hjn', hw⟩ := hcut
          subst wc
          clear cl hjn
          have HQ5 := hide (show XQ w4 B (2000 + 30 * (j + n)) xb k' w5 from XQ.mono hq5 (by omega))
          by_cases h32 : 32 ≤ y
          · by_cases h126 : y ≤ 126
            · have HB := hide (l3byte_any w5 B (2000 + 30 * j) xb k' _ _ _ _ y hy0 hy1 hZ5 hB5 hX5 hxb (by omega) (by omega))
              have HQ6 := hide hq5
              clear hZ5 hX5 hq5 HQ5
              go_wp2_with fail
              refine (unhide HB).mono ?_
              rintro e w6 ⟨⟨v6, rfl⟩, hq6⟩
              clear HB
              have HQ5 := hide (show XQ w4 B (2000 + 30 * (j + n)) xb k' w6 from XQ.mono (XQ.after hq6 (unhide HQ6)) (by omega))
              clear hq6 HQ6
              go_wp2_with fail
              go_roundw
              case rel => exact ⟨j + n, by go_num, hjn', k', unhide HQ5⟩
              case measure => simp [intOf]; omega
            · clear hZ5 hX5 hq5
              go_wp2_with fail
              go_roundw
              case rel => exact ⟨j + n, by go_num, hjn', k', unhide HQ5⟩
              case measure => simp [intOf]; omega
          · clear hZ5 hX5 hq5
            go_wp2_with fail
            go_roundw
            case rel => exact ⟨j + n, by go_num, hjn', k', unhide HQ5⟩
            case measure => simp [intOf]; omega
end Go.Proofs.YtaoodcielfabdaaGreat

/- Rows of elements of a call's own: a cell of one, its blocks apart. No program. -/
namespace Go.Proofs.YtaoodcielfabdaaGreat
open Go.RowKit
set_option linter.unusedVariables false

/-- A cell of a row of elements. -/
theorem own_cellAt {w : World} {base g n cap size : Nat} {e : TypeId} {Cs : List (List Value)} (h : w.ownsRow base e size (.slice (some ⟨g, 0, none⟩) n cap) n Cs.flatten) (hC : ∀ i, i < Cs.length → (Cs.getD i []).length = size) (hl : Cs.length = n) (i j : Nat) (hi : i < n) (hj : j < size) :
    w.cell? ⟨g, i * size + j, none⟩ = (Cs.getD i [])[j]? := by
  have hlt : i * size + j < n * size := by
    have : (i + 1) * size ≤ n * size := Nat.mul_le_mul_right _ hi
    rw [Nat.succ_mul] at this; omega
  rw [h.cellAt (i * size + j) hlt]
  exact flat_at Cs size hC i j (by omega) hj
theorem nodup_at : ∀ {Fs : List (List Nat)} {i : Nat}, Fs.flatten.Nodup → (Fs.getD i []).Nodup
  | [], i, _ => by simp
  | F :: Fs, i, h => by
    rw [List.flatten_cons] at h
    have h2 := List.nodup_append.1 h
    cases i with
    | zero => simpa using h2.1
    | succ i => simpa using nodup_at (i := i) h2.2.1
theorem flat_put (size : Nat) (D : List Value) (hD : D.length = size) (i : Nat) (hi : i < size) (v : Value) : ∀ (Ds : List (List Value)) (j : Nat), (∀ i, i < Ds.length → (Ds.getD i []).length = size) → j < Ds.length → (Ds.set j (D.set i v)).flatten = (Ds.set j D).flatten.set (j * size + i) v
  | [], j, _, hj => by simp at hj
  | C :: Ds, 0, _, _ => by
    simp only [List.set_cons_zero, List.flatten_cons, Nat.zero_mul, Nat.zero_add]
    rw [List.set_append_left _ _ (by omega)]
  | C :: Ds, j + 1, h, hj => by
    have h0 : C.length = size := by simpa using h 0 (by simp)
    have e : (j + 1) * size + i = C.length + (j * size + i) := by rw [h0, Nat.succ_mul]; omega
    rw [List.set_cons_succ, List.set_cons_succ, List.flatten_cons, List.flatten_cons, e, List.set_append_right _ _ (by omega), Nat.add_sub_cancel_left]
    rw [flat_put size D hD i hi v Ds j (fun k hk => by simpa using h (k + 1) (by simpa using hk)) (by simpa using hj)]

/-- A row of elements of the call's own whose j-th is D. -/
structure RowJ (w : World) (T : TypeId) (size g n cap : Nat) (Ds : List (List Value)) (j : Nat) (D : List Value) : Prop where
  lenD : D.length = size
  lenDs : Ds.length = n
  lens : ∀ i, i < Ds.length → (Ds.getD i []).length = size
  lt : j < n
  row : w.ownsRow 0 T size (.slice (some ⟨g, 0, none⟩) n cap) n (Ds.set j D).flatten
theorem getD_set_at {α : Type} (Ds : List (List α)) (j : Nat) (D : List α) (h : j < Ds.length) : (Ds.set j D).getD j [] = D := by
  simp [List.getD_eq_getElem?_getD, h]
theorem getD_set_ne {α : Type} (Ds : List (List α)) (i j : Nat) (D : List α) (h : i ≠ j) : (Ds.set j D).getD i [] = Ds.getD i [] := by
  simp [List.getD_eq_getElem?_getD, Ne.symm h]
theorem RowJ.lens' {w : World} {T : TypeId} {size g n cap : Nat} {Ds : List (List Value)} {j : Nat} {D : List Value} (h : RowJ w T size g n cap Ds j D) : ∀ i, i < (Ds.set j D).length → ((Ds.set j D).getD i []).length = size := fun i hi => by
  by_cases e : i = j
  · subst e; rw [getD_set_at _ _ _ (by rw [h.lenDs]; exact h.lt)]; exact h.lenD
  · rw [getD_set_ne _ _ _ _ e]; exact h.lens i (by simpa using hi)
theorem RowJ.cell {w : World} {T : TypeId} {size g n cap : Nat} {Ds : List (List Value)} {j : Nat} {D : List Value} (h : RowJ w T size g n cap Ds j D) (i : Nat) (hi : i < size) : w.cell? ⟨g, j * size + i, none⟩ = D[i]? := by
  have := own_cellAt h.row h.lens' (by simp [h.lenDs]) j i h.lt hi
  rw [getD_set_at _ _ _ (by rw [h.lenDs]; exact h.lt)] at this
  exact this
theorem RowJ.put {w : World} {T : TypeId} {size g n cap : Nat} {Ds : List (List Value)} {j : Nat} {D : List Value} (h : RowJ w T size g n cap Ds j D) (i : Nat) (hi : i < size) (v : Value) : RowJ (w.setCell ⟨g, j * size + i, none⟩ v) T size g n cap Ds j (D.set i v) :=
  ⟨by rw [List.length_set]; exact h.lenD, h.lenDs, h.lens, h.lt, by
    rw [flat_put size D h.lenD i hi v Ds j h.lens (by rw [h.lenDs]; exact h.lt)]
    exact (h.row.stored (j * size + i) v).1⟩
theorem RowJ.frozen {w : World} {T : TypeId} {size g n cap : Nat} {Ds : List (List Value)} {j : Nat} {D : List Value} (h : RowJ w T size g n cap Ds j D) (i : Nat) : w.frozen? ⟨g, i, none⟩ = false := h.row.frozenAt i
theorem RowJ.frm {w w' : World} {T : TypeId} {size g n cap : Nat} {Ds : List (List Value)} {j : Nat} {D : List Value} {S : List Nat} (h : RowJ w T size g n cap Ds j D) (f : Frm w w' S) (hg : g ∉ S) : RowJ w' T size g n cap Ds j D :=
  ⟨h.lenD, h.lenDs, h.lens, h.lt, ownsRow_frm h.row f (fun p hp => by
    have : p = g := by simpa [FB, Value.ownBlock] using hp
    rw [this]; exact hg)⟩
theorem RowJ.start {w : World} {T : TypeId} {size g n cap : Nat} {Ds : List (List Value)} (hl : Ds.length = n) (h : ∀ i, i < Ds.length → (Ds.getD i []).length = size) (j : Nat) (hj : j < n) (hr : w.ownsRow 0 T size (.slice (some ⟨g, 0, none⟩) n cap) n Ds.flatten) : RowJ w T size g n cap Ds j (Ds.getD j []) :=
  ⟨h j (by omega), hl, h, hj, by
    have e : Ds.set j (Ds.getD j []) = Ds := by
      apply List.ext_getElem?
      intro i
      rw [List.getElem?_set]
      split
      · rename_i e; subst e
        rw [if_pos (by omega), List.getD_eq_getElem?_getD, List.getElem?_eq_getElem (by omega)]; rfl
      · rfl
    rw [e]; exact hr⟩
end Go.Proofs.YtaoodcielfabdaaGreat
