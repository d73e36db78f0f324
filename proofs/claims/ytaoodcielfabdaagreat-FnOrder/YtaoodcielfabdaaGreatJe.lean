/- Own texts joined: L3put, L3byte, L3open. -/
import Derived.Test.YtaoodcielfabdaaGreatJa
import Derived.Test.YtaoodcielfabdaaGreatJb
import Derived.Test.YtaoodcielfabdaaGreatJc
import Derived.Test.YtaoodcielfabdaaGreatJd
import Derived.Deep.Cut

/- spec.l3put ends, in the zone. -/
namespace Go.Proofs.YtaoodcielfabdaaGreat
open Go.RowKit
set_option linter.unusedVariables false
set_option maxRecDepth 100000


def Lp6 (w3 : World) (B N xb k og c pb p2 : Nat) (m : Int) (ka : Option Addr) (kn kc : Nat) (kd : Int) (a1 : Option Addr) (n1 c1 : Nat) (a2 : Option Addr) (n2 c2 : Nat) (a3 : Option Addr) (n3 c3 : Nat) (a4 : Option Addr) (n4 c4 : Nat) (L : Array Bool) (a : Act) (w : World) : Prop :=
  ∀ C : Prop, (∀ (b0 b1 b2 b3 b4 b5 b6 b7 b8 b9 b10 b11 b12 b13 b14 : Bool) (x36 x37 x38 x39 x40 x41 x42 x43 x44 x45 x46 x47 x48 x49 : Value), L = #[b0, b1, b2, b3, b4, b5, b6, b7, b8, b9, b10, b11, b12, b13, b14] → a = { tmps := #[.pointer (some ⟨xb, 0, none⟩), .agg #[.int .i64 kd, .slice a1 n1 c1, .slice a2 n2 c2, .slice a3 n3 c3, .slice a4 n4 c4], undef, .pointer (some ⟨pb, 0, none⟩), .int .i64 (k : Int), .pointer (some ⟨xb, 0, none⟩), .pointer (some ⟨xb, 0, none⟩), .pointer (some ⟨xb, 1, none⟩), .int .i64 m, .int .i64 (m + 1), .pointer (some ⟨xb, 0, none⟩), .pointer (some ⟨xb, 1, none⟩), .pointer (some ⟨xb, 0, none⟩), .pointer (some ⟨xb, 0, none⟩), .pointer (some ⟨xb, 1, none⟩), .int .i64 (m + 1), .bool false, .bool false, .pointer (some ⟨xb, 0, none⟩), .pointer (some ⟨xb, 0, none⟩), .pointer (some ⟨xb, 0, none⟩), .slice (some ⟨og, 0, none⟩) (k + 1) c, .int .i64 ((k : Int) + 1), .bool (decide ((20 : Int) ≤ (k : Int) + 1)), .bool (decide ((20 : Int) ≤ (k : Int) + 1)), undef, undef, undef, .pointer (some ⟨xb, 0, none⟩), .pointer (some ⟨xb, 0, none⟩), .pointer (some ⟨xb, 0, none⟩), .slice (some ⟨og, 0, none⟩) (k + 1) c, .int .i64 ((k : Int) + 1), .int .i64 (k : Int), .pointer (some ⟨p2, 0, none⟩), .bool true, x36, x37, x38, x39, x40, x41, x42, x43, x44, x45, x46, x47, x48, x49, undef, undef, undef, undef, undef, undef, undef, undef, undef, undef, undef, undef, undef, undef, undef, undef, undef, undef, undef], defers := [] } → Zone w B (N + 1) → Zs B [] w3 w → (b11 = false → w.cell? ⟨og, k * 5 + 4, none⟩ = some (.slice ka kn kc)) → (b0 = true → x36 = .pointer (some ⟨xb, 0, none⟩)) → (b1 = true → x37 = .pointer (some ⟨xb, 0, none⟩)) → (b2 = true → x38 = .pointer (some ⟨xb, 0, none⟩)) → (b3 = true → x39 = .slice (some ⟨og, 0, none⟩) (k + 1) c) → (b4 = true → x40 = .int .i64 (k : Int)) → (b5 = true → x41 = .pointer (some ⟨og, k * 5, none⟩)) → (b6 = true → x42 = .pointer (some ⟨og, k * 5 + 4, none⟩)) → (b7 = true → x43 = .slice ka kn kc) → (b8 = true → ∃ kd' a1' n1' c1' a2' n2' c2' a3' n3' c3' a4' n4' c4', x44 = .agg #[.int .i64 kd', .slice a1' n1' c1', .slice a2' n2' c2', .slice a3' n3' c3', .slice a4' n4' c4'] ∧ ZN w B (N + 1) (.int .i64 kd') (.slice a1' n1' c1') (.slice a2' n2' c2') (.slice a3' n3' c3') (.slice a4' n4' c4')) → (b9 = true → x45 = .int .i64 (kn : Int)) → (b10 = true → ∃ z, x46 = .slice (some ⟨z, 0, none⟩) 1 1 ∧ B ≤ z ∧ ZB w z 26 5) → (b11 = true → b7 = true ∧ b10 = true ∧ ∃ a' cap', x47 = .slice a' (kn + 1) cap' ∧ ZSl w B (N + 1) 26 5 (.slice a' (kn + 1) cap')) → (b12 = true → x48 = .pointer (some ⟨og, k * 5, none⟩)) → (b13 = true → x49 = .pointer (some ⟨og, k * 5 + 4, none⟩)) → C) → C
theorem Lp6_cases {i : Nat} (h : i < 15) : i = 0 ∨ i = 1 ∨ i = 2 ∨ i = 3 ∨ i = 4 ∨ i = 5 ∨ i = 6 ∨ i = 7 ∨ i = 8 ∨ i = 9 ∨ i = 10 ∨ i = 11 ∨ i = 12 ∨ i = 13 ∨ i = 14 := by omega
def Lp8 (w3 : World) (B N xb k og c pb p2 : Nat) (m : Int) (ka : Option Addr) (kn kc : Nat) (kd : Int) (a1 : Option Addr) (n1 c1 : Nat) (a2 : Option Addr) (n2 c2 : Nat) (a3 : Option Addr) (n3 c3 : Nat) (a4 : Option Addr) (n4 c4 : Nat) (L : Array Bool) (a : Act) (w : World) : Prop :=
  ∀ C : Prop, (∀ (b0 b1 b2 b3 b4 b5 b6 b7 b8 b9 b10 b11 b12 b13 b14 b15 b16 b17 b18 : Bool) (x51 x52 x53 x54 x55 x56 x57 x58 x59 x60 x61 x62 x63 x64 x65 x66 x67 x68 : Value), L = #[b0, b1, b2, b3, b4, b5, b6, b7, b8, b9, b10, b11, b12, b13, b14, b15, b16, b17, b18] → a = { tmps := #[.pointer (some ⟨xb, 0, none⟩), .agg #[.int .i64 kd, .slice a1 n1 c1, .slice a2 n2 c2, .slice a3 n3 c3, .slice a4 n4 c4], undef, .pointer (some ⟨pb, 0, none⟩), .int .i64 (k : Int), .pointer (some ⟨xb, 0, none⟩), .pointer (some ⟨xb, 0, none⟩), .pointer (some ⟨xb, 1, none⟩), .int .i64 m, .int .i64 (m + 1), .pointer (some ⟨xb, 0, none⟩), .pointer (some ⟨xb, 1, none⟩), .pointer (some ⟨xb, 0, none⟩), .pointer (some ⟨xb, 0, none⟩), .pointer (some ⟨xb, 1, none⟩), .int .i64 (m + 1), .bool false, .bool false, .pointer (some ⟨xb, 0, none⟩), .pointer (some ⟨xb, 0, none⟩), .pointer (some ⟨xb, 0, none⟩), .slice (some ⟨og, 0, none⟩) (k + 1) c, .int .i64 ((k : Int) + 1), .bool (decide ((20 : Int) ≤ (k : Int) + 1)), .bool (decide ((20 : Int) ≤ (k : Int) + 1)), undef, undef, undef, .pointer (some ⟨xb, 0, none⟩), .pointer (some ⟨xb, 0, none⟩), .pointer (some ⟨xb, 0, none⟩), .slice (some ⟨og, 0, none⟩) (k + 1) c, .int .i64 ((k : Int) + 1), .int .i64 (k : Int), .pointer (some ⟨p2, 0, none⟩), .bool false, undef, undef, undef, undef, undef, undef, undef, undef, undef, undef, undef, undef, undef, undef, undef, x51, x52, x53, x54, x55, x56, x57, x58, x59, x60, x61, x62, x63, x64, x65, x66, x67, x68], defers := [] } → Zone w B (N + 1) → Zs B [] w3 w → (b15 = false → w.cell? ⟨og, k * 5 + 4, none⟩ = some (.slice ka kn kc)) → (b0 = true → x51 = .pointer (some ⟨xb, 0, none⟩)) → (b1 = true → x52 = .pointer (some ⟨xb, 0, none⟩)) → (b2 = true → x53 = .pointer (some ⟨xb, 0, none⟩)) → (b3 = true → x54 = .slice (some ⟨og, 0, none⟩) (k + 1) c) → (b4 = true → x55 = .int .i64 (k : Int)) → (b5 = true → x56 = .pointer (some ⟨xb, 0, none⟩)) → (b6 = true → x57 = .pointer (some ⟨xb, 0, none⟩)) → (b7 = true → x58 = .pointer (some ⟨xb, 0, none⟩)) → (b8 = true → x59 = .slice (some ⟨og, 0, none⟩) (k + 1) c) → (b9 = true → x60 = .int .i64 (k : Int)) → (b10 = true → x61 = .pointer (some ⟨og, k * 5, none⟩)) → (b11 = true → x62 = .pointer (some ⟨og, k * 5 + 4, none⟩)) → (b12 = true → x63 = .slice ka kn kc) → (b13 = true → ∃ kd' a1' n1' c1' a2' n2' c2' a3' n3' c3' a4' n4' c4', x64 = .agg #[.int .i64 kd', .slice a1' n1' c1', .slice a2' n2' c2', .slice a3' n3' c3', .slice a4' n4' c4'] ∧ ZN w B (N + 1) (.int .i64 kd') (.slice a1' n1' c1') (.slice a2' n2' c2') (.slice a3' n3' c3') (.slice a4' n4' c4')) → (b14 = true → b13 = true ∧ ∃ z, x65 = .slice (some ⟨z, 0, none⟩) 1 1 ∧ B ≤ z ∧ ZB w z 26 5) → (b15 = true → b12 = true ∧ b14 = true ∧ ∃ a' cap', x66 = .slice a' (kn + 1) cap' ∧ ZSl w B (N + 1) 26 5 (.slice a' (kn + 1) cap')) → (b16 = true → x67 = .pointer (some ⟨og, k * 5, none⟩)) → (b17 = true → x68 = .pointer (some ⟨og, k * 5 + 4, none⟩)) → C) → C
theorem Lp8_cases {i : Nat} (h : i < 19) : i = 0 ∨ i = 1 ∨ i = 2 ∨ i = 3 ∨ i = 4 ∨ i = 5 ∨ i = 6 ∨ i = 7 ∨ i = 8 ∨ i = 9 ∨ i = 10 ∨ i = 11 ∨ i = 12 ∨ i = 13 ∨ i = 14 ∨ i = 15 ∨ i = 16 ∨ i = 17 ∨ i = 18 := by omega
set_option maxHeartbeats 12800000 in
theorem l3put_any (w : World) (B N xb k og c : Nat) (m : Int) (ov : Bool) (kd : Int) (a1 : Option Addr) (n1 c1 : Nat) (a2 : Option Addr) (n2 c2 : Nat) (a3 : Option Addr) (n3 c3 : Nat) (a4 : Option Addr) (n4 c4 : Nat) (hZ : Zone w B N) (hB : B ≤ w.heap.size) (hX : XB w B N xb k og c m ov) (hxb : B ≤ xb) (hn : ZN w B N (.int .i64 kd) (.slice a1 n1 c1) (.slice a2 n2 c2) (.slice a3 n3 c3) (.slice a4 n4 c4)) (hN : N ≤ 900000000) :
    Calls Tryz.prog 155 #[.pointer (some ⟨xb, 0, none⟩), .agg #[.int .i64 kd, .slice a1 n1 c1, .slice a2 n2 c2, .slice a3 n3 c3, .slice a4 n4 c4]] w fun e w' => (∃ v, e = .returned v) ∧ XQ w B (N + 1) xb k w' := by
  obtain ⟨hA, hAs⟩ := hZ.alloc (cs := #[.int .i64 kd, .slice a1 n1 c1, .slice a2 n2 c2, .slice a3 n3 c3, .slice a4 n4 c4]) (T := 26) hB (fun _ => hn.at)
  have hXA := hX.zs hAs (Nat.le_refl _)
  have hbx := ZB.made w #[.int .i64 kd, .slice a1 n1 c1, .slice a2 n2 c2, .slice a3 n3 c3, .slice a4 n4 c4] 26
  have hne : xb ≠ w.heap.size := by have := hX.1.lt; omega
  have hsz : (w.alloc (.cells #[.int .i64 kd, .slice a1 n1 c1, .slice a2 n2 c2, .slice a3 n3 c3, .slice a4 n4 c4] 26)).heap.size = w.heap.size + 1 := by simp
  have LL := hide (And.intro hA (And.intro hAs (And.intro hXA (And.intro hbx hsz))))
  clear hA hAs hXA hbx hsz hZ hX
  go_enter Tryz.func155, Tryz.ntmps155
  go_upto_region 1 with fail
  generalize (w.alloc (.cells #[.int .i64 kd, .slice a1 n1 c1, .slice a2 n2 c2, .slice a3 n3 c3, .slice a4 n4 c4] 26)) = w1 at *
  obtain ⟨hA, hAs, hXA, hbx, hsz⟩ := unhide LL
  clear LL
  generalize hpb : w.heap.size = pb at *
  obtain ⟨lx, x1, x2, x3, x4, x5, x6, x7⟩ := hXA
  have y0 : w1.cell? ⟨xb, 0, none⟩ = some (.slice (some ⟨og, 0, none⟩) (k + 1) c) := lx.cell 0
  have y1 : w1.cell? ⟨xb, 1, none⟩ = some (.int .i64 m) := lx.cell 1
  have y2 : w1.cell? ⟨xb, 2, none⟩ = some (.bool ov) := lx.cell 2
  have f1 := lx.frozen 1
  have f2 := lx.frozen 2
  have l2 := lx.set 1 (.int .i64 (m + 1))
  obtain ⟨hZ2, hZs2⟩ := hA.box lx notZ hxb 1 (.int .i64 (m + 1))
  simp at l2
  by_cases hm : 120 < m + 1
  · have l3 := l2.set 2 (.bool true)
    obtain ⟨hZ3, hZs3⟩ := hZ2.box l2 notZ hxb 2 (.bool true)
    simp at l3
    have HE := hide (show XQ w B (N + 1) xb k ((w1.setCell ⟨xb, 1, none⟩ (.int .i64 (m + 1))).setCell ⟨xb, 2, none⟩ (.bool true)) from ⟨hZ3.mono (by omega), (hAs.any.trans hZs2).trans hZs3, og, c, m + 1, true, l3, x1, x2, x3, hZs3.zb _ _ _ (.inr (.inr rfl)) (hZs2.zb _ _ _ (.inr (.inr rfl)) x4), x5, by omega, by omega⟩)
    clear l2 l3 hZ2 hZ3 hZs2 hZs3 hA hAs hbx hn lx
    go_wp2_with fail
    exact bodyPost_ret (results_none rfl _ _ _) rfl ⟨⟨_, rfl⟩, unhide HE⟩
  · have hm' : ¬ (120 : Int) < m + 1 := hm
    by_cases hk : 19 ≤ k
    · have hk20 : (20 : Int) ≤ (k : Int) + 1 := by omega
      have l3 := l2.set 2 (.bool true)
      obtain ⟨hZ3, hZs3⟩ := hZ2.box l2 notZ hxb 2 (.bool true)
      simp at l3
      have HE := hide (show XQ w B (N + 1) xb k ((w1.setCell ⟨xb, 1, none⟩ (.int .i64 (m + 1))).setCell ⟨xb, 2, none⟩ (.bool true)) from ⟨hZ3.mono (by omega), (hAs.any.trans hZs2).trans hZs3, og, c, m + 1, true, l3, x1, x2, x3, hZs3.zb _ _ _ (.inr (.inr rfl)) (hZs2.zb _ _ _ (.inr (.inr rfl)) x4), x5, by omega, by omega⟩)
      clear l2 l3 hZ2 hZ3 hZs2 hZs3 hA hAs hbx hn lx
      go_wp2_with fail
      exact bodyPost_ret (results_none rfl _ _ _) rfl ⟨⟨_, rfl⟩, unhide HE⟩
    · have hk' : k < 19 := by omega
      have hZ2s := hAs.any.trans hZs2
      have hX2 : XB (w1.setCell ⟨xb, 1, none⟩ (.int .i64 (m + 1))) B (N + 1) xb k og c (m + 1) ov := ⟨l2, x1, x2, x3, hZs2.zb _ _ _ (.inr (.inr rfl)) x4, x5, by omega, by omega⟩
      have hb2 := hZs2.zb _ _ _ (.inr (.inr rfl)) hbx
      have LL := hide (And.intro hZ2 (And.intro hZ2s (And.intro hX2 hb2)))
      clear l2 hZ2 hZs2 hA hAs hbx hn lx hZ2s hX2 hb2 x4
      go_upto_region 5 with fail
      obtain ⟨hZ2, hZ2s, hX2, hb2⟩ := unhide LL
      clear LL y0 y1 y2 f1 f2
      generalize (w1.setCell ⟨xb, 1, none⟩ (.int .i64 (m + 1))) = w2 at *
      go_region
      · obtain ⟨hZ3, hz3⟩ := hZ2.alloc (cs := #[.bool false]) (T := 4) (by have := hZ2s.size; omega) (fun h => absurd h notZs)
        have hZs3 := (hZ2s.trans hz3.any).drew
        have hX3 := hX2.zs hz3 (Nat.le_refl _)
        have hb3 := hz3.zb _ _ _ (.inr (.inr rfl)) hb2
        have hB3 : B ≤ (w2.alloc (.cells #[.bool false] 4)).heap.size := by have := hZs3.size; have h2 : w.heap.size ≤ (w2.alloc (.cells #[.bool false] 4)).heap.size := this; omega
        have LL := hide (show Zone (w2.alloc (.cells #[.bool false] 4)).drew B N ∧ Zs B [xb] w (w2.alloc (.cells #[.bool false] 4)).drew ∧ XB (w2.alloc (.cells #[.bool false] 4)).drew B (N + 1) xb k og c (m + 1) ov ∧ ZB (w2.alloc (.cells #[.bool false] 4)).drew pb 26 5 ∧ B ≤ (w2.alloc (.cells #[.bool false] 4)).drew.heap.size from ⟨hZ3, hZs3, hX3, hb3, hB3⟩)
        clear hZ3 hz3 hZs3 hX3 hb3 hB3 hZ2 hZ2s hX2 hb2
        go_wp2_with fail
        generalize (w2.alloc (.cells #[.bool false] 4)).drew = w3 at *
        obtain ⟨hZ3, hZs3, ⟨lx, hoB, hx2, hx3, ho3, hx5, hx6, hx7⟩, hb3, hB3⟩ := unhide LL
        clear LL
        generalize w2.heap.size = p2 at *
        have hkl : (k : Int) < (k : Int) + 1 := by omega
        have hwk : IntKind.i64.wrap (k : Int) = (k : Int) := by rw [IntKind.wrap_i64]; omega
        have hpB : B ≤ pb := hB
        obtain ⟨u0, u1, u2, u3, u4, _, _, _, _, ck3, hzk, _⟩ := hZ3.five ho3 hoB k (by omega)
        obtain ⟨_, _, _, _, hk3⟩ := hzk
        obtain ⟨ka, kn, kc, rfl, hkc, hkN, hkm, hkr⟩ := id hk3
        refine region_inv (by kernel_rfl) (Lp8 w3 B N xb k og c pb p2 m ka kn kc kd a1 n1 c1 a2 n2 c2 a3 n3 c3 a4 n4 c4) ?sz ?h0 ?step ?dn
        case sz =>
          intro L a w hI
          refine hI _ ?_
          intro b0 b1 b2 b3 b4 b5 b6 b7 b8 b9 b10 b11 b12 b13 b14 b15 b16 b17 b18 x51 x52 x53 x54 x55 x56 x57 x58 x59 x60 x61 x62 x63 x64 x65 x66 x67 x68 eL eA h0 h1 h2 f0 f1 f2 f3 f4 f5 f6 f7 f8 f9 f10 f11 f12 f13 f14 f15 f16 f17
          subst eL
          rfl
        case h0 =>
          exact fun _ k_ => k_ false false false false false false false false false false false false false false false false false false false _ _ _ _ _ _ _ _ _ _ _ _ _ _ _ _ _ _ rfl rfl (hZ3.mono (Nat.le_succ _)) (Zs.refl B [] w3).drew (fun _ => ck3) (fun h => by cases h) (fun h => by cases h) (fun h => by cases h) (fun h => by cases h) (fun h => by cases h) (fun h => by cases h) (fun h => by cases h) (fun h => by cases h) (fun h => by cases h) (fun h => by cases h) (fun h => by cases h) (fun h => by cases h) (fun h => by cases h) (fun h => by cases h) (fun h => by cases h) (fun h => by cases h) (fun h => by cases h) (fun h => by cases h)
        case step =>
          intro L a w i o hI hi ho
          refine hI _ ?_
          clear hI
          intro b0 b1 b2 b3 b4 b5 b6 b7 b8 b9 b10 b11 b12 b13 b14 b15 b16 b17 b18 x51 x52 x53 x54 x55 x56 x57 x58 x59 x60 x61 x62 x63 x64 x65 x66 x67 x68 eL eA h0 h1 h2 f0 f1 f2 f3 f4 f5 f6 f7 f8 f9 f10 f11 f12 f13 f14 f15 f16 f17
          subst eL eA
          rcases Lp8_cases (ready_lt hi) with rfl | rfl | rfl | rfl | rfl | rfl | rfl | rfl | rfl | rfl | rfl | rfl | rfl | rfl | rfl | rfl | rfl | rfl | rfl
          · obtain rfl := Option.some.inj ho
            go_simp
            exact fun _ k_ => k_ true b1 b2 b3 b4 b5 b6 b7 b8 b9 b10 b11 b12 b13 b14 b15 b16 b17 b18 _ x52 x53 x54 x55 x56 x57 x58 x59 x60 x61 x62 x63 x64 x65 x66 x67 x68 rfl rfl h0 h1 h2 (fun _ => rfl) f1 f2 f3 f4 f5 f6 f7 f8 f9 f10 f11 f12 f13 f14 f15 f16 f17
          · have g0 := ready_pred hi ho 0
            obtain rfl := Option.some.inj ho
            have e0 := f0 (g0 (by kernel_rfl))
            subst e0
            go_simp
            exact fun _ k_ => k_ b0 true b2 b3 b4 b5 b6 b7 b8 b9 b10 b11 b12 b13 b14 b15 b16 b17 b18 _ _ x53 x54 x55 x56 x57 x58 x59 x60 x61 x62 x63 x64 x65 x66 x67 x68 rfl rfl h0 h1 h2 f0 (fun _ => rfl) f2 f3 f4 f5 f6 f7 f8 f9 f10 f11 f12 f13 f14 f15 f16 f17
          · have g1 := ready_pred hi ho 1
            obtain rfl := Option.some.inj ho
            have e1 := f1 (g1 (by kernel_rfl))
            subst e1
            go_simp
            exact fun _ k_ => k_ b0 b1 true b3 b4 b5 b6 b7 b8 b9 b10 b11 b12 b13 b14 b15 b16 b17 b18 x51 _ _ x54 x55 x56 x57 x58 x59 x60 x61 x62 x63 x64 x65 x66 x67 x68 rfl rfl h0 h1 h2 f0 f1 (fun _ => rfl) f3 f4 f5 f6 f7 f8 f9 f10 f11 f12 f13 f14 f15 f16 f17
          · have g2 := ready_pred hi ho 2
            obtain rfl := Option.some.inj ho
            have e2 := f2 (g2 (by kernel_rfl))
            subst e2
            have co : w.cell? ⟨xb, 0, none⟩ = some (.slice (some ⟨og, 0, none⟩) (k + 1) c) := (lx.zs h1 (by simp) notZ).cell 0
            go_simp
            exact fun _ k_ => k_ b0 b1 b2 true b4 b5 b6 b7 b8 b9 b10 b11 b12 b13 b14 b15 b16 b17 b18 x51 x52 _ _ x55 x56 x57 x58 x59 x60 x61 x62 x63 x64 x65 x66 x67 x68 rfl rfl h0 h1 h2 f0 f1 f2 (fun _ => rfl) f4 f5 f6 f7 f8 f9 f10 f11 f12 f13 f14 f15 f16 f17
          · obtain rfl := Option.some.inj ho
            go_simp
            exact fun _ k_ => k_ b0 b1 b2 b3 true b5 b6 b7 b8 b9 b10 b11 b12 b13 b14 b15 b16 b17 b18 x51 x52 x53 x54 _ x56 x57 x58 x59 x60 x61 x62 x63 x64 x65 x66 x67 x68 rfl rfl h0 h1 h2 f0 f1 f2 f3 (fun _ => rfl) f5 f6 f7 f8 f9 f10 f11 f12 f13 f14 f15 f16 f17
          · obtain rfl := Option.some.inj ho
            go_simp
            exact fun _ k_ => k_ b0 b1 b2 b3 b4 true b6 b7 b8 b9 b10 b11 b12 b13 b14 b15 b16 b17 b18 x51 x52 x53 x54 x55 _ x57 x58 x59 x60 x61 x62 x63 x64 x65 x66 x67 x68 rfl rfl h0 h1 h2 f0 f1 f2 f3 f4 (fun _ => rfl) f6 f7 f8 f9 f10 f11 f12 f13 f14 f15 f16 f17
          · have g5 := ready_pred hi ho 5
            obtain rfl := Option.some.inj ho
            have e5 := f5 (g5 (by kernel_rfl))
            subst e5
            go_simp
            exact fun _ k_ => k_ b0 b1 b2 b3 b4 b5 true b7 b8 b9 b10 b11 b12 b13 b14 b15 b16 b17 b18 x51 x52 x53 x54 x55 _ _ x58 x59 x60 x61 x62 x63 x64 x65 x66 x67 x68 rfl rfl h0 h1 h2 f0 f1 f2 f3 f4 f5 (fun _ => rfl) f7 f8 f9 f10 f11 f12 f13 f14 f15 f16 f17
          · have g6 := ready_pred hi ho 6
            obtain rfl := Option.some.inj ho
            have e6 := f6 (g6 (by kernel_rfl))
            subst e6
            go_simp
            exact fun _ k_ => k_ b0 b1 b2 b3 b4 b5 b6 true b8 b9 b10 b11 b12 b13 b14 b15 b16 b17 b18 x51 x52 x53 x54 x55 x56 _ _ x59 x60 x61 x62 x63 x64 x65 x66 x67 x68 rfl rfl h0 h1 h2 f0 f1 f2 f3 f4 f5 f6 (fun _ => rfl) f8 f9 f10 f11 f12 f13 f14 f15 f16 f17
          · have g7 := ready_pred hi ho 7
            obtain rfl := Option.some.inj ho
            have e7 := f7 (g7 (by kernel_rfl))
            subst e7
            have co : w.cell? ⟨xb, 0, none⟩ = some (.slice (some ⟨og, 0, none⟩) (k + 1) c) := (lx.zs h1 (by simp) notZ).cell 0
            go_simp
            exact fun _ k_ => k_ b0 b1 b2 b3 b4 b5 b6 b7 true b9 b10 b11 b12 b13 b14 b15 b16 b17 b18 x51 x52 x53 x54 x55 x56 x57 _ _ x60 x61 x62 x63 x64 x65 x66 x67 x68 rfl rfl h0 h1 h2 f0 f1 f2 f3 f4 f5 f6 f7 (fun _ => rfl) f9 f10 f11 f12 f13 f14 f15 f16 f17
          · obtain rfl := Option.some.inj ho
            go_simp
            exact fun _ k_ => k_ b0 b1 b2 b3 b4 b5 b6 b7 b8 true b10 b11 b12 b13 b14 b15 b16 b17 b18 x51 x52 x53 x54 x55 x56 x57 x58 x59 _ x61 x62 x63 x64 x65 x66 x67 x68 rfl rfl h0 h1 h2 f0 f1 f2 f3 f4 f5 f6 f7 f8 (fun _ => rfl) f10 f11 f12 f13 f14 f15 f16 f17
          · have g8 := ready_pred hi ho 8
            have g9 := ready_pred hi ho 9
            obtain rfl := Option.some.inj ho
            have e8 := f8 (g8 (by kernel_rfl))
            subst e8
            have e9 := f9 (g9 (by kernel_rfl))
            subst e9
            go_simp
            exact fun _ k_ => k_ b0 b1 b2 b3 b4 b5 b6 b7 b8 b9 true b11 b12 b13 b14 b15 b16 b17 b18 x51 x52 x53 x54 x55 x56 x57 x58 _ _ _ x62 x63 x64 x65 x66 x67 x68 rfl rfl h0 h1 h2 f0 f1 f2 f3 f4 f5 f6 f7 f8 f9 (fun _ => rfl) f11 f12 f13 f14 f15 f16 f17
          · have g10 := ready_pred hi ho 10
            obtain rfl := Option.some.inj ho
            have e10 := f10 (g10 (by kernel_rfl))
            subst e10
            go_simp
            exact fun _ k_ => k_ b0 b1 b2 b3 b4 b5 b6 b7 b8 b9 b10 true b12 b13 b14 b15 b16 b17 b18 x51 x52 x53 x54 x55 x56 x57 x58 x59 x60 _ _ x63 x64 x65 x66 x67 x68 rfl rfl h0 h1 h2 f0 f1 f2 f3 f4 f5 f6 f7 f8 f9 f10 (fun _ => rfl) f12 f13 f14 f15 f16 f17
          · have g11 := ready_pred hi ho 11
            obtain rfl := Option.some.inj ho
            have e11 := f11 (g11 (by kernel_rfl))
            subst e11
            have hbz : b12 = false := by simpa using ready_off rfl hi
            have ck : w.cell? ⟨og, k * 5 + 4, none⟩ = some (.slice ka kn kc) := h2 (by cases hb : b15 with
              | false => rfl
              | true => have := (f15 hb).1; rw [hbz] at this; cases this)
            clear hbz
            go_simp
            exact fun _ k_ => k_ b0 b1 b2 b3 b4 b5 b6 b7 b8 b9 b10 b11 true b13 b14 b15 b16 b17 b18 x51 x52 x53 x54 x55 x56 x57 x58 x59 x60 x61 _ _ x64 x65 x66 x67 x68 rfl rfl h0 h1 h2 f0 f1 f2 f3 f4 f5 f6 f7 f8 f9 f10 f11 (fun _ => rfl) f13 f14 (fun h => ⟨rfl, (f15 h).2⟩) f16 f17
          · obtain rfl := Option.some.inj ho
            have hbp := h1.zb _ _ _ (.inr (.inr rfl)) hb3
            obtain ⟨u0, u1, u2, u3, u4, e0, e1, e2, e3, e4, hzn, _⟩ := h0.five hbp hpB 0 (by decide)
            obtain ⟨kd', a1', n1', c1', a2', n2', c2', a3', n3', c3', a4', n4', c4', rfl, rfl, rfl, rfl, rfl⟩ := hzn.shape
            simp only [Nat.zero_mul, Nat.zero_add] at e0 e1 e2 e3 e4
            go_simp
            exact fun _ k_ => k_ b0 b1 b2 b3 b4 b5 b6 b7 b8 b9 b10 b11 b12 true b14 b15 b16 b17 b18 x51 x52 x53 x54 x55 x56 x57 x58 x59 x60 x61 x62 x63 _ x65 x66 x67 x68 rfl rfl h0 h1 h2 f0 f1 f2 f3 f4 f5 f6 f7 f8 f9 f10 f11 f12 (fun _ => ⟨kd', a1', n1', c1', a2', n2', c2', a3', n3', c3', a4', n4', c4', rfl, hzn⟩) (fun h => ⟨rfl, (f14 h).2⟩) f15 f16 f17
          · have g13 := ready_pred hi ho 13
            obtain rfl := Option.some.inj ho
            have ej : b13 = true := g13 (by kernel_rfl)
            obtain ⟨kd', a1', n1', c1', a2', n2', c2', a3', n3', c3', a4', n4', c4', ex, hzn⟩ := f13 ej
            subst ex
            have hbz : b14 = false := by simpa using ready_off rfl hi
            have hap : b15 = false := by cases hb : b15 with
              | false => rfl
              | true => have := (f15 hb).2.1; rw [hbz] at this; cases this
            have hBw : B ≤ w.heap.size := Nat.le_trans hB3 h1.size
            have hog := (h1.zb _ _ _ (.inr (.inr rfl)) ho3).lt
            obtain ⟨hZ9, hz9⟩ := h0.alloc (cs := #[.int .i64 kd', .slice a1' n1' c1', .slice a2' n2' c2', .slice a3' n3' c3', .slice a4' n4' c4']) (T := 26) hBw (fun _ => (hzn).at)
            have hb9 : Below w.heap.size w (w.alloc (.cells #[.int .i64 kd', .slice a1' n1' c1', .slice a2' n2' c2', .slice a3' n3' c3', .slice a4' n4' c4'] 26)) := (Below.refl _ _).alloc (Nat.le_refl _) _
            have hm9 := ZB.made w #[.int .i64 kd', .slice a1' n1' c1', .slice a2' n2' c2', .slice a3' n3' c3', .slice a4' n4' c4'] 26
            have hgz : B ≤ w.heap.size := hBw
            have hck := (hb9.cell (p := ⟨og, k * 5 + 4, none⟩) hog).trans (h2 hap)
            have HAP := hide hap
            clear hap hbz
            have EJ := hide ej
            clear ej
            go_simp
            exact fun _ k_ => k_ b0 b1 b2 b3 b4 b5 b6 b7 b8 b9 b10 b11 b12 b13 true b15 b16 b17 b18 x51 x52 x53 x54 x55 x56 x57 x58 x59 x60 x61 x62 x63 _ _ x66 x67 x68 rfl rfl hZ9 (h1.trans hz9) (fun _ => hck) f0 f1 f2 f3 f4 f5 f6 f7 f8 f9 f10 f11 f12 (fun _ => ⟨kd', a1', n1', c1', a2', n2', c2', a3', n3', c3', a4', n4', c4', rfl, hzn.step hz9 (Nat.le_refl _)⟩) (fun _ => ⟨unhide EJ, w.heap.size, rfl, hgz, hm9⟩) (fun h => by rw [unhide HAP] at h; cases h) f16 f17
          · have g12 := ready_pred hi ho 12
            have g14 := ready_pred hi ho 14
            obtain rfl := Option.some.inj ho
            have ek : b12 = true := g12 (by kernel_rfl)
            have eb : b14 = true := g14 (by kernel_rfl)
            have e1 := f12 ek
            obtain ⟨ej, z, ez, hzB, hzz⟩ := f14 eb
            subst e1 ez
            obtain ⟨u0, u1, u2, u3, u4, q0, q1, q2, q3, q4, hzn, _⟩ := h0.five hzz hzB 0 (by decide)
            simp only [Nat.zero_mul, Nat.zero_add] at q0 q1 q2 q3 q4
            obtain ⟨iz, hty⟩ := zty2
            refine step_zapp hty (by rfl) (.tmp 63) (.tmp 65) (by rfl) h0 (Nat.le_trans hB3 h1.size) ka kn kc (by rfl) (ZSl.step (q := 2) hk3 h1 (by omega)) ⟨z, 0, none⟩ 1 1 [u0, u1, u2, u3, u4] (by rfl) rfl ?hc ?ht (Nat.le_refl _) (by omega) (by omega) ?_
            case hc =>
              intro j u hj
              match j, hj with
              | 0, hj => simp at hj; subst hj; exact q0
              | 1, hj => simp at hj; subst hj; exact q1
              | 2, hj => simp at hj; subst hj; exact q2
              | 3, hj => simp at hj; subst hj; exact q3
              | 4, hj => simp at hj; subst hj; exact q4
            case ht => exact fun j u hj => hzn.at j u (by simpa using hj)
            intro a' cap' w' k1 k2 k3
            exact fun _ k_ => k_ b0 b1 b2 b3 b4 b5 b6 b7 b8 b9 b10 b11 b12 b13 b14 true b16 b17 b18 x51 x52 x53 x54 x55 x56 x57 x58 x59 x60 x61 x62 _ x64 _ _ x67 x68 rfl rfl k2 (h1.trans k3) (fun e => by cases e) f0 f1 f2 f3 f4 f5 f6 f7 f8 f9 f10 f11 (fun _ => rfl) (fun h => by obtain ⟨kd', a1', n1', c1', a2', n2', c2', a3', n3', c3', a4', n4', c4', e, t⟩ := f13 h; exact ⟨kd', a1', n1', c1', a2', n2', c2', a3', n3', c3', a4', n4', c4', e, t.step k3 (Nat.le_refl _)⟩) (fun _ => ⟨ej, z, rfl, hzB, k3.zb _ _ _ (.inr (.inr rfl)) hzz⟩) (fun _ => ⟨ek, eb, a', cap', rfl, k1⟩) f16 f17
          · have g3 := ready_pred hi ho 3
            have g4 := ready_pred hi ho 4
            obtain rfl := Option.some.inj ho
            have e3 := f3 (g3 (by kernel_rfl))
            subst e3
            have e4 := f4 (g4 (by kernel_rfl))
            subst e4
            go_simp
            exact fun _ k_ => k_ b0 b1 b2 b3 b4 b5 b6 b7 b8 b9 b10 b11 b12 b13 b14 b15 true b17 b18 x51 x52 x53 _ _ x56 x57 x58 x59 x60 x61 x62 x63 x64 x65 x66 _ x68 rfl rfl h0 h1 h2 f0 f1 f2 f3 f4 f5 f6 f7 f8 f9 f10 f11 f12 f13 f14 f15 (fun _ => rfl) f17
          · have g16 := ready_pred hi ho 16
            obtain rfl := Option.some.inj ho
            have e16 := f16 (g16 (by kernel_rfl))
            subst e16
            go_simp
            exact fun _ k_ => k_ b0 b1 b2 b3 b4 b5 b6 b7 b8 b9 b10 b11 b12 b13 b14 b15 b16 true b18 x51 x52 x53 x54 x55 x56 x57 x58 x59 x60 x61 x62 x63 x64 x65 x66 _ _ rfl rfl h0 h1 h2 f0 f1 f2 f3 f4 f5 f6 f7 f8 f9 f10 f11 f12 f13 f14 f15 f16 (fun _ => rfl)
          · have g17 := ready_pred hi ho 17
            have g15 := ready_pred hi ho 15
            obtain rfl := Option.some.inj ho
            have ea : b15 = true := g15 (by kernel_rfl)
            have ef := f17 (g17 (by kernel_rfl))
            obtain ⟨ek, eb, a', cap', ex, hsl⟩ := f15 ea
            subst ef ex
            have EB := hide (And.intro ea (And.intro ek eb))
            clear ea ek eb
            have hog := h1.zb _ _ _ (.inr (.inr rfl)) ho3
            obtain ⟨v9, c9, _, z9⟩ := h0.cell hog (.inr (.inr rfl)) hoB (i := k * 5 + 4) (by omega)
            have hkk : kindAt 26 (k * 5 + 4) = 4 := by simp [kindAt]
            obtain ⟨hZ9, hz9⟩ := h0.set (i := k * 5 + 4) (v := .slice a' (kn + 1) cap') (.inr (.inr rfl)) hoB hog (by rw [hkk]; exact hsl)
            clear f15
            go_simp
            exact fun _ k_ => k_ b0 b1 b2 b3 b4 b5 b6 b7 b8 b9 b10 b11 b12 b13 b14 b15 b16 b17 true x51 x52 x53 x54 x55 x56 x57 x58 x59 x60 x61 x62 x63 x64 x65 _ x67 _ rfl rfl hZ9 (h1.trans hz9) (fun e => by rw [(unhide EB).1] at e; cases e) f0 f1 f2 f3 f4 f5 f6 f7 f8 f9 f10 f11 f12 (fun h => by obtain ⟨kd', a1', n1', c1', a2', n2', c2', a3', n3', c3', a4', n4', c4', e, t⟩ := f13 h; exact ⟨kd', a1', n1', c1', a2', n2', c2', a3', n3', c3', a4', n4', c4', e, t.step hz9 (Nat.le_refl _)⟩) (fun h => by obtain ⟨e0, z, e, hb, t⟩ := f14 h; exact ⟨e0, z, e, hb, hz9.zb _ _ _ (.inr (.inr rfl)) t⟩) (fun _ => ⟨(unhide EB).2.1, (unhide EB).2.2, a', cap', rfl, ZSl.step (q := 2) hsl hz9 (Nat.le_refl _)⟩) f16 (fun _ => rfl)
        case dn =>
          intro L a w4 hI hre
          have hall := ready_all (L := L) (by refine hI _ ?_; intro b0 b1 b2 b3 b4 b5 b6 b7 b8 b9 b10 b11 b12 b13 b14 b15 b16 b17 b18 x51 x52 x53 x54 x55 x56 x57 x58 x59 x60 x61 x62 x63 x64 x65 x66 x67 x68 eL eA h0 h1 h2 f0 f1 f2 f3 f4 f5 f6 f7 f8 f9 f10 f11 f12 f13 f14 f15 f16 f17; subst eL; rfl) (by kernel_rfl) hre 19
          refine hI _ ?_
          clear hI
          intro b0 b1 b2 b3 b4 b5 b6 b7 b8 b9 b10 b11 b12 b13 b14 b15 b16 b17 b18 x51 x52 x53 x54 x55 x56 x57 x58 x59 x60 x61 x62 x63 x64 x65 x66 x67 x68 eL eA h0 h1 h2 f0 f1 f2 f3 f4 f5 f6 f7 f8 f9 f10 f11 f12 f13 f14 f15 f16 f17
          subst eL eA
          have s_ : b15 = true := hall 15 (by omega) (by decide)
          obtain ⟨_, _, a', cap', e1, hsl⟩ := f15 s_
          subst e1
          clear hall s_ f0 f1 f2 f3 f4 f5 f6 f7 f8 f9 f10 f11 f12 f13 f14 f15 f16 f17 hre h2
          have HE := hide (show XQ w B (N + 1) xb k w4 from ⟨h0, hZs3.trans h1.any, og, c, m + 1, ov, lx.zs h1 (by simp) notZ, hoB, hx2, hx3, h1.zb _ _ _ (.inr (.inr rfl)) ho3, hx5, hx6, hx7⟩)
          clear h0 h1 hsl lx
          go_wp2_with fail
          go_end0
          exact ⟨⟨_, rfl⟩, unhide HE⟩
      · obtain ⟨hZ3, hz3⟩ := hZ2.alloc (cs := #[.bool true]) (T := 4) (by have := hZ2s.size; omega) (fun h => absurd h notZs)
        have hZs3 := (hZ2s.trans hz3.any).drew
        have hX3 := hX2.zs hz3 (Nat.le_refl _)
        have hb3 := hz3.zb _ _ _ (.inr (.inr rfl)) hb2
        have hB3 : B ≤ (w2.alloc (.cells #[.bool true] 4)).heap.size := by have := hZs3.size; have h2 : w.heap.size ≤ (w2.alloc (.cells #[.bool true] 4)).heap.size := this; omega
        have LL := hide (show Zone (w2.alloc (.cells #[.bool true] 4)).drew B N ∧ Zs B [xb] w (w2.alloc (.cells #[.bool true] 4)).drew ∧ XB (w2.alloc (.cells #[.bool true] 4)).drew B (N + 1) xb k og c (m + 1) ov ∧ ZB (w2.alloc (.cells #[.bool true] 4)).drew pb 26 5 ∧ B ≤ (w2.alloc (.cells #[.bool true] 4)).drew.heap.size from ⟨hZ3, hZs3, hX3, hb3, hB3⟩)
        clear hZ3 hz3 hZs3 hX3 hb3 hB3 hZ2 hZ2s hX2 hb2
        go_wp2_with fail
        generalize (w2.alloc (.cells #[.bool true] 4)).drew = w3 at *
        obtain ⟨hZ3, hZs3, ⟨lx, hoB, hx2, hx3, ho3, hx5, hx6, hx7⟩, hb3, hB3⟩ := unhide LL
        clear LL
        generalize w2.heap.size = p2 at *
        have hkl : (k : Int) < (k : Int) + 1 := by omega
        have hwk : IntKind.i64.wrap (k : Int) = (k : Int) := by rw [IntKind.wrap_i64]; omega
        have hpB : B ≤ pb := hB
        obtain ⟨u0, u1, u2, u3, u4, _, _, _, _, ck3, hzk, _⟩ := hZ3.five ho3 hoB k (by omega)
        obtain ⟨_, _, _, _, hk3⟩ := hzk
        obtain ⟨ka, kn, kc, rfl, hkc, hkN, hkm, hkr⟩ := id hk3
        refine region_inv (by kernel_rfl) (Lp6 w3 B N xb k og c pb p2 m ka kn kc kd a1 n1 c1 a2 n2 c2 a3 n3 c3 a4 n4 c4) ?sz ?h0 ?step ?dn
        case sz =>
          intro L a w hI
          refine hI _ ?_
          intro b0 b1 b2 b3 b4 b5 b6 b7 b8 b9 b10 b11 b12 b13 b14 x36 x37 x38 x39 x40 x41 x42 x43 x44 x45 x46 x47 x48 x49 eL eA h0 h1 h2 f0 f1 f2 f3 f4 f5 f6 f7 f8 f9 f10 f11 f12 f13
          subst eL
          rfl
        case h0 =>
          exact fun _ k_ => k_ false false false false false false false false false false false false false false false _ _ _ _ _ _ _ _ _ _ _ _ _ _ rfl rfl (hZ3.mono (Nat.le_succ _)) (Zs.refl B [] w3).drew (fun _ => ck3) (fun h => by cases h) (fun h => by cases h) (fun h => by cases h) (fun h => by cases h) (fun h => by cases h) (fun h => by cases h) (fun h => by cases h) (fun h => by cases h) (fun h => by cases h) (fun h => by cases h) (fun h => by cases h) (fun h => by cases h) (fun h => by cases h) (fun h => by cases h)
        case step =>
          intro L a w i o hI hi ho
          refine hI _ ?_
          clear hI
          intro b0 b1 b2 b3 b4 b5 b6 b7 b8 b9 b10 b11 b12 b13 b14 x36 x37 x38 x39 x40 x41 x42 x43 x44 x45 x46 x47 x48 x49 eL eA h0 h1 h2 f0 f1 f2 f3 f4 f5 f6 f7 f8 f9 f10 f11 f12 f13
          subst eL eA
          rcases Lp6_cases (ready_lt hi) with rfl | rfl | rfl | rfl | rfl | rfl | rfl | rfl | rfl | rfl | rfl | rfl | rfl | rfl | rfl
          · obtain rfl := Option.some.inj ho
            go_simp
            exact fun _ k_ => k_ true b1 b2 b3 b4 b5 b6 b7 b8 b9 b10 b11 b12 b13 b14 _ x37 x38 x39 x40 x41 x42 x43 x44 x45 x46 x47 x48 x49 rfl rfl h0 h1 h2 (fun _ => rfl) f1 f2 f3 f4 f5 f6 f7 f8 f9 f10 f11 f12 f13
          · have g0 := ready_pred hi ho 0
            obtain rfl := Option.some.inj ho
            have e0 := f0 (g0 (by kernel_rfl))
            subst e0
            go_simp
            exact fun _ k_ => k_ b0 true b2 b3 b4 b5 b6 b7 b8 b9 b10 b11 b12 b13 b14 _ _ x38 x39 x40 x41 x42 x43 x44 x45 x46 x47 x48 x49 rfl rfl h0 h1 h2 f0 (fun _ => rfl) f2 f3 f4 f5 f6 f7 f8 f9 f10 f11 f12 f13
          · have g1 := ready_pred hi ho 1
            obtain rfl := Option.some.inj ho
            have e1 := f1 (g1 (by kernel_rfl))
            subst e1
            go_simp
            exact fun _ k_ => k_ b0 b1 true b3 b4 b5 b6 b7 b8 b9 b10 b11 b12 b13 b14 x36 _ _ x39 x40 x41 x42 x43 x44 x45 x46 x47 x48 x49 rfl rfl h0 h1 h2 f0 f1 (fun _ => rfl) f3 f4 f5 f6 f7 f8 f9 f10 f11 f12 f13
          · have g2 := ready_pred hi ho 2
            obtain rfl := Option.some.inj ho
            have e2 := f2 (g2 (by kernel_rfl))
            subst e2
            have co : w.cell? ⟨xb, 0, none⟩ = some (.slice (some ⟨og, 0, none⟩) (k + 1) c) := (lx.zs h1 (by simp) notZ).cell 0
            go_simp
            exact fun _ k_ => k_ b0 b1 b2 true b4 b5 b6 b7 b8 b9 b10 b11 b12 b13 b14 x36 x37 _ _ x40 x41 x42 x43 x44 x45 x46 x47 x48 x49 rfl rfl h0 h1 h2 f0 f1 f2 (fun _ => rfl) f4 f5 f6 f7 f8 f9 f10 f11 f12 f13
          · obtain rfl := Option.some.inj ho
            go_simp
            exact fun _ k_ => k_ b0 b1 b2 b3 true b5 b6 b7 b8 b9 b10 b11 b12 b13 b14 x36 x37 x38 x39 _ x41 x42 x43 x44 x45 x46 x47 x48 x49 rfl rfl h0 h1 h2 f0 f1 f2 f3 (fun _ => rfl) f5 f6 f7 f8 f9 f10 f11 f12 f13
          · have g3 := ready_pred hi ho 3
            have g4 := ready_pred hi ho 4
            obtain rfl := Option.some.inj ho
            have e3 := f3 (g3 (by kernel_rfl))
            subst e3
            have e4 := f4 (g4 (by kernel_rfl))
            subst e4
            go_simp
            exact fun _ k_ => k_ b0 b1 b2 b3 b4 true b6 b7 b8 b9 b10 b11 b12 b13 b14 x36 x37 x38 _ _ _ x42 x43 x44 x45 x46 x47 x48 x49 rfl rfl h0 h1 h2 f0 f1 f2 f3 f4 (fun _ => rfl) f6 f7 f8 f9 f10 f11 f12 f13
          · have g5 := ready_pred hi ho 5
            obtain rfl := Option.some.inj ho
            have e5 := f5 (g5 (by kernel_rfl))
            subst e5
            go_simp
            exact fun _ k_ => k_ b0 b1 b2 b3 b4 b5 true b7 b8 b9 b10 b11 b12 b13 b14 x36 x37 x38 x39 x40 _ _ x43 x44 x45 x46 x47 x48 x49 rfl rfl h0 h1 h2 f0 f1 f2 f3 f4 f5 (fun _ => rfl) f7 f8 f9 f10 f11 f12 f13
          · have g6 := ready_pred hi ho 6
            obtain rfl := Option.some.inj ho
            have e6 := f6 (g6 (by kernel_rfl))
            subst e6
            have hbz : b7 = false := by simpa using ready_off rfl hi
            have ck : w.cell? ⟨og, k * 5 + 4, none⟩ = some (.slice ka kn kc) := h2 (by cases hb : b11 with
              | false => rfl
              | true => have := (f11 hb).1; rw [hbz] at this; cases this)
            clear hbz
            go_simp
            exact fun _ k_ => k_ b0 b1 b2 b3 b4 b5 b6 true b8 b9 b10 b11 b12 b13 b14 x36 x37 x38 x39 x40 x41 _ _ x44 x45 x46 x47 x48 x49 rfl rfl h0 h1 h2 f0 f1 f2 f3 f4 f5 f6 (fun _ => rfl) f8 f9 f10 (fun h => ⟨rfl, (f11 h).2⟩) f12 f13
          · obtain rfl := Option.some.inj ho
            have hbp := h1.zb _ _ _ (.inr (.inr rfl)) hb3
            obtain ⟨u0, u1, u2, u3, u4, e0, e1, e2, e3, e4, hzn, _⟩ := h0.five hbp hpB 0 (by decide)
            obtain ⟨kd', a1', n1', c1', a2', n2', c2', a3', n3', c3', a4', n4', c4', rfl, rfl, rfl, rfl, rfl⟩ := hzn.shape
            simp only [Nat.zero_mul, Nat.zero_add] at e0 e1 e2 e3 e4
            go_simp
            exact fun _ k_ => k_ b0 b1 b2 b3 b4 b5 b6 b7 true b9 b10 b11 b12 b13 b14 x36 x37 x38 x39 x40 x41 x42 x43 _ x45 x46 x47 x48 x49 rfl rfl h0 h1 h2 f0 f1 f2 f3 f4 f5 f6 f7 (fun _ => ⟨kd', a1', n1', c1', a2', n2', c2', a3', n3', c3', a4', n4', c4', rfl, hzn⟩) f9 f10 f11 f12 f13
          · have g7 := ready_pred hi ho 7
            obtain rfl := Option.some.inj ho
            have e7 := f7 (g7 (by kernel_rfl))
            subst e7
            go_simp
            exact fun _ k_ => k_ b0 b1 b2 b3 b4 b5 b6 b7 b8 true b10 b11 b12 b13 b14 x36 x37 x38 x39 x40 x41 x42 _ x44 _ x46 x47 x48 x49 rfl rfl h0 h1 h2 f0 f1 f2 f3 f4 f5 f6 f7 f8 (fun _ => rfl) f10 f11 f12 f13
          · obtain rfl := Option.some.inj ho
            have hbz : b10 = false := by simpa using ready_off rfl hi
            have hap : b11 = false := by cases hb : b11 with
              | false => rfl
              | true => have := (f11 hb).2.1; rw [hbz] at this; cases this
            have hBw : B ≤ w.heap.size := Nat.le_trans hB3 h1.size
            have hog := (h1.zb _ _ _ (.inr (.inr rfl)) ho3).lt
            obtain ⟨hZ9, hz9⟩ := h0.alloc (cs := #[.int .i64 0, .slice none 0 0, .slice none 0 0, .slice none 0 0, .slice none 0 0]) (T := 26) hBw (fun _ => (ZN.zero w B (N + 1)).at)
            have hb9 : Below w.heap.size w (w.alloc (.cells #[.int .i64 0, .slice none 0 0, .slice none 0 0, .slice none 0 0, .slice none 0 0] 26)) := (Below.refl _ _).alloc (Nat.le_refl _) _
            have hm9 := ZB.made w #[.int .i64 0, .slice none 0 0, .slice none 0 0, .slice none 0 0, .slice none 0 0] 26
            have hgz : B ≤ w.heap.size := hBw
            have hck := (hb9.cell (p := ⟨og, k * 5 + 4, none⟩) hog).trans (h2 hap)
            have HAP := hide hap
            clear hap hbz
            go_simp
            exact fun _ k_ => k_ b0 b1 b2 b3 b4 b5 b6 b7 b8 b9 true b11 b12 b13 b14 x36 x37 x38 x39 x40 x41 x42 x43 x44 x45 _ x47 x48 x49 rfl rfl hZ9 (h1.trans hz9) (fun _ => hck) f0 f1 f2 f3 f4 f5 f6 f7 (fun h => by obtain ⟨kd', a1', n1', c1', a2', n2', c2', a3', n3', c3', a4', n4', c4', e, t⟩ := f8 h; exact ⟨kd', a1', n1', c1', a2', n2', c2', a3', n3', c3', a4', n4', c4', e, t.step hz9 (Nat.le_refl _)⟩) f9 (fun _ => ⟨w.heap.size, rfl, hgz, hm9⟩) (fun h => by rw [unhide HAP] at h; cases h) f12 f13
          · have g7 := ready_pred hi ho 7
            have g10 := ready_pred hi ho 10
            obtain rfl := Option.some.inj ho
            have ek : b7 = true := g7 (by kernel_rfl)
            have eb : b10 = true := g10 (by kernel_rfl)
            have e1 := f7 ek
            obtain ⟨z, ez, hzB, hzz⟩ := f10 eb
            subst e1 ez
            obtain ⟨u0, u1, u2, u3, u4, q0, q1, q2, q3, q4, hzn, _⟩ := h0.five hzz hzB 0 (by decide)
            simp only [Nat.zero_mul, Nat.zero_add] at q0 q1 q2 q3 q4
            obtain ⟨iz, hty⟩ := zty2
            refine step_zapp hty (by rfl) (.tmp 43) (.tmp 46) (by rfl) h0 (Nat.le_trans hB3 h1.size) ka kn kc (by rfl) (ZSl.step (q := 2) hk3 h1 (by omega)) ⟨z, 0, none⟩ 1 1 [u0, u1, u2, u3, u4] (by rfl) rfl ?hc ?ht (Nat.le_refl _) (by omega) (by omega) ?_
            case hc =>
              intro j u hj
              match j, hj with
              | 0, hj => simp at hj; subst hj; exact q0
              | 1, hj => simp at hj; subst hj; exact q1
              | 2, hj => simp at hj; subst hj; exact q2
              | 3, hj => simp at hj; subst hj; exact q3
              | 4, hj => simp at hj; subst hj; exact q4
            case ht => exact fun j u hj => hzn.at j u (by simpa using hj)
            intro a' cap' w' k1 k2 k3
            exact fun _ k_ => k_ b0 b1 b2 b3 b4 b5 b6 b7 b8 b9 b10 true b12 b13 b14 x36 x37 x38 x39 x40 x41 x42 _ x44 x45 _ _ x48 x49 rfl rfl k2 (h1.trans k3) (fun e => by cases e) f0 f1 f2 f3 f4 f5 f6 (fun _ => rfl) (fun h => by obtain ⟨kd', a1', n1', c1', a2', n2', c2', a3', n3', c3', a4', n4', c4', e, t⟩ := f8 h; exact ⟨kd', a1', n1', c1', a2', n2', c2', a3', n3', c3', a4', n4', c4', e, t.step k3 (Nat.le_refl _)⟩) f9 (fun _ => ⟨z, rfl, hzB, k3.zb _ _ _ (.inr (.inr rfl)) hzz⟩) (fun _ => ⟨ek, eb, a', cap', rfl, k1⟩) f12 f13
          · have g3 := ready_pred hi ho 3
            have g4 := ready_pred hi ho 4
            obtain rfl := Option.some.inj ho
            have e3 := f3 (g3 (by kernel_rfl))
            subst e3
            have e4 := f4 (g4 (by kernel_rfl))
            subst e4
            go_simp
            exact fun _ k_ => k_ b0 b1 b2 b3 b4 b5 b6 b7 b8 b9 b10 b11 true b13 b14 x36 x37 x38 _ _ x41 x42 x43 x44 x45 x46 x47 _ x49 rfl rfl h0 h1 h2 f0 f1 f2 f3 f4 f5 f6 f7 f8 f9 f10 f11 (fun _ => rfl) f13
          · have g12 := ready_pred hi ho 12
            obtain rfl := Option.some.inj ho
            have e12 := f12 (g12 (by kernel_rfl))
            subst e12
            go_simp
            exact fun _ k_ => k_ b0 b1 b2 b3 b4 b5 b6 b7 b8 b9 b10 b11 b12 true b14 x36 x37 x38 x39 x40 x41 x42 x43 x44 x45 x46 x47 _ _ rfl rfl h0 h1 h2 f0 f1 f2 f3 f4 f5 f6 f7 f8 f9 f10 f11 f12 (fun _ => rfl)
          · have g13 := ready_pred hi ho 13
            have g11 := ready_pred hi ho 11
            obtain rfl := Option.some.inj ho
            have ea : b11 = true := g11 (by kernel_rfl)
            have ef := f13 (g13 (by kernel_rfl))
            obtain ⟨ek, eb, a', cap', ex, hsl⟩ := f11 ea
            subst ef ex
            have EB := hide (And.intro ea (And.intro ek eb))
            clear ea ek eb
            have hog := h1.zb _ _ _ (.inr (.inr rfl)) ho3
            obtain ⟨v9, c9, _, z9⟩ := h0.cell hog (.inr (.inr rfl)) hoB (i := k * 5 + 4) (by omega)
            have hkk : kindAt 26 (k * 5 + 4) = 4 := by simp [kindAt]
            obtain ⟨hZ9, hz9⟩ := h0.set (i := k * 5 + 4) (v := .slice a' (kn + 1) cap') (.inr (.inr rfl)) hoB hog (by rw [hkk]; exact hsl)
            clear f11
            go_simp
            exact fun _ k_ => k_ b0 b1 b2 b3 b4 b5 b6 b7 b8 b9 b10 b11 b12 b13 true x36 x37 x38 x39 x40 x41 x42 x43 x44 x45 x46 _ x48 _ rfl rfl hZ9 (h1.trans hz9) (fun e => by rw [(unhide EB).1] at e; cases e) f0 f1 f2 f3 f4 f5 f6 f7 (fun h => by obtain ⟨kd', a1', n1', c1', a2', n2', c2', a3', n3', c3', a4', n4', c4', e, t⟩ := f8 h; exact ⟨kd', a1', n1', c1', a2', n2', c2', a3', n3', c3', a4', n4', c4', e, t.step hz9 (Nat.le_refl _)⟩) f9 (fun h => by obtain ⟨z, e, hb, t⟩ := f10 h; exact ⟨z, e, hb, hz9.zb _ _ _ (.inr (.inr rfl)) t⟩) (fun _ => ⟨(unhide EB).2.1, (unhide EB).2.2, a', cap', rfl, ZSl.step (q := 2) hsl hz9 (Nat.le_refl _)⟩) f12 (fun _ => rfl)
        case dn =>
          intro L a w4 hI hre
          have hall := ready_all (L := L) (by refine hI _ ?_; intro b0 b1 b2 b3 b4 b5 b6 b7 b8 b9 b10 b11 b12 b13 b14 x36 x37 x38 x39 x40 x41 x42 x43 x44 x45 x46 x47 x48 x49 eL eA h0 h1 h2 f0 f1 f2 f3 f4 f5 f6 f7 f8 f9 f10 f11 f12 f13; subst eL; rfl) (by kernel_rfl) hre 15
          refine hI _ ?_
          clear hI
          intro b0 b1 b2 b3 b4 b5 b6 b7 b8 b9 b10 b11 b12 b13 b14 x36 x37 x38 x39 x40 x41 x42 x43 x44 x45 x46 x47 x48 x49 eL eA h0 h1 h2 f0 f1 f2 f3 f4 f5 f6 f7 f8 f9 f10 f11 f12 f13
          subst eL eA
          have s_ : b11 = true := hall 11 (by omega) (by decide)
          obtain ⟨_, _, a', cap', e1, hsl⟩ := f11 s_
          have s2 : b8 = true := hall 8 (by omega) (by decide)
          obtain ⟨kd', a1', n1', c1', a2', n2', c2', a3', n3', c3', a4', n4', c4', e2, hzn⟩ := f8 s2
          have e3 := f9 (hall 9 (by omega) (by decide))
          subst e1 e2 e3
          clear hall s_ s2 f0 f1 f2 f3 f4 f5 f6 f7 f8 f9 f10 f11 f12 f13 hre h2
          obtain ⟨_, _, _, e9, hq1, hq2, hq3, hq4⟩ := hsl
          cases e9
          obtain ⟨g9, rfl, hg9, hzb⟩ : ∃ g9, a' = some ⟨g9, 0, none⟩ ∧ B ≤ g9 ∧ ZB w4 g9 26 (cap' * 5) := by
            rcases hq4 with ⟨_, h⟩ | h
            · omega
            · exact h
          obtain ⟨_, _, _, _, _, q0, q1, q2, q3, q4, _, t0, t1, t2, t3, t4⟩ := h0.five hzb hg9 kn (by omega)
          obtain ⟨hZ5, hz5⟩ := h0.put5 hzb hg9 kn hzn
          have h15 := h1.trans hz5
          have HE := hide (show XQ w B (N + 1) xb k _ from ⟨hZ5, hZs3.trans h15.any, og, c, m + 1, ov, lx.zs h15 (by simp) notZ, hoB, hx2, hx3, h15.zb _ _ _ (.inr (.inr rfl)) ho3, hx5, hx6, hx7⟩)
          have hnl : (kn : Int) < (kn : Int) + 1 := by omega
          clear h0 h1 lx hzn hZ5 hz5 h15 hzb
          go_wp2_with fail
          go_end0
          exact ⟨⟨_, rfl⟩, unhide HE⟩
end Go.Proofs.YtaoodcielfabdaaGreat

/- spec.l3byte ends, in the zone. -/
namespace Go.Proofs.YtaoodcielfabdaaGreat
open Go.RowKit
set_option linter.unusedVariables false
set_option maxRecDepth 100000


theorem XQ.of {w w1 w' : World} {B N' xb k : Nat} (h : XQ w1 B N' xb k w') (z : Zs B [] w w1) : XQ w B N' xb k w' := ⟨h.1, z.any.trans h.2.1, h.2.2⟩
theorem XQ.after {w w1 w' : World} {B N N' xb k k' : Nat} (h : XQ w1 B N' xb k' w') (z : XQ w B N xb k w1) : XQ w B N' xb k' w' := ⟨h.1, z.2.1.trans h.2.1, h.2.2⟩
theorem XQ.mono {w w' : World} {B N N' xb k : Nat} (h : XQ w B N xb k w') (hN : N ≤ N') : XQ w B N' xb k w' := by
  obtain ⟨h1, h2, og, c, m, ov, a1, a2, a3, a4, a5, a6, a7, a8⟩ := h
  exact ⟨h1.mono hN, h2, og, c, m, ov, a1, a2, a3, a4, a5, a6, a7, by omega⟩
set_option maxHeartbeats 12800000 in
theorem l3byte_any (w : World) (B N xb k og c : Nat) (m : Int) (ov : Bool) (bx : Int) (hb0 : 0 ≤ bx) (hb1 : bx ≤ 255) (hZ : Zone w B N) (hB : B ≤ w.heap.size) (hX : XB w B N xb k og c m ov) (hxb : B ≤ xb) (hN : N ≤ 900000000) (hN1 : 1 ≤ N) :
    Calls Tryz.prog 121 #[.pointer (some ⟨xb, 0, none⟩), .int .u8 bx] w fun e w' => (∃ v, e = .returned v) ∧ XQ w B (N + 1) xb k w' := by
  have HX := hide hX
  obtain ⟨lx, x1, x2, x3, x4, x5, x6, x7⟩ := hX
  have y0 : w.cell? ⟨xb, 0, none⟩ = some (.slice (some ⟨og, 0, none⟩) (k + 1) c) := lx.cell 0
  obtain ⟨_, _, _, _, u4, _, _, _, _, e4, ⟨_, _, _, _, hk3⟩, _⟩ := hZ.five x4 x1 k (by omega)
  obtain ⟨ka, kn, kc, rfl, hkc, hkN, hkm, hkr⟩ := id hk3
  have hkl : (k : Int) < (k : Int) + 1 := by omega
  obtain ⟨hA, hAs⟩ := hZ.alloc (cs := #[.int .u8 bx]) (T := 5) hB (fun _ i v hv => by
    match i, hv with
    | 0, hv => simp at hv; subst hv; exact ⟨bx, rfl, hb0, hb1⟩)
  have hbx := ZB.made w #[.int .u8 bx] 5
  have hsz : (w.alloc (.cells #[.int .u8 bx] 5)).heap.size = w.heap.size + 1 := by simp
  have hput := l3put_any (w.alloc (.cells #[.int .u8 bx] 5)) B N xb k og c m ov 1 none 0 0 (some ⟨w.heap.size, 0, none⟩) 1 1 none 0 0 none 0 0 hA (by omega) ((unhide HX).zs hAs (Nat.le_refl _)) hxb ⟨⟨1, rfl⟩, znil _ B N 0, ⟨_, 1, 1, rfl, Nat.le_refl _, hN1, by decide, .inr ⟨_, rfl, hB, hbx⟩⟩, znil _ B N 1, znil _ B N 2⟩ hN
  have HP := hide (hput.mono (fun e w' (h : (∃ v, e = .returned v) ∧ XQ _ B (N + 1) xb k w') => (⟨h.1, XQ.of h.2 hAs⟩ : (∃ v, e = .returned v) ∧ XQ w B (N + 1) xb k w')))
  clear hput
  have HA := hide (And.intro hA (And.intro hAs (And.intro hbx hsz)))
  clear hA hAs hbx hsz
  rcases Nat.eq_zero_or_pos kn with rfl | hkp
  · go_enter Tryz.func121, Tryz.ntmps121
    go_wp2_with fail
    refine (unhide HP).mono ?_
    rintro e w' ⟨⟨v, rfl⟩, HE⟩
    go_wp2_with fail
    go_end0
    exact ⟨⟨_, rfl⟩, HE⟩
  obtain ⟨j, rfl⟩ : ∃ j, kn = j + 1 := ⟨kn - 1, by omega⟩
  obtain ⟨kg, rfl, hkB, hkz⟩ : ∃ kg, ka = some ⟨kg, 0, none⟩ ∧ B ≤ kg ∧ ZB w kg 26 (kc * 5) := by
    rcases hkr with ⟨_, h⟩ | h
    · omega
    · exact h
  obtain ⟨u0, u1, u2, u3, u4', q0, q1, q2, q3, q4, ⟨⟨kd, rfl⟩, _, h2, _, _⟩, _, _, z2, _, _⟩ := hZ.five hkz hkB j (by omega)
  obtain ⟨a2, n2, c2, rfl, hn2, hnN, hcm2, hr2⟩ := id h2
  have hj0 : (0 : Int) < (j : Int) + 1 := by omega
  have hjl : (j : Int) < (j : Int) + 1 := by omega
  clear q1 q3 q4
  by_cases hkd : kd = 1
  · subst hkd
    by_cases h30 : n2 < 30
    · have h30' : (n2 : Int) < 30 := by omega
      clear HP
      obtain ⟨iz, hty⟩ := zty0
      obtain ⟨hA, hAs, hbx, hsz⟩ := unhide HA
      have hs2 := ZSl.step (q := 0) h2 hAs (Nat.le_refl _)
      have HH := hide (And.intro hA (And.intro hAs (And.intro hs2 hsz)))
      clear hA hAs hs2 hsz hbx HA lx
      go_enter Tryz.func121, Tryz.ntmps121
      go_wp2_with (at_builtin; refine wpList_zapp hty rfl _ _ rfl (unhide HH).1 (by rw [(unhide HH).2.2.2]; omega) a2 n2 c2 rfl (unhide HH).2.2.1 ⟨w.heap.size, 0, none⟩ 1 1 [.int .u8 bx] rfl rfl (cell_one_new _ _ _) ?ht (Nat.le_succ N) (by omega) (by omega) ?_)
      case ht =>
        intro i v hv
        match i, hv with
        | 0, hv => simp at hv; subst hv; exact ⟨bx, rfl, hb0, hb1⟩
      intro a' cap' w' k1 k2 k3
      obtain ⟨_, hAs, _, _⟩ := unhide HH
      have hz' := hAs.trans k3
      clear HH
      have hkz' := hz'.zb _ _ _ (.inr (.inr rfl)) hkz
      obtain ⟨_, _, _, _, _, _, _, r2, _, _, _, _, _, t2, _, _⟩ := k2.five hkz' hkB j (by omega)
      have hkk : kindAt 26 (j * 5 + 2) = 2 := by have : (j * 5 + 2) % 5 = 2 := by omega
                                                 simp [kindAt, this]
      obtain ⟨hZ9, hz9⟩ := k2.set (i := j * 5 + 2) (v := .slice a' (n2 + 1) cap') (.inr (.inr rfl)) hkB hkz' (by rw [hkk]; exact k1)
      have hzz := hz'.trans hz9
      have HE := hide (show XQ w B (N + 1) xb k (w'.setCell ⟨kg, j * 5 + 2, none⟩ (.slice a' (n2 + 1) cap')) from ⟨hZ9, hzz.any, og, c, m, ov, (unhide HX).zs hzz (Nat.le_succ _)⟩)
      clear k1 k2 k3 hz' hkz' hZ9 hz9 hzz q0 q2
      go_wp2_with fail
      exact bodyPost_ret (results_none rfl _ _ _) rfl ⟨⟨_, rfl⟩, unhide HE⟩
    · have h30' : ¬ (n2 : Int) < 30 := by omega
      go_enter Tryz.func121, Tryz.ntmps121
      go_wp2_with fail
      refine (unhide HP).mono ?_
      rintro e w' ⟨⟨v, rfl⟩, HE⟩
      go_wp2_with fail
      go_end0
      exact ⟨⟨_, rfl⟩, HE⟩
  · have hkd' : (kd == 1) = false := by simpa using hkd
    go_enter Tryz.func121, Tryz.ntmps121
    go_wp2_with fail
    refine (unhide HP).mono ?_
    rintro e w' ⟨⟨v, rfl⟩, HE⟩
    go_wp2_with fail
    go_end0
    exact ⟨⟨_, rfl⟩, HE⟩
end Go.Proofs.YtaoodcielfabdaaGreat

/- spec.l3open ends, in the zone. -/
namespace Go.Proofs.YtaoodcielfabdaaGreat
open Go.RowKit
set_option linter.unusedVariables false
set_option maxRecDepth 100000

def Lo6 (w3 : World) (B N xb k og c pb : Nat) (m : Int) (ov : Bool) (kd : Int) (a1 : Option Addr) (n1 c1 : Nat) (a2 : Option Addr) (n2 c2 : Nat) (a3 : Option Addr) (n3 c3 : Nat) (a4 : Option Addr) (n4 c4 : Nat) (L : Array Bool) (a : Act) (w : World) : Prop :=
  ∀ C : Prop, (∀ (b0 b1 b2 b3 b4 b5 b6 b7 b8 b9 b10 b11 b12 : Bool) (x33 x34 x35 x36 x37 x38 x39 x40 x41 x42 x43 : Value), L = #[b0, b1, b2, b3, b4, b5, b6, b7, b8, b9, b10, b11, b12] → a = { tmps := #[.pointer (some ⟨xb, 0, none⟩), .agg #[.int .i64 kd, .slice a1 n1 c1, .slice a2 n2 c2, .slice a3 n3 c3, .slice a4 n4 c4], undef, .pointer (some ⟨pb, 0, none⟩), .pointer (some ⟨pb, 1, none⟩), .slice a1 n1 c1, .bool false, undef, undef, undef, .pointer (some ⟨xb, 0, none⟩), .pointer (some ⟨xb, 0, none⟩), .pointer (some ⟨xb, 1, none⟩), .int .i64 m, .int .i64 (m + 1), .pointer (some ⟨xb, 0, none⟩), .pointer (some ⟨xb, 1, none⟩), .pointer (some ⟨xb, 0, none⟩), .pointer (some ⟨xb, 0, none⟩), .pointer (some ⟨xb, 1, none⟩), .int .i64 (m + 1), .bool (decide ((120 : Int) < m + 1)), .bool (decide ((120 : Int) < m + 1)), .pointer (some ⟨xb, 0, none⟩), .pointer (some ⟨xb, 0, none⟩), .pointer (some ⟨xb, 0, none⟩), .slice (some ⟨og, 0, none⟩) (k + 1) c, .int .i64 ((k : Int) + 1), .bool (decide ((20 : Int) ≤ (k : Int) + 1)), .bool (decide ((120 : Int) < m + 1) || decide ((20 : Int) ≤ (k : Int) + 1)), undef, undef, undef, x33, x34, x35, x36, x37, x38, x39, x40, x41, x42, x43], defers := [] } → Zone w B (N + 1) → Zs B [xb] w3 w → (b12 = false → Loc w xb #[.slice (some ⟨og, 0, none⟩) (k + 1) c, .int .i64 (m + 1), .bool ov] 134) → (b12 = true → b7 = true ∧ Loc w xb #[x40, .int .i64 (m + 1), .bool ov] 134) → (b0 = true → x33 = .pointer (some ⟨xb, 0, none⟩)) → (b1 = true → x34 = .pointer (some ⟨xb, 0, none⟩)) → (b2 = true → x35 = .pointer (some ⟨xb, 0, none⟩)) → (b3 = true → x36 = .slice (some ⟨og, 0, none⟩) (k + 1) c) → (b4 = true → ∃ kd' a1' n1' c1' a2' n2' c2' a3' n3' c3' a4' n4' c4', x37 = .agg #[.int .i64 kd', .slice a1' n1' c1', .slice a2' n2' c2', .slice a3' n3' c3', .slice a4' n4' c4'] ∧ ZN w B (N + 1) (.int .i64 kd') (.slice a1' n1' c1') (.slice a2' n2' c2') (.slice a3' n3' c3') (.slice a4' n4' c4')) → (b5 = true → x38 = .int .i64 ((k : Int) + 1)) → (b6 = true → ∃ z, x39 = .slice (some ⟨z, 0, none⟩) 1 1 ∧ B ≤ z ∧ ZB w z 26 5) → (b7 = true → b3 = true ∧ b6 = true ∧ ∃ g' cap', x40 = .slice (some ⟨g', 0, none⟩) (k + 1 + 1) cap' ∧ B ≤ g' ∧ k + 1 + 1 ≤ cap' ∧ cap' ≤ maxLen ∧ ZB w g' 26 (cap' * 5)) → (b8 = true → b7 = true ∧ b5 = true ∧ ∃ g' cap', x40 = .slice (some ⟨g', 0, none⟩) (k + 1 + 1) cap' ∧ x41 = .pointer (some ⟨g', (k + 1) * 5, none⟩)) → (b10 = true → x42 = .pointer (some ⟨xb, 0, none⟩)) → (b11 = true → x43 = .pointer (some ⟨xb, 0, none⟩)) → C) → C
theorem Lo6_cases {i : Nat} (h : i < 13) : i = 0 ∨ i = 1 ∨ i = 2 ∨ i = 3 ∨ i = 4 ∨ i = 5 ∨ i = 6 ∨ i = 7 ∨ i = 8 ∨ i = 9 ∨ i = 10 ∨ i = 11 ∨ i = 12 := by omega

set_option maxHeartbeats 12800000 in
theorem l3open_any (w : World) (B N xb k og c : Nat) (m : Int) (ov : Bool) (kd : Int) (a1 : Option Addr) (n1 c1 : Nat) (a2 : Option Addr) (n2 c2 : Nat) (a3 : Option Addr) (n3 c3 : Nat) (a4 : Option Addr) (n4 c4 : Nat) (hZ : Zone w B N) (hB : B ≤ w.heap.size) (hX : XB w B N xb k og c m ov) (hxb : B ≤ xb) (hn : ZN w B N (.int .i64 kd) (.slice a1 n1 c1) (.slice a2 n2 c2) (.slice a3 n3 c3) (.slice a4 n4 c4)) (hN : N ≤ 900000000) (hN1 : 100 ≤ N) :
    Calls Tryz.prog 154 #[.pointer (some ⟨xb, 0, none⟩), .agg #[.int .i64 kd, .slice a1 n1 c1, .slice a2 n2 c2, .slice a3 n3 c3, .slice a4 n4 c4]] w fun e w' => (∃ v, e = .returned v) ∧ ∃ k', XQ w B (N + 1) xb k' w' := by
  obtain ⟨hA, hAs⟩ := hZ.alloc (cs := #[.int .i64 kd, .slice a1 n1 c1, .slice a2 n2 c2, .slice a3 n3 c3, .slice a4 n4 c4]) (T := 26) hB (fun _ => hn.at)
  have hXA := hX.zs hAs (Nat.le_refl _)
  have hbx := ZB.made w #[.int .i64 kd, .slice a1 n1 c1, .slice a2 n2 c2, .slice a3 n3 c3, .slice a4 n4 c4] 26
  have hlb := Loc.made w #[.int .i64 kd, .slice a1 n1 c1, .slice a2 n2 c2, .slice a3 n3 c3, .slice a4 n4 c4] 26
  have hnA := hn.step hAs (Nat.le_refl _)
  have hne : xb ≠ w.heap.size := by have := hX.1.lt; omega
  have hsz : (w.alloc (.cells #[.int .i64 kd, .slice a1 n1 c1, .slice a2 n2 c2, .slice a3 n3 c3, .slice a4 n4 c4] 26)).heap.size = w.heap.size + 1 := by simp
  have LL := hide (And.intro hA (And.intro hAs (And.intro hXA (And.intro hbx (And.intro hlb (And.intro hnA hsz))))))
  clear hA hAs hXA hbx hsz hZ hX hlb hnA hn
  go_enter Tryz.func154, Tryz.ntmps154
  go_upto_region 1 with fail
  generalize (w.alloc (.cells #[.int .i64 kd, .slice a1 n1 c1, .slice a2 n2 c2, .slice a3 n3 c3, .slice a4 n4 c4] 26)) = w1 at *
  obtain ⟨hA, hAs, hXA, hbx, hlb, hnA, hsz⟩ := unhide LL
  clear LL
  generalize hpb : w.heap.size = pb at *
  obtain ⟨nl, hby, _⟩ := hA.byt hnA.2.1 (by omega)
  have HV := hide (l2void_ends w1 _ _ hby)
  have z0 : w1.cell? ⟨pb, 0, none⟩ = some (.int .i64 kd) := hlb.cell 0
  have z1 : w1.cell? ⟨pb, 1, none⟩ = some (.slice a1 n1 c1) := hlb.cell 1
  have z2 : w1.cell? ⟨pb, 2, none⟩ = some (.slice a2 n2 c2) := hlb.cell 2
  have z3 : w1.cell? ⟨pb, 3, none⟩ = some (.slice a3 n3 c3) := hlb.cell 3
  have z4 : w1.cell? ⟨pb, 4, none⟩ = some (.slice a4 n4 c4) := hlb.cell 4
  have HP := hide ((l3put_any w1 B N xb k og c m ov kd a1 n1 c1 a2 n2 c2 a3 n3 c3 a4 n4 c4 hA (by omega) hXA hxb hnA hN).mono (fun e w' (h : (∃ v, e = .returned v) ∧ XQ _ B (N + 1) xb k w') => (⟨h.1, k, XQ.of h.2 hAs⟩ : (∃ v, e = .returned v) ∧ ∃ k', XQ w B (N + 1) xb k' w')))
  have HA := hide (And.intro hA (And.intro hAs (And.intro hXA hbx)))
  clear hA hAs hXA hbx hlb hnA hby
  go_wp2_with fail
  refine (unhide HV).mono ?_
  rintro e w1 ⟨hv, rfl⟩
  clear HV
  rcases hv with rfl | rfl
  · go_wp2_with fail
    refine (unhide HP).mono ?_
    rintro e w' ⟨⟨v, rfl⟩, HE⟩
    go_wp2_with fail
    exact bodyPost_ret (results_none rfl _ _ _) rfl ⟨⟨_, rfl⟩, HE⟩
  clear HP z0 z1 z2 z3 z4
  obtain ⟨hA, hAs, hXA, hbx⟩ := unhide HA
  clear HA
  obtain ⟨lx, x1, x2, x3, x4, x5, x6, x7⟩ := hXA
  have y0 : w1.cell? ⟨xb, 0, none⟩ = some (.slice (some ⟨og, 0, none⟩) (k + 1) c) := lx.cell 0
  have y1 : w1.cell? ⟨xb, 1, none⟩ = some (.int .i64 m) := lx.cell 1
  have y2 : w1.cell? ⟨xb, 2, none⟩ = some (.bool ov) := lx.cell 2
  have f1 := lx.frozen 1
  have f2 := lx.frozen 2
  have l2 := lx.set 1 (.int .i64 (m + 1))
  obtain ⟨hZ2, hZs2⟩ := hA.box lx notZ hxb 1 (.int .i64 (m + 1))
  simp at l2
  by_cases hov : 120 < m + 1 ∨ 19 ≤ k
  · have l3 := l2.set 2 (.bool true)
    obtain ⟨hZ3, hZs3⟩ := hZ2.box l2 notZ hxb 2 (.bool true)
    simp at l3
    have HE := hide (show ∃ k', XQ w B (N + 1) xb k' ((w1.setCell ⟨xb, 1, none⟩ (.int .i64 (m + 1))).setCell ⟨xb, 2, none⟩ (.bool true)) from ⟨k, hZ3.mono (by omega), (hAs.any.trans hZs2).trans hZs3, og, c, m + 1, true, l3, x1, x2, x3, hZs3.zb _ _ _ (.inr (.inr rfl)) (hZs2.zb _ _ _ (.inr (.inr rfl)) x4), x5, by omega, by omega⟩)
    clear l2 l3 hZ2 hZ3 hZs2 hZs3 hA hAs hbx lx x4
    by_cases hm : 120 < m + 1
    · clear hov
      go_wp2_with fail
      exact bodyPost_ret (results_none rfl _ _ _) rfl ⟨⟨_, rfl⟩, unhide HE⟩
    · have hk20 : (20 : Int) ≤ (k : Int) + 1 := by omega
      have hm' : ¬ (120 : Int) < m + 1 := hm
      clear hov hm
      go_wp2_with fail
      exact bodyPost_ret (results_none rfl _ _ _) rfl ⟨⟨_, rfl⟩, unhide HE⟩
  have hm : ¬ (120 : Int) < m + 1 := fun h => hov (.inl h)
  have hk' : k < 19 := by omega
  clear hov
  have hZ2s := hAs.any.trans hZs2
  have hb2 := hZs2.zb _ _ _ (.inr (.inr rfl)) hbx
  have ho2 := hZs2.zb _ _ _ (.inr (.inr rfl)) x4
  have LL := hide (And.intro hZ2 (And.intro hZ2s (And.intro l2 (And.intro hb2 ho2))))
  clear l2 hZ2 hZs2 hA hAs hbx lx hZ2s hb2 x4 ho2
  go_upto_region 6 with fail
  obtain ⟨hZ3, hZs3, lx, hb3, ho3⟩ := unhide LL
  clear LL y0 y1 y2 f1 f2
  generalize (w1.setCell ⟨xb, 1, none⟩ (.int .i64 (m + 1))) = w3 at *
  have hB3 : B ≤ w3.heap.size := by have := hZs3.size; omega
  replace hb3 : ZB w3 pb 26 5 := hb3
  have hpB : B ≤ pb := hB
  have hoB := x1
  have hx2 := x2
  have hx3 := x3
  have hkl : (k : Int) + 1 < (k : Int) + 1 + 1 := by omega
  refine region_inv (by kernel_rfl) (Lo6 w3 B N xb k og c pb m ov kd a1 n1 c1 a2 n2 c2 a3 n3 c3 a4 n4 c4) ?sz ?h0 ?step ?dn
  case sz =>
    intro L a w hI
    refine hI _ ?_
    intro b0 b1 b2 b3 b4 b5 b6 b7 b8 b9 b10 b11 b12 x33 x34 x35 x36 x37 x38 x39 x40 x41 x42 x43 eL eA h0 h1 h2 h3 f0 f1 f2 f3 f4 f5 f6 f7 f8 f10 f11
    subst eL
    rfl
  case h0 =>
    exact fun _ k_ => k_ false false false false false false false false false false false false false _ _ _ _ _ _ _ _ _ _ _ rfl rfl (hZ3.mono (Nat.le_succ _)) (Zs.refl B [xb] w3).drew (fun _ => lx) (fun e => by cases e) (fun h => by cases h) (fun h => by cases h) (fun h => by cases h) (fun h => by cases h) (fun h => by cases h) (fun h => by cases h) (fun h => by cases h) (fun h => by cases h) (fun h => by cases h) (fun h => by cases h) (fun h => by cases h)
  case step =>
    intro L a w i o hI hi ho
    refine hI _ ?_
    clear hI
    intro b0 b1 b2 b3 b4 b5 b6 b7 b8 b9 b10 b11 b12 x33 x34 x35 x36 x37 x38 x39 x40 x41 x42 x43 eL eA h0 h1 h2 h3 f0 f1 f2 f3 f4 f5 f6 f7 f8 f10 f11
    subst eL eA
    rcases Lo6_cases (ready_lt hi) with rfl | rfl | rfl | rfl | rfl | rfl | rfl | rfl | rfl | rfl | rfl | rfl | rfl
    · obtain rfl := Option.some.inj ho
      go_simp
      exact fun _ k_ => k_ true b1 b2 b3 b4 b5 b6 b7 b8 b9 b10 b11 b12 _ x34 x35 x36 x37 x38 x39 x40 x41 x42 x43 rfl rfl h0 h1 h2 h3 (fun _ => rfl) f1 f2 f3 f4 f5 f6 f7 f8 f10 f11
    · have g0 := ready_pred hi ho 0
      obtain rfl := Option.some.inj ho
      have e0 := f0 (g0 (by kernel_rfl))
      subst e0
      go_simp
      exact fun _ k_ => k_ b0 true b2 b3 b4 b5 b6 b7 b8 b9 b10 b11 b12 _ _ x35 x36 x37 x38 x39 x40 x41 x42 x43 rfl rfl h0 h1 h2 h3 f0 (fun _ => rfl) f2 f3 f4 f5 f6 f7 f8 f10 f11
    · have g1 := ready_pred hi ho 1
      obtain rfl := Option.some.inj ho
      have e1 := f1 (g1 (by kernel_rfl))
      subst e1
      go_simp
      exact fun _ k_ => k_ b0 b1 true b3 b4 b5 b6 b7 b8 b9 b10 b11 b12 x33 _ _ x36 x37 x38 x39 x40 x41 x42 x43 rfl rfl h0 h1 h2 h3 f0 f1 (fun _ => rfl) f3 f4 f5 f6 f7 f8 f10 f11
    · have g2 := ready_pred hi ho 2
      obtain rfl := Option.some.inj ho
      have e2 := f2 (g2 (by kernel_rfl))
      subst e2
      have hbz : b3 = false := by simpa using ready_off rfl hi
      have lw := h2 (by cases hb : b12 with
        | false => rfl
        | true => have := (f7 (h3 hb).1).1; rw [hbz] at this; cases this)
      have co : w.cell? ⟨xb, 0, none⟩ = some (.slice (some ⟨og, 0, none⟩) (k + 1) c) := lw.cell 0
      clear hbz lw
      go_simp
      exact fun _ k_ => k_ b0 b1 b2 true b4 b5 b6 b7 b8 b9 b10 b11 b12 x33 x34 _ _ x37 x38 x39 x40 x41 x42 x43 rfl rfl h0 h1 h2 h3 f0 f1 f2 (fun _ => rfl) f4 f5 f6 (fun h => ⟨rfl, (f7 h).2⟩) f8 f10 f11
    · obtain rfl := Option.some.inj ho
      have hbp := h1.zb _ _ _ (.inr (.inr rfl)) hb3
      obtain ⟨u0, u1, u2, u3, u4, e0, e1, e2, e3, e4, hzn, _⟩ := h0.five hbp hpB 0 (by decide)
      obtain ⟨kd', a1', n1', c1', a2', n2', c2', a3', n3', c3', a4', n4', c4', rfl, rfl, rfl, rfl, rfl⟩ := hzn.shape
      simp only [Nat.zero_mul, Nat.zero_add] at e0 e1 e2 e3 e4
      go_simp
      exact fun _ k_ => k_ b0 b1 b2 b3 true b5 b6 b7 b8 b9 b10 b11 b12 x33 x34 x35 x36 _ x38 x39 x40 x41 x42 x43 rfl rfl h0 h1 h2 h3 f0 f1 f2 f3 (fun _ => ⟨kd', a1', n1', c1', a2', n2', c2', a3', n3', c3', a4', n4', c4', rfl, hzn⟩) f5 f6 f7 f8 f10 f11
    · have g3 := ready_pred hi ho 3
      obtain rfl := Option.some.inj ho
      have e3 := f3 (g3 (by kernel_rfl))
      subst e3
      go_simp
      exact fun _ k_ => k_ b0 b1 b2 b3 b4 true b6 b7 b8 b9 b10 b11 b12 x33 x34 x35 _ x37 _ x39 x40 x41 x42 x43 rfl rfl h0 h1 h2 h3 f0 f1 f2 f3 f4 (fun _ => rfl) f6 f7 (fun h => ⟨(f8 h).1, rfl, (f8 h).2.2⟩) f10 f11
    · obtain rfl := Option.some.inj ho
      have hbz : b6 = false := by simpa using ready_off rfl hi
      have hap : b7 = false := by cases hb : b7 with
        | false => rfl
        | true => have := (f7 hb).2.1; rw [hbz] at this; cases this
      have hBw : B ≤ w.heap.size := Nat.le_trans hB3 h1.size
      obtain ⟨hZ9, hz9⟩ := h0.alloc (cs := #[.int .i64 0, .slice none 0 0, .slice none 0 0, .slice none 0 0, .slice none 0 0]) (T := 26) hBw (fun _ => (ZN.zero w B (N + 1)).at)
      have hm9 := ZB.made w #[.int .i64 0, .slice none 0 0, .slice none 0 0, .slice none 0 0, .slice none 0 0] 26
      have hgz : B ≤ w.heap.size := hBw
      have HAP := hide hap
      have HL2 := hide (fun e => (h2 e).zs hz9 (by simp) notZ)
      clear hap hbz h2
      go_simp
      exact fun _ k_ => k_ b0 b1 b2 b3 b4 b5 true b7 b8 b9 b10 b11 b12 x33 x34 x35 x36 x37 x38 _ x40 x41 x42 x43 rfl rfl hZ9 (h1.trans hz9.any) (unhide HL2) (fun e => by have h := (h3 e).1; rw [unhide HAP] at h; cases h) f0 f1 f2 f3 (fun h => by obtain ⟨kd', a1', n1', c1', a2', n2', c2', a3', n3', c3', a4', n4', c4', e, t⟩ := f4 h; exact ⟨kd', a1', n1', c1', a2', n2', c2', a3', n3', c3', a4', n4', c4', e, t.step hz9 (Nat.le_refl _)⟩) f5 (fun _ => ⟨w.heap.size, rfl, hgz, hm9⟩) (fun h => by rw [unhide HAP] at h; cases h) f8 f10 f11
    · have g3 := ready_pred hi ho 3
      have g6 := ready_pred hi ho 6
      have hbz : b7 = false := by simpa using ready_off rfl hi
      obtain rfl := Option.some.inj ho
      have ek : b3 = true := g3 (by kernel_rfl)
      have eb : b6 = true := g6 (by kernel_rfl)
      have e1 := f3 ek
      obtain ⟨z, ez, hzB, hzz⟩ := f6 eb
      subst e1 ez
      obtain ⟨u0, u1, u2, u3, u4, q0, q1, q2, q3, q4, hzn, _⟩ := h0.five hzz hzB 0 (by decide)
      simp only [Nat.zero_mul, Nat.zero_add] at q0 q1 q2 q3 q4
      obtain ⟨iz, hty⟩ := zty2
      refine step_zapp hty (by rfl) (.tmp 36) (.tmp 39) (by rfl) h0 (Nat.le_trans hB3 h1.size) (some ⟨og, 0, none⟩) (k + 1) c (by rfl) ⟨_, _, _, rfl, hx2, by omega, hx3, .inr ⟨og, rfl, hoB, h1.zb _ _ _ (.inr (.inr rfl)) ho3⟩⟩ ⟨z, 0, none⟩ 1 1 [u0, u1, u2, u3, u4] (by rfl) rfl ?hc ?ht (Nat.le_refl _) (by omega) (by omega) ?_
      case hc =>
        intro j u hj
        match j, hj with
        | 0, hj => simp at hj; subst hj; exact q0
        | 1, hj => simp at hj; subst hj; exact q1
        | 2, hj => simp at hj; subst hj; exact q2
        | 3, hj => simp at hj; subst hj; exact q3
        | 4, hj => simp at hj; subst hj; exact q4
      case ht => exact fun j u hj => hzn.at j u (by simpa using hj)
      intro a' cap' w' k1 k2 k3
      obtain ⟨_, _, _, e9, hq1, hq2, hq3, hq4⟩ := k1
      cases e9
      obtain ⟨g9, rfl, hg9, hzb⟩ : ∃ g9, a' = some ⟨g9, 0, none⟩ ∧ B ≤ g9 ∧ ZB w' g9 26 (cap' * 5) := by
        rcases hq4 with ⟨_, h⟩ | h
        · omega
        · exact h
      exact fun _ k_ => k_ b0 b1 b2 b3 b4 b5 b6 true b8 b9 b10 b11 b12 x33 x34 x35 _ x37 x38 _ _ x41 x42 x43 rfl rfl k2 (h1.trans k3.any) (fun e => (h2 e).zs k3 (by simp) notZ) (fun e => by have h := (h3 e).1; rw [hbz] at h; cases h) f0 f1 f2 (fun _ => rfl) (fun h => by obtain ⟨kd', a1', n1', c1', a2', n2', c2', a3', n3', c3', a4', n4', c4', e, t⟩ := f4 h; exact ⟨kd', a1', n1', c1', a2', n2', c2', a3', n3', c3', a4', n4', c4', e, t.step k3 (Nat.le_refl _)⟩) f5 (fun _ => ⟨z, rfl, hzB, k3.zb _ _ _ (.inr (.inr rfl)) hzz⟩) (fun _ => ⟨ek, eb, g9, cap', rfl, hg9, hq1, hq3, hzb⟩) (fun h => by have h := (f8 h).1; rw [hbz] at h; cases h) f10 f11
    · have g7 := ready_pred hi ho 7
      have g5 := ready_pred hi ho 5
      obtain rfl := Option.some.inj ho
      have e7 : b7 = true := g7 (by kernel_rfl)
      have e5 : b5 = true := g5 (by kernel_rfl)
      have e38 := f5 e5
      obtain ⟨e3, e6, g', cap', e40, t1, t2, t3, t4⟩ := f7 e7
      subst e38 e40
      have EB := hide (And.intro e7 (And.intro e5 (And.intro e3 e6)))
      clear e7 e5 e3 e6 f7 f8
      go_simp
      exact fun _ k_ => k_ b0 b1 b2 b3 b4 b5 b6 b7 true b9 b10 b11 b12 x33 x34 x35 x36 x37 _ x39 _ _ x42 x43 rfl rfl h0 h1 h2 h3 f0 f1 f2 f3 f4 (fun _ => rfl) f6 (fun _ => ⟨(unhide EB).2.2.1, (unhide EB).2.2.2, g', cap', rfl, t1, t2, t3, t4⟩) (fun _ => ⟨(unhide EB).1, (unhide EB).2.1, g', cap', rfl, rfl⟩) f10 f11
    · have g8 := ready_pred hi ho 8
      have g4 := ready_pred hi ho 4
      obtain rfl := Option.some.inj ho
      have e8 : b8 = true := g8 (by kernel_rfl)
      have e4 : b4 = true := g4 (by kernel_rfl)
      obtain ⟨kd', a1', n1', c1', a2', n2', c2', a3', n3', c3', a4', n4', c4', e37, hzn⟩ := f4 e4
      obtain ⟨e7, e5, g', cap', e40, e41⟩ := f8 e8
      obtain ⟨e3, e6, g1, cap1, e40', t1, t2, t3, t4⟩ := f7 e7
      subst e37 e40 e41
      cases e40'
      have EB := hide (And.intro e7 (And.intro e5 (And.intro e3 e6)))
      obtain ⟨_, _, _, _, _, q0, q1, q2, q3, q4, _, r0, r1, r2, r3, r4⟩ := h0.five t4 t1 (k + 1) (by omega)
      obtain ⟨hZ9, hz9⟩ := h0.put5 t4 t1 (k + 1) hzn
      have HL2 := hide (fun e => (h2 e).zs hz9 (by simp) notZ)
      have HL3 := hide (fun e => (⟨(h3 e).1, (h3 e).2.zs hz9 (by simp) notZ⟩ : _ ∧ _))
      clear e7 e5 e3 e6 e8 e4 f7 f8 f4 h2 h3
      go_simp
      exact fun _ k_ => k_ b0 b1 b2 b3 b4 b5 b6 b7 b8 true b10 b11 b12 x33 x34 x35 x36 _ x38 x39 _ _ x42 x43 rfl rfl hZ9 (h1.trans hz9.any) (unhide HL2) (unhide HL3) f0 f1 f2 f3 (fun _ => ⟨kd', a1', n1', c1', a2', n2', c2', a3', n3', c3', a4', n4', c4', rfl, hzn.step hz9 (Nat.le_refl _)⟩) f5 (fun h => by obtain ⟨z, e, hb, t⟩ := f6 h; exact ⟨z, e, hb, hz9.zb _ _ _ (.inr (.inr rfl)) t⟩) (fun _ => ⟨(unhide EB).2.2.1, (unhide EB).2.2.2, g', cap', rfl, t1, t2, t3, hz9.zb _ _ _ (.inr (.inr rfl)) t4⟩) (fun _ => ⟨(unhide EB).1, (unhide EB).2.1, g', cap', rfl, rfl⟩) f10 f11
    · have g0 := ready_pred hi ho 0
      obtain rfl := Option.some.inj ho
      have e0 := f0 (g0 (by kernel_rfl))
      subst e0
      go_simp
      exact fun _ k_ => k_ b0 b1 b2 b3 b4 b5 b6 b7 b8 b9 true b11 b12 _ x34 x35 x36 x37 x38 x39 x40 x41 _ x43 rfl rfl h0 h1 h2 h3 f0 f1 f2 f3 f4 f5 f6 f7 f8 (fun _ => rfl) f11
    · have g10 := ready_pred hi ho 10
      obtain rfl := Option.some.inj ho
      have e10 := f10 (g10 (by kernel_rfl))
      subst e10
      go_simp
      exact fun _ k_ => k_ b0 b1 b2 b3 b4 b5 b6 b7 b8 b9 b10 true b12 x33 x34 x35 x36 x37 x38 x39 x40 x41 _ _ rfl rfl h0 h1 h2 h3 f0 f1 f2 f3 f4 f5 f6 f7 f8 f10 (fun _ => rfl)
    · have g11 := ready_pred hi ho 11
      have g7 := ready_pred hi ho 7
      have hbz : b12 = false := by simpa using ready_off rfl hi
      obtain rfl := Option.some.inj ho
      have e43 := f11 (g11 (by kernel_rfl))
      have e7 : b7 = true := g7 (by kernel_rfl)
      obtain ⟨e3, e6, g', cap', e40, t1, t2, t3, t4⟩ := f7 e7
      subst e43 e40
      have lw := h2 hbz
      obtain ⟨hZ9, hz9⟩ := h0.box lw notZ hxb 0 (.slice (some ⟨g', 0, none⟩) (k + 1 + 1) cap')
      have l9 := lw.set 0 (.slice (some ⟨g', 0, none⟩) (k + 1 + 1) cap')
      simp at l9
      have c9 : w.cell? ⟨xb, 0, none⟩ = some (.slice (some ⟨og, 0, none⟩) (k + 1) c) := lw.cell 0
      have z9 := lw.frozen 0
      have EB := hide (And.intro e7 (And.intro e3 (And.intro e6 (And.intro hZ9 (And.intro hz9 l9)))))
      clear e7 e3 e6 f7 hbz lw h2 h3 hZ9 hz9 l9
      go_simp
      obtain ⟨e7, e3, e6, hZ9, hz9, l9⟩ := unhide EB
      exact fun _ k_ => k_ b0 b1 b2 b3 b4 b5 b6 b7 b8 b9 b10 b11 true x33 x34 x35 x36 x37 x38 x39 _ x41 x42 _ rfl rfl hZ9 (h1.trans hz9) (fun e => by cases e) (fun _ => ⟨e7, l9⟩) f0 f1 f2 f3 (fun h => by obtain ⟨kd', a1', n1', c1', a2', n2', c2', a3', n3', c3', a4', n4', c4', e, t⟩ := f4 h; exact ⟨kd', a1', n1', c1', a2', n2', c2', a3', n3', c3', a4', n4', c4', e, t.step hz9 (Nat.le_refl _)⟩) f5 (fun h => by obtain ⟨z, e, hb, t⟩ := f6 h; exact ⟨z, e, hb, hz9.zb _ _ _ (.inr (.inr rfl)) t⟩) (fun _ => ⟨e3, e6, g', cap', rfl, t1, t2, t3, hz9.zb _ _ _ (.inr (.inr rfl)) t4⟩) f8 f10 (fun _ => rfl)
  case dn =>
    intro L a w4 hI hre
    have hall := ready_all (L := L) (by refine hI _ ?_; intro b0 b1 b2 b3 b4 b5 b6 b7 b8 b9 b10 b11 b12 x33 x34 x35 x36 x37 x38 x39 x40 x41 x42 x43 eL eA h0 h1 h2 h3 f0 f1 f2 f3 f4 f5 f6 f7 f8 f10 f11; subst eL; rfl) (by kernel_rfl) hre 13
    refine hI _ ?_
    clear hI
    intro b0 b1 b2 b3 b4 b5 b6 b7 b8 b9 b10 b11 b12 x33 x34 x35 x36 x37 x38 x39 x40 x41 x42 x43 eL eA h0 h1 h2 h3 f0 f1 f2 f3 f4 f5 f6 f7 f8 f10 f11
    subst eL eA
    have e12 : b12 = true := hall 12 (by omega) (by decide)
    obtain ⟨e7, lw⟩ := h3 e12
    obtain ⟨_, _, g', cap', e40, t1, t2, t3, t4⟩ := f7 e7
    subst e40
    have HE := hide (show ∃ k', XQ w B (N + 1) xb k' w4 from ⟨k + 1, h0, hZs3.trans h1, g', cap', m + 1, ov, lw, t1, t2, t3, t4, by omega, by omega, by omega⟩)
    clear hall hre h0 h1 h2 h3 f0 f1 f2 f3 f4 f5 f6 f7 f8 f10 f11 lw e12 e7
    go_wp2_with fail
    go_end0
    exact ⟨⟨_, rfl⟩, unhide HE⟩
end Go.Proofs.YtaoodcielfabdaaGreat
